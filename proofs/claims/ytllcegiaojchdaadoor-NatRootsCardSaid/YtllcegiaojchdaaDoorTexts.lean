/- isochronelaw01.NatTexts answers true for all arguments. -/
import Derived.Test.YtllcegiaojchdaaDoorPowers
namespace Go.Proofs.YtllcegiaojchdaaDoor
open Go.RowKit V

theorem OkP.some {Q : List Nat → Prop} {w w' : World} {e : Ending} (h : OkP Q w e w') : SomeP w e w' := by
  obtain ⟨A, c, zs, h1, h2, h3, h4, h5⟩ := h
  exact ⟨A, c, _, _, h5, h3⟩
end Go.Proofs.YtllcegiaojchdaaDoor


/- isochronelaw01.NatPowers answers true for all arguments. -/
import Derived.Test.YtllcegiaojchdaaDoorOps
import Derived.Lib.LazyBuf
import Derived.Deep.LoopGhost
import Derived.Lib.ItoaNum
import Derived.Test.YtllcegiaojchdaaDoorShelf
import Derived.Lib.AppendIntMem
import Derived.Laws.IdiomCopy
import Derived.Lib.SmallJoins
import Derived.Laws.IdiomStrings
import Derived.Deep.RegionWith
import Derived.BigRegion
namespace Go.Proofs.YtllcegiaojchdaaDoor
open Go.RowKit V

/-- A slice and an error, whatever they are. -/
def SomeP (w : World) (e : Ending) (w' : World) : Prop := ∃ A c m en, e = .returned (.tuple #[.slice A m c, .int .i64 en]) ∧ Below w.heap.size w w'
theorem FitP.some {Q : List Nat → Prop} {w w' : World} {e : Ending} (h : FitP Q w e w') : SomeP w e w' := by
  obtain ⟨A, c, zs, h1, h2, h3, h4, h5⟩ := h
  rcases h5 with h5 | h5
  · exact ⟨A, c, _, _, h5.2, h3⟩
  · exact ⟨none, 0, _, _, h5.2, h3⟩
theorem ErrP.some {n : Int} {w w' : World} {e : Ending} (h : ErrP n w e w') : SomeP w e w' := ⟨none, 0, _, _, h.1, h.2⟩

end Go.Proofs.YtllcegiaojchdaaDoor


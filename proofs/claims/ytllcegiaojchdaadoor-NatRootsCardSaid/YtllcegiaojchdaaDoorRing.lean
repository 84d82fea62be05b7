/- isochronelaw01.NatRing answers true for all slices. -/
import Derived.Test.YtllcegiaojchdaaDoorOps
import Derived.Lib.LazyBuf
import Derived.Deep.LoopGhost
import Derived.Lib.ItoaNum
import Derived.Test.YtllcegiaojchdaaDoorShelf
import Derived.Lib.AppendIntMem
import Derived.Laws.IdiomCopy
import Derived.Lib.SmallJoins
import Derived.Laws.IdiomStrings
namespace Go.Proofs.YtllcegiaojchdaaDoor
open Go.RowKit V

theorem FitP.small {Q : List Nat → Prop} {w w' : World} {e : Ending} (h : FitP Q w e w') (hq : ∀ zs, Q zs → zs.length ≤ 4096) : OkP Q w e w' := by
  obtain ⟨A, c, zs, h1, h2, h3, h4, h5⟩ := h
  have := hq zs h4
  rcases h5 with h5 | h5
  · exact ⟨A, c, zs, h1, h2, h3, h4, h5.2⟩
  · omega
theorem V32_lt {xs : List Nat} (hx : Mag xs) {k : Nat} (h : xs.length ≤ k) : V32 xs < 4294967296 ^ k :=
  Nat.lt_of_lt_of_le (val_lt 4294967296 xs hx.1) (Nat.pow_le_pow_right (by omega) h)
end Go.Proofs.YtllcegiaojchdaaDoor


/- isochronelaw01.NatShifts answers true for all arguments. -/
import Derived.Test.YtllcegiaojchdaaDoorOps
import Derived.Lib.LazyBuf
import Derived.Deep.LoopGhost
import Derived.Lib.ItoaNum
import Derived.Test.YtllcegiaojchdaaDoorShelf
import Derived.Lib.AppendIntMem
import Derived.Laws.IdiomCopy
import Derived.Lib.SmallJoins
import Derived.Laws.IdiomStrings
import Derived.Deep.RegionWith
import Derived.BigRegion
namespace Go.Proofs.YtllcegiaojchdaaDoor
open Go.RowKit V

theorem pow_words (k : Nat) : (4294967296 : Nat) ^ k = 2 ^ (32 * k) := by rw [Nat.pow_mul]
theorem V32_pos {xs : List Nat} (hx : Mag xs) (h : 0 < xs.length) : 1 ≤ V32 xs := by
  have h1 := val_ge (B := 4294967296) hx.2 h
  have h2 : 0 < 4294967296 ^ (xs.length - 1) := Nat.pow_pos (by omega)
  unfold V32; omega
end Go.Proofs.YtllcegiaojchdaaDoor


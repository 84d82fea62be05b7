/- nat.timesAdd: a number times a word and a word more, in place where it can. -/
import Derived.Test.YtllcegiaojchdaaDoorVal
import Derived.Test.YtllcegiaojchdaaDoorRows
import Derived.Below
import Derived.Laws.OwnMore
import Derived.Laws.MakeOwn
import Derived.Deep.AppendLies
import Derived.Deep.Draws
import Derived.Laws.Rows
import Derived.Lib.Hide
import Derived.Deep.QuietTactic
import Derived.WalkKit
import Derived.WalkSpells
import Derived.WalkLawsBesides
import Derived.Laws.BitsAllLaws
import Derived.BigQuiet
import Derived.StillTailTactics
import Derived.Lib.LazyBuf
import Derived.Deep.LoopGhost
import Derived.Lib.ItoaNum
import Derived.Test.YtllcegiaojchdaaDoorShelf
import Derived.Lib.AppendIntMem
import Derived.Laws.IdiomCopy
import Derived.Lib.SmallJoins
import Derived.Laws.IdiomStrings
import Derived.Deep.RegionWith
import Derived.BigRegion
namespace Go.Proofs.YtllcegiaojchdaaDoor
open Go.RowKit V

theorem carry_facts (x f c : Nat) (hx : x < 4294967296) (hf : f < 4294967296) (hc : c < 4294967296) : ∃ s c2 : Nat, s < 4294967296 ∧ c2 < 4294967296 ∧ x * f + c < 18446744073709551616 ∧ Hid (((x : Int) * f + c) % 4294967296 = s) ∧ Hid (((x : Int) * f + c) / 4294967296 = c2) ∧ Hid (s + 4294967296 * c2 = x * f + c) := by
  have h1 : x * f ≤ 4294967295 * 4294967295 := Nat.mul_le_mul (by omega) (by omega)
  have e : ((x * f + c : Nat) : Int) = (x : Int) * f + c := by simp
  refine ⟨(x * f + c) % 4294967296, (x * f + c) / 4294967296, Nat.mod_lt _ (by omega), by omega, by omega, ?_, ?_, by show _ = _; omega⟩
  · show _ = _
    rw [← e]; omega
  · show _ = _
    rw [← e]; omega

end Go.Proofs.YtllcegiaojchdaaDoor


/- nat.addTimes and nat.mul: the product of the numbers; at most 100000 words together. -/
import Derived.Test.YtllcegiaojchdaaDoorVal
import Derived.Test.YtllcegiaojchdaaDoorRows
import Derived.Below
import Derived.Laws.OwnMore
import Derived.Laws.MakeOwn
import Derived.Deep.AppendLies
import Derived.Deep.Draws
import Derived.Laws.Rows
import Derived.Lib.Hide
import Derived.Deep.QuietTactic
import Derived.WalkKit
import Derived.WalkSpells
import Derived.WalkLawsBesides
import Derived.Laws.BitsAllLaws
import Derived.BigQuiet
import Derived.StillTailTactics
namespace Go.Proofs.YtllcegiaojchdaaDoor
open Go.RowKit V

theorem addr_at (g i : Nat) : (⟨g, 0, none⟩ : Addr).add i = ⟨g, i, none⟩ := by unfold Addr.add; split <;> simp_all

end Go.Proofs.YtllcegiaojchdaaDoor


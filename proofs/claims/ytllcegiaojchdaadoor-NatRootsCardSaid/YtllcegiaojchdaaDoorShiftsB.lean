/- isochronelaw01.NatShifts answers true for all arguments: downwards, and the whole. -/
import Derived.Test.YtllcegiaojchdaaDoorVal
import Derived.Test.YtllcegiaojchdaaDoorRows
import Derived.Below
import Derived.Laws.OwnMore
import Derived.Laws.MakeOwn
import Derived.Deep.AppendLies
import Derived.Deep.Draws
import Derived.Laws.Rows
import Derived.Lib.Hide
import Derived.Deep.QuietTactic
import Derived.WalkKit
import Derived.WalkSpells
import Derived.WalkLawsBesides
import Derived.Laws.BitsAllLaws
import Derived.BigQuiet
import Derived.StillTailTactics
import Derived.Lib.LazyBuf
import Derived.Deep.LoopGhost
import Derived.Lib.ItoaNum
import Derived.Test.YtllcegiaojchdaaDoorShelf
import Derived.Lib.AppendIntMem
import Derived.Laws.IdiomCopy
import Derived.Lib.SmallJoins
import Derived.Laws.IdiomStrings
import Derived.Deep.RegionWith
import Derived.BigRegion
namespace Go.Proofs.YtllcegiaojchdaaDoor
open Go.RowKit V

theorem mul_ge (q d r : Nat) (h : 0 < d) : q ≤ q * d + r := by
  have : q * 1 ≤ q * d := Nat.mul_le_mul_left _ h
  omega

end Go.Proofs.YtllcegiaojchdaaDoor


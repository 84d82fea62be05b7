/- What the functions of nat answer where an argument is no valid magnitude. -/
import Derived.Test.YtllcegiaojchdaaDoorVal
import Derived.Test.YtllcegiaojchdaaDoorRows
import Derived.Below
import Derived.Laws.OwnMore
import Derived.Laws.MakeOwn
import Derived.Deep.AppendLies
import Derived.Deep.Draws
import Derived.Laws.Rows
import Derived.Lib.Hide
import Derived.Deep.QuietTactic
import Derived.WalkKit
import Derived.WalkSpells
import Derived.WalkLawsBesides
import Derived.Laws.BitsAllLaws
import Derived.BigQuiet
import Derived.StillTailTactics
import Derived.Lib.LazyBuf
import Derived.Deep.LoopGhost
import Derived.Lib.ItoaNum
import Derived.Test.YtllcegiaojchdaaDoorShelf
import Derived.Lib.AppendIntMem
import Derived.Laws.IdiomCopy
import Derived.Lib.SmallJoins
import Derived.Laws.IdiomStrings
namespace Go.Proofs.YtllcegiaojchdaaDoor
open Go.RowKit V

/-- The answer v; the world is as it was. -/
def Plain (v : Value) (w : World) (e : Ending) (w' : World) : Prop := e = .returned v ∧ w = w'


end Go.Proofs.YtllcegiaojchdaaDoor


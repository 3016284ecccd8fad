/-
  CUTTING: the program's iterator over the parts, and impl.Cut.
-/
import Derived.RangeFuncNested
import Derived.RangeFuncBox
import Derived.RangeFuncLeaves
import Derived.Shelf.Abstract
import Derived.OwnWalkIn
import Derived.TacticsInMore
import Derived.LoopNIn
import Derived.LoopIn
import Derived.Test.YtldlpohkpmapcaaBase
import Derived.Test.YtldlpohkpmapcaaCloneW
namespace Go.Proofs.Ytldlpohkpmapcaa.mk
open Go.RowKit Go.Shelf
set_option linter.unusedVariables false
attribute [local go_sem] Oper.semAt_some

theorem abides_below {B : Nat} {J : List (ByteArray × Bool) → World → Prop} (h : AbidesFrom B J) : ∀ pre W W', J pre W → Below W.heap.size W W' → J pre W' :=
  fun pre W W' hj hb => h pre W W' none hj (grow_below none hb) (fun r e => by cases e)
end Go.Proofs.Ytldlpohkpmapcaa.mk

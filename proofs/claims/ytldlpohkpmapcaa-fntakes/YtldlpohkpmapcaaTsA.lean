/-
  A TAKE whose messages may stand anywhere in a row.
-/
import Derived.Test.YtldlpohkpmapcaaOsA
namespace Go.Proofs.Ytldlpohkpmapcaa.mk.f
open Go.RowKit
set_option linter.unusedVariables false

structure Rq (w : World) (ao so : Option Addr) (xs : List Hd) (rs : List ByteArray) : Prop where
  held : Rs w ao xs.length (hs xs)
  ready : Rr w so rs.length (ss rs)
theorem Rq.keep {w w' : World} {ao so : Option Addr} {xs : List Hd} {rs : List ByteArray} (h : Rq w ao so xs rs) (hb : Below w.heap.size w w') : Rq w' ao so xs rs := ⟨h.held.keep hb, h.ready.keep hb⟩
end Go.Proofs.Ytldlpohkpmapcaa.mk.f

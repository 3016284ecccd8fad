/-
  AN INTAKE as it lies.
-/
import Derived.Test.YteceaadmgpjmcabRgQ
namespace Go.Proofs.Yteceaadmgpjmcab.mk
open Go.RowKit
set_option linter.unusedVariables false

/-- an intake as it lies: its block, its cells, its messages -/
structure It5 (base R : Nat) (nx : Nat) (xs : List Hd) (o : ByteArray) (rs : List ByteArray) (ds : List Value) (v : Value) (w : World) : Prop where
  ring : Tn base R ds w
  hold : HoldT (nx : Int) xs o v ds
  row : w.ownsRow base 9 1 v rs.length (ss rs)
  win : Win nx xs
  small : ∀ i (h : i < xs.length), xs[i].seq < 1000000 ∧ xs[i].text.size ≤ 20
  opn : o.size ≤ 200
  many : rs.length ≤ 4
  le : nx ≤ 1000000
def nextOf (w : World) (R : Nat) : Nat := match w.cell? ⟨R, 0, none⟩ with
  | some (.int _ z) => z.toNat
  | _ => 0
theorem It5.nextOf {base R nx : Nat} {xs : List Hd} {o : ByteArray} {rs : List ByteArray} {ds : List Value} {v : Value} {w : World} (h : It5 base R nx xs o rs ds v w) : nextOf w R = nx := by
  unfold mk.nextOf
  rw [(h.ring.cell 0 (by omega)).trans h.hold.next]
  simp
theorem It5.keep {base R nx : Nat} {xs : List Hd} {o : ByteArray} {rs : List ByteArray} {ds : List Value} {v : Value} {w w' : World} (h : It5 base R nx xs o rs ds v w) (hb : Below w.heap.size w w') : It5 base R nx xs o rs ds v w' := ⟨h.ring.keep hb, h.hold, owns_keep h.row hb, h.win, h.small, h.opn, h.many, h.le⟩
end Go.Proofs.Yteceaadmgpjmcab.mk

/-
  PULLING A MESSAGE: what it gives; spec.TakePull.
-/
import Derived.Test.YtldlpohkpmapcaaOsA
import Derived.Test.YtldlpohkpmapcaaLiA
import Derived.Test.YtldlpohkpmapcaaRgJ0
namespace Go.Proofs.Ytldlpohkpmapcaa.mk
open Go.RowKit
set_option linter.unusedVariables false

theorem Orw.below {base : Nat} {v : Value} {n : Nat} {xs : List Value} {w : World} (h : Orw base v n xs w) {a : Addr} (ha : a.block < base) (u : Value) : Orw base v n xs (w.setCell a u) := h.other (fun e => by have := (h.lt _ e).1; omega) u
/-- an intake's data once the first message is taken -/
def pullT (nx : Nat) (xs : List Hd) (o : ByteArray) (rs : List ByteArray) : Nat × List Hd × ByteArray × List ByteArray := if rs.length = 0 then (nx, xs, o, rs) else tin xs nx o (rs.drop 1)
def pullS (rs : List ByteArray) : ByteArray := rs[0]?.getD ⟨#[]⟩
def pullB (rs : List ByteArray) : Bool := !decide (rs.length = 0)
noncomputable def pullOf (nx : Int) (xs : List Hd) (o : ByteArray) (rs : List ByteArray) : Nat × List Hd × ByteArray × List ByteArray := if tkOk nx xs o rs = true then pullT nx.toNat xs o rs else (0, [], ⟨#[]⟩, [])
noncomputable def pulledS (nx : Int) (xs : List Hd) (o : ByteArray) (rs : List ByteArray) : ByteArray := if tkOk nx xs o rs = true then pullS rs else ⟨#[]⟩
noncomputable def pulledB (nx : Int) (xs : List Hd) (o : ByteArray) (rs : List ByteArray) : Bool := if tkOk nx xs o rs = true then pullB rs else false
/-- an answer: a take with this data, a message, whether there was one -/
def PullPost (w : World) (T : Nat × List Hd × ByteArray × List ByteArray) (s : ByteArray) (b : Bool) (e : Ending) (w' : World) : Prop :=
  (∃ hv rv, e = .returned (.tuple #[.agg #[.int .i64 (T.1 : Int), hv, .string T.2.2.1, rv], .string s, .bool b]) ∧ w'.ownsRow w.heap.size 55 3 hv T.2.1.length (hs T.2.1) ∧ Orw w.heap.size rv T.2.2.2.length (ss T.2.2.2) w') ∧ Below w.heap.size w w'
theorem ss_drop1 (rs : List ByteArray) : ss (rs.drop 1) = (ss rs).drop 1 := by
  cases rs with
  | nil => rfl
  | cons x ys => rfl
theorem sdrop_cells {w : World} {base g n cap : Nat} {e : TypeId} {rs : List ByteArray} (h : w.ownsRow base e 1 (.slice (some ⟨g, 0, none⟩) n cap) n (ss rs)) : ∀ j u, (ss (rs.drop 1))[j]? = some u → w.cell? ((⟨g, 1, none⟩ : Addr).add j) = some u := by
  intro j u hj
  rw [ss_drop1, List.getElem?_drop] at hj
  have hl : 1 + j < (ss rs).length := by
    rcases Nat.lt_or_ge (1 + j) (ss rs).length with q | q
    · exact q
    · rw [List.getElem?_eq_none q] at hj; simp at hj
  have ea : (⟨g, 1, none⟩ : Addr).add j = ⟨g, 1 + j, none⟩ := by unfold Addr.add; split <;> simp_all
  rw [ea, h.cellAt (1 + j) (by rw [← h.1]; exact hl), hj]
end Go.Proofs.Ytldlpohkpmapcaa.mk

/-
  TAKING IN: spec.l5In.
-/
import Derived.Test.YtldlpohkpmapcaaRgQ
import Derived.Test.YtldlpohkpmapcaaCpT
namespace Go.Proofs.Ytldlpohkpmapcaa.mk
open Go.RowKit
set_option linter.unusedVariables false

theorem hs_drop1 (xs : List Hd) : hs (xs.drop 1) = (hs xs).drop 3 := by
  cases xs with
  | nil => rfl
  | cons x ys => rfl
theorem hdrop_cells {w : World} {base g n cap : Nat} {e : TypeId} {xs : List Hd} (h : w.ownsRow base e 3 (.slice (some ⟨g, 0, none⟩) n cap) n (hs xs)) : ∀ j u, (hs (xs.drop 1))[j]? = some u → w.cell? ((⟨g, 3, none⟩ : Addr).add j) = some u := by
  intro j u hj
  rw [hs_drop1, List.getElem?_drop] at hj
  have hl : 3 + j < (hs xs).length := by
    rcases Nat.lt_or_ge (3 + j) (hs xs).length with q | q
    · exact q
    · rw [List.getElem?_eq_none q] at hj; simp at hj
  have ea : (⟨g, 3, none⟩ : Addr).add j = ⟨g, 3 + j, none⟩ := by unfold Addr.add; split <;> simp_all
  rw [ea, h.cellAt (3 + j) (by rw [← h.1]; exact hl), hj]
theorem cons_drop {x : Hd} {xs : List Hd} (h : 0 < xs.length) (hx : x = xs[0]) : tin xs = tin (x :: xs.drop 1) := by
  cases xs with
  | nil => simp at h
  | cons y ys => rw [hx]; rfl
theorem drop_small {xs : List Hd} (h : ∀ i (h : i < xs.length), xs[i].seq < 1000000 ∧ xs[i].text.size ≤ 20) : ∀ i (h : i < (xs.drop 1).length), (xs.drop 1)[i].seq < 1000000 ∧ (xs.drop 1)[i].text.size ≤ 20 := by
  intro i hi
  rw [List.getElem_drop]
  exact h (1 + i) (by rw [List.length_drop] at hi; omega)
theorem one_cell {W : World} {H j : Nat} {s : ByteArray} {u : Value} (h : (W.alloc (.cells #[.string s] 9)).cell? ⟨H, 0, none⟩ = some (.string s)) (hj : ([.string s] : List Value)[j]? = some u) : (W.alloc (.cells #[.string s] 9)).cell? ((⟨H, 0, none⟩ : Addr).add j) = some u := by
  cases j with
  | zero => simp at hj; rw [← hj]; exact h
  | succ j => simp at hj
/-- a Take in the making: its box, its rows -/
structure Lt (base B : Nat) (nx : Nat) (xs : List Hd) (o : ByteArray) (rs : List ByteArray) (hv rv : Value) (w : World) : Prop where
  box : Bx w B 30 #[.int .i64 (nx : Int), hv, .string o, rv]
  held : w.ownsRow base 55 3 hv xs.length (hs xs)
  ready : w.ownsRow base 9 1 rv rs.length (ss rs)
  small : ∀ i (h : i < xs.length), xs[i].seq < 1000000 ∧ xs[i].text.size ≤ 20
  opn : o.size ≤ 200
  many : rs.length ≤ 4
  len : xs.length ≤ 9
  le : nx ≤ 1000000
def nextAt (w : World) (B : Nat) : Nat := match w.cell? ⟨B, 0, none⟩ with
  | some (.int _ z) => z.toNat
  | _ => 0
theorem Lt.nextAt {base B nx : Nat} {xs : List Hd} {o : ByteArray} {rs : List ByteArray} {hv rv : Value} {w : World} (h : Lt base B nx xs o rs hv rv w) : nextAt w B = nx := by
  unfold mk.nextAt
  rw [h.box.cell 0]
  simp
theorem Lt.keep {base B nx : Nat} {xs : List Hd} {o : ByteArray} {rs : List ByteArray} {hv rv : Value} {w w' : World} (h : Lt base B nx xs o rs hv rv w) (hb : Below w.heap.size w w') : Lt base B nx xs o rs hv rv w' := ⟨h.box.keep hb, owns_keep h.held hb, owns_keep h.ready hb, h.small, h.opn, h.many, h.len, h.le⟩
end Go.Proofs.Ytldlpohkpmapcaa.mk

/-
  PULLING at an end: what the contracts share.
-/
import Derived.Test.YthjncmgjkejikaaEpA
import Derived.Test.YthjncmgjkejikaaOsE
import Derived.Test.YthjncmgjkejikaaPuA
namespace Go.Proofs.Ythjncmgjkejikaa.mk
open Go.RowKit
set_option linter.unusedVariables false

theorem tin_lenQ (xs : List Hd) : ∀ (nx : Nat) (o : ByteArray) (rs : List ByteArray), (tin xs nx o rs).2.1.length ≤ xs.length ∧ (tin xs nx o rs).2.2.2.length ≤ rs.length + xs.length := by
  induction xs with
  | nil => intro nx o rs; simp [tin]
  | cons x xs ih =>
    intro nx o rs
    unfold tin
    split
    · split
      · have := ih (nx + 1) ⟨#[]⟩ (rs ++ [o ++ x.text])
        simp at this ⊢
        omega
      · have := ih (nx + 1) (o ++ x.text) rs
        simp at this ⊢
        omega
    · simp
theorem pull_lenQ {nx : Int} {xs : List Hd} {o : ByteArray} {rs : List ByteArray} (hv : tkOk nx xs o rs = true) : (pullT nx.toNat xs o rs).2.1.length ≤ 8 ∧ (pullT nx.toNat xs o rs).2.2.2.length ≤ 12 := by
  have h1 := (tkOk_of hv).len
  have h2 := (tkOk_of hv).1
  unfold TkHd at h2
  unfold pullT
  split
  · exact ⟨by omega, by show rs.length ≤ 12; omega⟩
  · have h4 := tin_lenQ xs nx.toNat o (rs.drop 1)
    rw [List.length_drop] at h4
    omega
theorem set_selfQ (cr ds l : List Value) (j : Nat) (v : Value) (h1 : cr.length = 242) (h2 : ds.length = 20) : (cr ++ (ds ++ l)).set (262 + j) v = cr ++ (ds ++ l.set j v) := by
  rw [List.set_append_right _ _ (by omega), List.set_append_right _ _ (by omega)]
  congr 3
  omega
theorem self_atQ {cr ds l : List Value} {w : World} {base A n : Nat} {t : TypeId} (h : w.ownsRow base t n (.slice (some ⟨A, 0, none⟩) 1 1) 1 (cr ++ (ds ++ l))) (h1 : cr.length = 242) (h2 : ds.length = 20) (j k : Nat) (hk : k = 262 + j) (hj : j < l.length) : w.cell? ⟨A, k, none⟩ = l[j]? := by
  subst hk
  have hl := h.1
  simp only [List.length_append] at hl
  rw [h.cellAt (262 + j) (by omega), List.getElem?_append_right (by omega), List.getElem?_append_right (by omega)]
  congr 1
  omega
/-- an answer of a pull -/
def PAnsQ (w : World) (m : Nat) (zs : List Hd) (p : ByteArray) (ts : List ByteArray) (s : ByteArray) (b : Bool) (e : Ending) (w' : World) : Prop :=
  (∃ aw cw bw ew, e = .returned (.tuple #[.agg #[.int .i64 ((m : Nat) : Int), .slice aw zs.length cw, .string p, .slice bw ts.length ew], .string s, .bool b]) ∧ w'.ownsRow w.heap.size 107 3 (.slice aw zs.length cw) zs.length (hs zs) ∧ Orw w.heap.size (.slice bw ts.length ew) ts.length (ss ts) w') ∧ Below w.heap.size w w'
theorem PAnsQ.of {w : World} {T : Nat × List Hd × ByteArray × List ByteArray} {m : Nat} {zs : List Hd} {p : ByteArray} {ts : List ByteArray} {s s' : ByteArray} {b b' : Bool} (hT : T = (m, zs, p, ts)) (hs : s' = s) (hb : b' = b) {e : Ending} {w' : World} (h : PullPost w T s' b' e w') : PAnsQ w m zs p ts s b e w' := by
  subst hT hs hb
  obtain ⟨⟨hv, v, he, h1, h2⟩, hb⟩ := h
  obtain ⟨aw, cw, rfl, -, -, -⟩ := rs_of_owns h1
  obtain ⟨bw, ew, rfl, -, -, -⟩ := h2.slice
  exact ⟨⟨aw, cw, bw, ew, he, h1, h2⟩, hb⟩
theorem orw15 {w : World} {base n : Nat} {v : Value} {xs : List Value} (h : Orw base v n xs w) (B : Nat) (hB : B < base) (c0 c1 c2 c3 c4 c5 c6 c7 c8 c9 c10 c11 c12 c13 c14 : Value) :
    Orw base v n xs (((((((((((((((w.setCell ⟨B, 0, none⟩ c0).setCell ⟨B, 1, none⟩ c1).setCell ⟨B, 2, none⟩ c2).setCell ⟨B, 3, none⟩ c3).setCell ⟨B, 4, none⟩ c4).setCell ⟨B, 5, none⟩ c5).setCell ⟨B, 6, none⟩ c6).setCell ⟨B, 7, none⟩ c7).setCell ⟨B, 8, none⟩ c8).setCell ⟨B, 9, none⟩ c9).setCell ⟨B, 10, none⟩ c10).setCell ⟨B, 11, none⟩ c11).setCell ⟨B, 12, none⟩ c12).setCell ⟨B, 13, none⟩ c13).setCell ⟨B, 14, none⟩ c14) :=
  (Orw.below (Orw.below (Orw.below (Orw.below (Orw.below (Orw.below (Orw.below (Orw.below (Orw.below (Orw.below (Orw.below (Orw.below (Orw.below (Orw.below (Orw.below h (a := ⟨B, 0, none⟩) hB c0) (a := ⟨B, 1, none⟩) hB c1) (a := ⟨B, 2, none⟩) hB c2) (a := ⟨B, 3, none⟩) hB c3) (a := ⟨B, 4, none⟩) hB c4) (a := ⟨B, 5, none⟩) hB c5) (a := ⟨B, 6, none⟩) hB c6) (a := ⟨B, 7, none⟩) hB c7) (a := ⟨B, 8, none⟩) hB c8) (a := ⟨B, 9, none⟩) hB c9) (a := ⟨B, 10, none⟩) hB c10) (a := ⟨B, 11, none⟩) hB c11) (a := ⟨B, 12, none⟩) hB c12) (a := ⟨B, 13, none⟩) hB c13) (a := ⟨B, 14, none⟩) hB c14)
end Go.Proofs.Ythjncmgjkejikaa.mk

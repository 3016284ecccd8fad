/-
  A PART PUT IN ITS PLACE, plain.
-/
import Derived.Test.YteceaadmgpjmcabRgE0
namespace Go.Proofs.Yteceaadmgpjmcab.mk
open Go.RowKit
set_option linter.unusedVariables false

/-- x put in its place -/
def ins (x : Hd) : List Hd → List Hd
  | [] => [x]
  | y :: ys => if x.seq < y.seq then x :: y :: ys else y :: ins x ys
theorem mem_ins (x y : Hd) (xs : List Hd) : y ∈ ins x xs ↔ y = x ∨ y ∈ xs := by
  induction xs with
  | nil => simp [ins]
  | cons z zs ih =>
    unfold ins
    split
    · simp
    · simp only [List.mem_cons, ih]
      constructor
      · rintro (h | h | h)
        · exact .inr (.inl h)
        · exact .inl h
        · exact .inr (.inr h)
      · rintro (h | h | h)
        · exact .inr (.inl h)
        · exact .inl h
        · exact .inr (.inr h)
theorem ins_length (x : Hd) (xs : List Hd) : (ins x xs).length = xs.length + 1 := by
  induction xs with
  | nil => rfl
  | cons z zs ih =>
    unfold ins
    split
    · simp
    · simp [ih]
def Rng (nx : Nat) (y : Hd) : Prop := nx ≤ y.seq.toNat ∧ y.seq.toNat < nx + 8 ∧ 0 ≤ y.seq
theorem win_iff {nx : Nat} {xs : List Hd} : Win nx xs ↔ (∀ y ∈ xs, Rng nx y) ∧ xs.Pairwise (fun a b => a.seq < b.seq) := by
  constructor
  · intro h
    refine ⟨fun y hy => ?_, List.pairwise_iff_getElem.2 fun i j hi hj hij => h.2 i j hi hj hij⟩
    obtain ⟨i, hi, rfl⟩ := List.getElem_of_mem hy
    exact h.1 i hi
  · intro h
    exact ⟨fun i hi => h.1 _ (List.getElem_mem hi), fun i j hi hj hij => List.pairwise_iff_getElem.1 h.2 i j hi hj hij⟩
theorem ins_pair (x : Hd) (xs : List Hd) (h : xs.Pairwise (fun a b => a.seq < b.seq)) (hx : ∀ y ∈ xs, y.seq ≠ x.seq) : (ins x xs).Pairwise (fun a b => a.seq < b.seq) := by
  induction xs with
  | nil => simp [ins]
  | cons z zs ih =>
    rw [List.pairwise_cons] at h
    unfold ins
    split
    · rename_i hlt
      rw [List.pairwise_cons]
      refine ⟨fun y hy => ?_, List.pairwise_cons.2 h⟩
      rcases List.mem_cons.1 hy with rfl | hy
      · exact hlt
      · have := h.1 y hy; omega
    · rename_i hlt
      have hz := hx z (by simp)
      rw [List.pairwise_cons]
      refine ⟨fun y hy => ?_, ih h.2 (fun y hy => hx y (by simp [hy]))⟩
      rcases (mem_ins x y zs).1 hy with rfl | hy
      · omega
      · exact h.1 y hy
theorem Win.ins {nx : Nat} {x : Hd} {xs : List Hd} (h : Win nx xs) (hr : Rng nx x) (hx : ∀ y ∈ xs, y.seq ≠ x.seq) : Win nx (ins x xs) := by
  obtain ⟨h1, h2⟩ := win_iff.1 h
  refine win_iff.2 ⟨fun y hy => ?_, ins_pair x xs h2 hx⟩
  rcases (mem_ins x y xs).1 hy with rfl | hy
  · exact hr
  · exact h1 y hy
theorem Win.fresh_of {nx : Nat} {x : Hd} {xs : List Hd} (h : Win nx xs) (hr : Rng nx x) (hx : ∀ y ∈ xs, y.seq ≠ x.seq) : ∀ y ∈ xs, y.seq.toNat % 8 ≠ x.seq.toNat % 8 := by
  intro y hy
  have h1 := (win_iff.1 h).1 y hy
  have h2 := hx y hy
  unfold Rng at h1 hr
  omega
theorem has_yes {x : Hd} {xs : List Hd} (h : ∃ y ∈ xs, y.seq = x.seq) : inB (bitsOf xs) (x.seq.toNat % 8) = true := by
  obtain ⟨y, hy, he⟩ := h
  rw [inB_of _ _ (by omega), List.any_eq_true]
  exact ⟨y, hy, by rw [he]; simp⟩
theorem has_no {nx : Nat} {x : Hd} {xs : List Hd} (h : Win nx xs) (hr : Rng nx x) (hx : ∀ y ∈ xs, y.seq ≠ x.seq) : inB (bitsOf xs) (x.seq.toNat % 8) = false := by
  rw [inB_of _ _ (by omega), List.any_eq_false]
  intro y hy
  have := h.fresh_of hr hx y hy
  simp only [beq_iff_eq]
  omega
theorem bits_ins (x : Hd) (xs : List Hd) : bitsOf (ins x xs) = orB (bitsOf xs) (x.seq.toNat % 8) := by
  apply bits_ext (bitsOf_lt _) (orB_small (bitsOf_lt _) (by omega))
  intro j hj
  have h2 := inB_or ⟨bitsOf xs, bitsOf_lt _⟩ ⟨x.seq.toNat % 8, by omega⟩ ⟨j, hj⟩
  dsimp only at h2
  rw [h2, inB_of _ j hj, inB_of _ j hj, Bool.eq_iff_iff, Bool.or_eq_true, List.any_eq_true, List.any_eq_true]
  simp only [beq_iff_eq]
  constructor
  · rintro ⟨y, hy, he⟩
    rcases (mem_ins x y xs).1 hy with rfl | hy
    · exact .inr he
    · exact .inl ⟨y, hy, he⟩
  · rintro (⟨y, hy, he⟩ | he)
    · exact ⟨y, (mem_ins x y xs).2 (.inr hy), he⟩
    · exact ⟨x, (mem_ins x x xs).2 (.inl rfl), he⟩
theorem HoldT.ins {nx : Int} {m : Nat} {x : Hd} {xs : List Hd} {o : ByteArray} {v : Value} {cs : List Value} (h : HoldT nx xs o v cs) (hw : Win m xs) (hr : Rng m x) (hx : ∀ y ∈ xs, y.seq ≠ x.seq) :
    HoldT nx (mk.ins x xs) o v (mk.putq cs (bitsOf xs) x.seq.toNat x.text x.last) := by
  refine ⟨by rw [putq_length, h.len], ?_, by rw [putq_bits h.len, bits_ins], h.ty.putq h.len _ _ _ _, fun i hi => ?_, ?_, ?_⟩
  · rw [putq_other _ _ _ _ _ (by omega) (by omega) (by omega), h.next]
  · obtain ⟨y, hy⟩ : ∃ y, y = (mk.ins x xs)[i] := ⟨_, rfl⟩
    have hm : y ∈ mk.ins x xs := by rw [hy]; exact List.getElem_mem hi
    rw [← hy]
    rcases (mem_ins x y xs).1 hm with rfl | hm
    · exact putq_at h.len _ _ _ _
    · have hne := hw.fresh_of hr hx y hm
      obtain ⟨k, hk, rfl⟩ := List.getElem_of_mem hm
      rw [putq_other _ _ _ _ _ (by omega) (by omega) (by omega), putq_other _ _ _ _ _ (by omega) (by omega) (by omega)]
      exact h.parts k hk
  · rw [putq_other _ _ _ _ _ (by omega) (by omega) (by omega), h.opn]
  · rw [putq_other _ _ _ _ _ (by omega) (by omega) (by omega), h.ready]
end Go.Proofs.Yteceaadmgpjmcab.mk

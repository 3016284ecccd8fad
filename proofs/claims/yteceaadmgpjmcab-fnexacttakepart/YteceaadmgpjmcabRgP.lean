/-
  THE INTAKE, plain: which bits are set by which parts.
-/
import Derived.Test.YteceaadmgpjmcabVTkC
import Derived.Test.YteceaadmgpjmcabBitA
namespace Go.Proofs.Yteceaadmgpjmcab.mk
open Go.RowKit
set_option linter.unusedVariables false

def bitsFrom (B : Nat) (xs : List Hd) : Nat := xs.foldl (fun B x => orB B (x.seq.toNat % 8)) B
def bitsOf (xs : List Hd) : Nat := bitsFrom 0 xs
theorem orB_small {B k : Nat} (hB : B < 256) (hk : k < 8) : orB B k < 256 := orB_lt ⟨B, hB⟩ ⟨k, hk⟩
theorem bitsFrom_lt (xs : List Hd) (B : Nat) (hB : B < 256) : bitsFrom B xs < 256 := by
  induction xs generalizing B with
  | nil => exact hB
  | cons x xs ih => exact ih _ (orB_small hB (by omega))
theorem bitsOf_lt (xs : List Hd) : bitsOf xs < 256 := bitsFrom_lt xs 0 (by omega)
theorem bitsOf_snoc (xs : List Hd) (x : Hd) : bitsOf (xs ++ [x]) = orB (bitsOf xs) (x.seq.toNat % 8) := by simp [bitsOf, bitsFrom]
theorem inB_from (xs : List Hd) (B j : Nat) (hB : B < 256) (hj : j < 8) : inB (bitsFrom B xs) j = (inB B j || xs.any fun x => j == x.seq.toNat % 8) := by
  induction xs generalizing B with
  | nil => simp [bitsFrom]
  | cons x xs ih =>
    have := ih (orB B (x.seq.toNat % 8)) (orB_small hB (by omega))
    have h2 := inB_or ⟨B, hB⟩ ⟨x.seq.toNat % 8, by omega⟩ ⟨j, hj⟩
    dsimp only at h2
    rw [show bitsFrom B (x :: xs) = bitsFrom (orB B (x.seq.toNat % 8)) xs from rfl, this, h2, List.any_cons, Bool.or_assoc]
theorem inB_of (xs : List Hd) (j : Nat) (hj : j < 8) : inB (bitsOf xs) j = xs.any fun x => j == x.seq.toNat % 8 := by
  have h0 : inB 0 j = false := by simp [inB]
  rw [bitsOf, inB_from xs 0 j (by omega) hj, h0, Bool.false_or]
/-- the sum that a word tells -/
def tells (nx : Nat) : List Hd → Nat
  | [] => 0
  | x :: xs => 2 ^ (x.seq.toNat - nx) + tells nx xs
theorem tells_snoc (nx : Nat) (xs : List Hd) (x : Hd) : tells nx (xs ++ [x]) = tells nx xs + 2 ^ (x.seq.toNat - nx) := by
  induction xs with
  | nil => simp [tells]
  | cons y ys ih => simp only [List.cons_append, tells, ih]; omega
/-- the numbers lie in a window, and no two are alike -/
def Win (nx : Nat) (xs : List Hd) : Prop := (∀ i (h : i < xs.length), nx ≤ xs[i].seq.toNat ∧ xs[i].seq.toNat < nx + 8 ∧ 0 ≤ xs[i].seq) ∧ ∀ i j (hi : i < xs.length) (hj : j < xs.length), i < j → xs[i].seq < xs[j].seq
theorem HsOk.asc {nx : Int} {xs : List Hd} {o : ByteArray} {nr : Nat} (h : HsOk nx xs o nr) (i d : Nat) (hd : i + d + 1 < xs.length) : xs[i].seq < xs[i + d + 1].seq := by
  induction d with
  | zero =>
    have := (h (i + 1) (by omega)).1
    rw [lowAt_succ nx xs i (by omega)] at this
    show xs[i].seq < xs[i + 0 + 1].seq
    simp only [Nat.add_zero]
    omega
  | succ d ih =>
    have h1 := ih (by omega)
    have := (h (i + d + 1 + 1) (by omega)).1
    rw [lowAt_succ nx xs (i + d + 1) (by omega)] at this
    show xs[i].seq < xs[i + d + 1 + 1].seq
    omega
theorem HsOk.win {nx : Nat} {xs : List Hd} {o : ByteArray} {nr : Nat} (h : HsOk (nx : Int) xs o nr) : Win nx xs := by
  refine ⟨fun i hi => ?_, fun i j hi hj hij => ?_⟩
  · have h1 := low_le i (by omega) (fun j hj _ => h j hj)
    have h2 := h i hi
    have h3 := h2.1
    have h4 := h2.2.1
    omega
  · obtain ⟨d, rfl⟩ : ∃ d, j = i + d + 1 := ⟨j - i - 1, by omega⟩
    exact h.asc i d hj
theorem Win.init {nx : Nat} {xs : List Hd} {x : Hd} (h : Win nx (xs ++ [x])) : Win nx xs := by
  refine ⟨fun i hi => ?_, fun i j hi hj hij => ?_⟩
  · have := h.1 i (by simp; omega)
    rwa [List.getElem_append_left hi] at this
  · have := h.2 i j (by simp; omega) (by simp; omega) hij
    rwa [List.getElem_append_left hi, List.getElem_append_left hj] at this
theorem Win.fresh {nx : Nat} {xs : List Hd} {x : Hd} (h : Win nx (xs ++ [x])) : inB (bitsOf xs) (x.seq.toNat % 8) = false := by
  rw [inB_of xs _ (by omega), List.any_eq_false]
  intro y hy
  obtain ⟨i, hi, rfl⟩ := List.getElem_of_mem hy
  have h1 := h.1 i (by simp; omega)
  have h2 := h.1 xs.length (by simp)
  have h3 := h.2 i xs.length (by simp; omega) (by simp) hi
  rw [List.getElem_append_left hi] at h1 h3
  simp only [List.getElem_concat_length] at h2 h3
  simp only [beq_iff_eq]
  omega
theorem rot_tells (nx : Nat) (xs : List Hd) (h : Win nx xs) : rotB (bitsOf xs) (nx % 8) = tells nx xs := by
  obtain ⟨ys, rfl⟩ : ∃ ys, xs = ys.reverse := ⟨xs.reverse, by simp⟩
  induction ys with
  | nil => simp [bitsOf, bitsFrom, tells, rotB]
  | cons y ys ih =>
    rw [List.reverse_cons] at h ⊢
    have h1 := ih h.init
    have h2 := rot_or ⟨bitsOf ys.reverse, bitsOf_lt _⟩ ⟨y.seq.toNat % 8, by omega⟩ ⟨nx % 8, by omega⟩ h.fresh
    have h3 := h.1 ys.reverse.length (by simp)
    simp only [List.getElem_concat_length] at h3
    dsimp only at h2
    rw [bitsOf_snoc, h2, h1, tells_snoc, show (y.seq.toNat % 8 + 8 - nx % 8) % 8 = y.seq.toNat - nx by omega]
theorem rot_lt : ∀ (B : Fin 256) (r : Fin 8), rotB B.val r.val < 256 := by decide +kernel
theorem rot_small (xs : List Hd) (q : Nat) : rotB (bitsOf xs) (q % 8) < 256 := rot_lt ⟨bitsOf xs, bitsOf_lt xs⟩ ⟨q % 8, by omega⟩
end Go.Proofs.Yteceaadmgpjmcab.mk

/-
  TAKING IN, plain.
-/
import Derived.Test.YteceaadmgpjmcabRgC
namespace Go.Proofs.Yteceaadmgpjmcab.mk
open Go.RowKit
set_option linter.unusedVariables false

theorem bits_sum : ∀ B : Fin 256, B.val = ((List.range 8).map fun j => if inB B.val j then 2 ^ j else 0).sum := by decide +kernel
theorem bits_ext {B B' : Nat} (hB : B < 256) (hB' : B' < 256) (h : ∀ j, j < 8 → inB B j = inB B' j) : B = B' := by
  have h1 := bits_sum ⟨B, hB⟩
  have h2 := bits_sum ⟨B', hB'⟩
  dsimp only at h1 h2
  rw [h1, h2]
  congr 1
  apply List.map_congr_left
  intro j hj
  rw [h j (List.mem_range.1 hj)]
theorem Win.tail {nx : Nat} {x : Hd} {xs : List Hd} (h : Win nx (x :: xs)) (hx : x.seq = (nx : Int)) : Win (nx + 1) xs := by
  refine ⟨fun i hi => ?_, fun i j hi hj hij => ?_⟩
  · have h1 := h.1 (i + 1) (by simp; omega)
    have h2 := h.2 0 (i + 1) (by simp) (by simp; omega) (by omega)
    simp only [List.getElem_cons_succ, List.getElem_cons_zero] at h1 h2
    omega
  · have := h.2 (i + 1) (j + 1) (by simp; omega) (by simp; omega) (by omega)
    simpa using this
theorem Win.apart {nx : Nat} {x : Hd} {xs : List Hd} (h : Win nx (x :: xs)) : ∀ y ∈ xs, y.seq.toNat % 8 ≠ x.seq.toNat % 8 := by
  intro y hy
  obtain ⟨i, hi, rfl⟩ := List.getElem_of_mem hy
  have h0 := h.1 0 (by simp)
  have h1 := h.1 (i + 1) (by simp; omega)
  have h2 := h.2 0 (i + 1) (by simp) (by simp; omega) (by omega)
  simp only [List.getElem_cons_succ, List.getElem_cons_zero] at h0 h1 h2
  omega
theorem offB_small {B k : Nat} (hB : B < 256) (hk : k < 8) : offB B k < 256 := offB_lt ⟨B, hB⟩ ⟨k, hk⟩
theorem bits_drop {nx : Nat} {x : Hd} {xs : List Hd} (h : Win nx (x :: xs)) : offB (bitsOf (x :: xs)) (x.seq.toNat % 8) = bitsOf xs := by
  apply bits_ext (offB_small (bitsOf_lt _) (by omega)) (bitsOf_lt _)
  intro j hj
  have h2 := inB_off ⟨bitsOf (x :: xs), bitsOf_lt _⟩ ⟨x.seq.toNat % 8, by omega⟩ ⟨j, hj⟩
  dsimp only at h2
  rw [h2, inB_of _ j hj, inB_of _ j hj, List.any_cons]
  by_cases e : j = x.seq.toNat % 8
  · subst e
    have : (xs.any fun y => x.seq.toNat % 8 == y.seq.toNat % 8) = false := by
      rw [List.any_eq_false]
      intro y hy
      have := h.apart y hy
      simp only [beq_iff_eq]
      omega
    rw [this]
    simp
  · have e1 : (j == x.seq.toNat % 8) = false := by simpa using e
    have e2 : (j != x.seq.toNat % 8) = true := by simpa using e
    rw [e1, e2, Bool.false_or, Bool.and_true]
theorem head_yes {nx : Nat} {x : Hd} {xs : List Hd} (hx : x.seq = (nx : Int)) : inB (bitsOf (x :: xs)) (nx % 8) = true := by
  rw [inB_of _ _ (by omega), List.any_cons, hx]
  simp
theorem head_no {nx : Nat} {xs : List Hd} (h : Win nx xs) (hno : ∀ h0 : 0 < xs.length, xs[0].seq ≠ (nx : Int)) : inB (bitsOf xs) (nx % 8) = false := by
  rw [inB_of _ _ (by omega), List.any_eq_false]
  intro y hy
  obtain ⟨i, hi, rfl⟩ := List.getElem_of_mem hy
  have h1 := h.1 i hi
  have h0 := hno (by omega)
  have h2 : xs[i].seq ≠ (nx : Int) := by
    rcases Nat.eq_zero_or_pos i with rfl | hp
    · exact h0
    · have := h.2 0 i (by omega) hi hp
      have := h.1 0 (by omega)
      omega
  simp only [beq_iff_eq]
  omega
theorem HoldT.drop {nx : Int} {m : Nat} {x : Hd} {xs : List Hd} {o : ByteArray} {v : Value} {cs : List Value} (h : HoldT nx (x :: xs) o v cs) (hw : Win m (x :: xs)) :
    HoldT nx xs o v (cs.set 17 (.int .u8 ((offB (bitsOf (x :: xs)) (x.seq.toNat % 8) : Nat) : Int))) := by
  have hl := h.len
  refine ⟨by rw [List.length_set, hl], by rw [List.getElem?_set_ne (by omega), h.next], by rw [List.getElem?_set_self (by omega), bits_drop hw], fun j hj => ?_, fun i hi => ?_, by rw [List.getElem?_set_ne (by omega), h.opn], by rw [List.getElem?_set_ne (by omega), h.ready]⟩
  · obtain ⟨s, l, h1, h2⟩ := h.ty j hj
    exact ⟨s, l, by rw [List.getElem?_set_ne (by omega), h1], by rw [List.getElem?_set_ne (by omega), h2]⟩
  · rw [List.getElem?_set_ne (by omega), List.getElem?_set_ne (by omega)]
    have := h.parts (i + 1) (by simp; omega)
    simpa using this
theorem HoldT.setNext {nx : Int} {xs : List Hd} {o : ByteArray} {v : Value} {cs : List Value} (h : HoldT nx xs o v cs) (n : Int) : HoldT n xs o v (cs.set 0 (.int .i64 n)) := by
  have hl := h.len
  refine ⟨by rw [List.length_set, hl], List.getElem?_set_self (by omega), by rw [List.getElem?_set_ne (by omega), h.bits], fun j hj => ?_, fun i hi => ?_, by rw [List.getElem?_set_ne (by omega), h.opn], by rw [List.getElem?_set_ne (by omega), h.ready]⟩
  · obtain ⟨s, l, h1, h2⟩ := h.ty j hj
    exact ⟨s, l, by rw [List.getElem?_set_ne (by omega), h1], by rw [List.getElem?_set_ne (by omega), h2]⟩
  · rw [List.getElem?_set_ne (by omega), List.getElem?_set_ne (by omega)]
    exact h.parts i hi
theorem HoldT.setOpen {nx : Int} {xs : List Hd} {o : ByteArray} {v : Value} {cs : List Value} (h : HoldT nx xs o v cs) (p : ByteArray) : HoldT nx xs p v (cs.set 18 (.string p)) := by
  have hl := h.len
  refine ⟨by rw [List.length_set, hl], by rw [List.getElem?_set_ne (by omega), h.next], by rw [List.getElem?_set_ne (by omega), h.bits], fun j hj => ?_, fun i hi => ?_, List.getElem?_set_self (by omega), by rw [List.getElem?_set_ne (by omega), h.ready]⟩
  · obtain ⟨s, l, h1, h2⟩ := h.ty j hj
    exact ⟨s, l, by rw [List.getElem?_set_ne (by omega), h1], by rw [List.getElem?_set_ne (by omega), h2]⟩
  · rw [List.getElem?_set_ne (by omega), List.getElem?_set_ne (by omega)]
    exact h.parts i hi
/-- what is taken in: next, held, open, ready -/
def tin : List Hd → Nat → ByteArray → List ByteArray → Nat × List Hd × ByteArray × List ByteArray
  | [], nx, o, rs => (nx, [], o, rs)
  | x :: xs, nx, o, rs => if x.seq = (nx : Int) ∧ CanIn o rs.length x.text x.last then (if x.last = true then tin xs (nx + 1) ⟨#[]⟩ (rs ++ [o ++ x.text]) else tin xs (nx + 1) (o ++ x.text) rs) else (nx, x :: xs, o, rs)
theorem tin_stop {xs : List Hd} {nx : Nat} {o : ByteArray} {rs : List ByteArray} (h : ∀ h0 : 0 < xs.length, ¬ (xs[0].seq = (nx : Int) ∧ CanIn o rs.length xs[0].text xs[0].last)) : tin xs nx o rs = (nx, xs, o, rs) := by
  cases xs with
  | nil => rfl
  | cons x xs => rw [tin, if_neg (show ¬ (x.seq = (nx : Int) ∧ CanIn o rs.length x.text x.last) from h (by simp))]
theorem tin_last {x : Hd} {xs : List Hd} {nx : Nat} {o : ByteArray} {rs : List ByteArray} (hx : x.seq = (nx : Int)) (hc : CanIn o rs.length x.text x.last) (hl : x.last = true) : tin (x :: xs) nx o rs = tin xs (nx + 1) ⟨#[]⟩ (rs ++ [o ++ x.text]) := by
  rw [tin, if_pos ⟨hx, hc⟩, if_pos hl]
theorem tin_more {x : Hd} {xs : List Hd} {nx : Nat} {o : ByteArray} {rs : List ByteArray} (hx : x.seq = (nx : Int)) (hc : CanIn o rs.length x.text x.last) (hl : x.last = false) : tin (x :: xs) nx o rs = tin xs (nx + 1) (o ++ x.text) rs := by
  rw [tin, if_pos ⟨hx, hc⟩, if_neg (by simp [hl])]
theorem off_at (B k : Nat) (hB : B < 256) (hk : k < 8) : bits BinOp.andNot IntKind.u8 (B : Int) ((2 ^ k : Nat) : Int) = ((offB B k : Nat) : Int) := off_bit ⟨B, hB⟩ ⟨k, hk⟩
set_option maxHeartbeats 1000000 in
theorem drop_in (base R B q : Nat) (cs : List Value) (w : World) (hr : Tn base R cs w) (hB : B < 256) (hq : q ≤ 2000000) (hb : cs[17]? = some (.int .u8 (B : Int))) :
    Calls Try.prog 43 #[.pointer (some ⟨R, 1, none⟩), .int .i64 q] w fun x w' => (∃ v, x = .returned v) ∧ Tn base R (cs.set 17 (.int .u8 ((offB B (q % 8) : Nat) : Int))) w' ∧ w.grownBy w' (some R) := by
  have c2 := (hr.cell 17 (by omega)).trans hb
  have f2 := hr.frozen 17
  have HB : Hid (∀ u : World, Calls Try.prog 47 #[.pointer (some ⟨R, 1, none⟩), .int .i64 q] u fun e w' => e = .returned (.int .u8 ((2 ^ (q % 8) : Nat) : Int)) ∧ u = w') := fun u => bitOf_any _ q u hq
  have HR : Hid (Tn base R cs w) := hr
  have ho := off_at B (q % 8) hB (by omega)
  clear hr hb
  generalize (2 ^ (q % 8) : Nat) = P at *
  go_enter Try.func43, Try.ntmps43
  go_wp2
  go_region_with (go_at_call 47; refine (HB.out _).mono ?_; rintro e w' ⟨rfl, rfl⟩)
  all_goals go_wp2
  all_goals go_end0
  all_goals exact ⟨⟨_, rfl⟩, (HR.out.put 17 _).keep (Below.refl _ _).drew, (grow_set w ⟨R, 17, none⟩ _).trans (grow_below _ (Below.refl _ _).drew)⟩
end Go.Proofs.Yteceaadmgpjmcab.mk

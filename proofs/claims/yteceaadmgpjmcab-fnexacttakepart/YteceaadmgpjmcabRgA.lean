/-
  THE RING of what has come: the cells of an intake; at, put.
-/
import Derived.Test.YteceaadmgpjmcabBitA
import Derived.Test.YteceaadmgpjmcabBase
namespace Go.Proofs.Yteceaadmgpjmcab.mk
open Go.RowKit
set_option linter.unusedVariables false

/-- the intake's block R: twenty cells -/
def Tn (base R : Nat) (cs : List Value) (w : World) : Prop := w.ownsRow base 68 20 (.slice (some ⟨R, 0, none⟩) 1 1) 1 cs
theorem Tn.cell {base R : Nat} {cs : List Value} {w : World} (h : Tn base R cs w) (j : Nat) (hj : j < 20) : w.cell? ⟨R, j, none⟩ = cs[j]? := World.ownsRow.cellAt h j (by omega)
theorem Tn.frozen {base R : Nat} {cs : List Value} {w : World} (h : Tn base R cs w) (j : Nat) : w.frozen? ⟨R, j, none⟩ = false := World.ownsRow.frozenAt h j
theorem Tn.put {base R : Nat} {cs : List Value} {w : World} (h : Tn base R cs w) (j : Nat) (u : Value) : Tn base R (cs.set j u) (w.setCell ⟨R, j, none⟩ u) := (World.ownsRow.stored h j u).1
theorem Tn.keep {base R : Nat} {cs : List Value} {w w' : World} (h : Tn base R cs w) (hb : Below w.heap.size w w') : Tn base R cs w' := owns_keep h hb
theorem Tn.length {base R : Nat} {cs : List Value} {w : World} (h : Tn base R cs w) : cs.length = 20 := by have := h.1; omega
theorem Tn.lt {base R : Nat} {cs : List Value} {w : World} (h : Tn base R cs w) : base ≤ R ∧ R < w.heap.size := World.ownsRow.lt h R rfl
theorem and_at (B k : Nat) (hB : B < 256) (hk : k < 8) : bits BinOp.and IntKind.u8 (B : Int) ((2 ^ k : Nat) : Int) = if inB B k then ((2 ^ k : Nat) : Int) else 0 := and_bit ⟨B, hB⟩ ⟨k, hk⟩
theorem pow_ne (k : Nat) : ((2 ^ k : Nat) : Int) ≠ 0 := by have := Nat.pow_pos (n := k) (show 0 < 2 by omega); omega
set_option maxHeartbeats 1000000 in
theorem at_in (base R B q : Nat) (cs : List Value) (s : ByteArray) (l : Bool) (w : World) (hr : Tn base R cs w) (hB : B < 256) (hq : q ≤ 2000000) (hb : cs[17]? = some (.int .u8 (B : Int))) (ht : cs[1 + q % 8 * 2]? = some (.string s)) (hl : cs[1 + q % 8 * 2 + 1]? = some (.bool l)) :
    Calls Try.prog 40 #[.pointer (some ⟨R, 1, none⟩), .int .i64 q] w fun e w' => e = .returned (.tuple #[.agg #[.string s, .bool l], .bool (inB B (q % 8))]) ∧ Below w.heap.size w w' := by
  have T0 := (hr.cell (1 + q % 8 * 2) (by omega)).trans ht
  have T1 := (hr.cell (1 + q % 8 * 2 + 1) (by omega)).trans hl
  have T2 := (hr.cell 17 (by omega)).trans hb
  have HB : Hid (∀ u : World, Calls Try.prog 47 #[.pointer (some ⟨R, 1, none⟩), .int .i64 q] u fun e w' => e = .returned (.int .u8 ((2 ^ (q % 8) : Nat) : Int)) ∧ u = w') := fun u => bitOf_any _ q u hq
  obtain ⟨r, hrr⟩ : ∃ r, r = q % 8 := ⟨_, rfl⟩
  have hr8 : r < 8 := by omega
  have hri : (q : Int) % 8 = (r : Int) := by omega
  have hri2 : ((q % 8 : Nat) : Int) = (r : Int) := by omega
  have htm : (q : Int).tmod 8 = (r : Int) := by rw [Int.tmod_eq_emod_of_nonneg (by omega)]; exact hri
  have hr8i : (r : Int) < 8 := by omega
  have ha := and_at B r hB hr8
  have hp := pow_ne r
  rw [← hrr] at T0 T1 HB ⊢
  clear hrr hr hb ht hl
  generalize (2 ^ r : Nat) = P at *
  have hpb : ((P : Int) != 0) = true := by simp; omega
  cases hin : inB B r
  · rw [hin] at ha
    simp only [Bool.false_eq_true, if_false] at ha
    go_enter Try.func40, Try.ntmps40
    go_wp2
    refine wp_region_held_drew (S := (fun w' => Below w.heap.size w w')) (by kernel_rfl) ?_ (fun hHeld => ?_)
    · exact ((Below.refl _ _).alloc (Nat.le_refl _) _).drew
    refine tkF 0 (some 6) ?_
    refine tkF 1 (some 7) ?_
    refine tkF 2 (some 8) ?_
    refine tkF 3 (some 9) ?_
    refine tkF 4 (some 10) ?_
    refine tkF 5 (some 11) ?_
    refine tkE 6 (some 12) ?_ ?_ ?_
    rotate_left
    · (intro w hSw; (have hT0 := cell_keep T0 hSw); (have hT1 := cell_keep T1 hSw); (have hT2 := cell_keep T2 hSw); go_simp <;> with_reducible rfl)
    refine tkF 7 (some 13) ?_
    refine tkF 8 (some 14) ?_
    refine tkF 9 (some 15) ?_
    refine tkE 10 (some 16) ?_ ?_ ?_
    rotate_left
    · (intro w hSw; (have hT0 := cell_keep T0 hSw); (have hT1 := cell_keep T1 hSw); (have hT2 := cell_keep T2 hSw); go_simp <;> with_reducible rfl)
    refine tkF 11 (some 17) ?_
    refine tkF 12 (some 18) ?_
    refine wpAnyH_ready (rs := [13]) (by kernel_rfl) (by simp) ?_
    refine AllReadyH.cons rfl (fun K hK => ?_) AllReadyH.nil
    go_simp
    refine (HB.out _).mono ?_
    rintro e w' ⟨rfl, rfl⟩
    go_wp2_with fail
    refine hK.out _ _ ?_ (fun hHeld => ?_)
    · assumption
    clear hK K
    try simp only [Act.put, List.setIfInBounds_toArray, List.set_cons_zero, List.set_cons_succ]
    refine tkF 14 (some 20) ?_
    refine tkF 15 (some 21) ?_
    refine wpAnyH_ready (rs := [16]) (by kernel_rfl) (by simp) ?_
    refine AllReadyH.cons rfl (fun K hK => ?_) AllReadyH.nil
    go_simp
    refine hK.out _ _ ?_ (fun hHeld => ?_)
    · exact ((Below.refl _ _).alloc (Nat.le_refl _) _).drew
    clear hK K
    try simp only [Act.put, List.setIfInBounds_toArray, List.set_cons_zero, List.set_cons_succ]
    refine tkF 17 (some 5) ?_
    refine wpAnyH_done (by kernel_rfl) ?_ _
    go_wp2
    exact bodyPost_ret (v := .tuple #[.agg #[.string s, .bool l], .bool false]) (by simp [results, Try.results40, go_sem]) rfl ⟨rfl, ((Below.refl _ _).alloc (Nat.le_refl _) _).drew⟩
  · rw [hin] at ha
    simp only [if_true] at ha
    go_enter Try.func40, Try.ntmps40
    go_wp2
    refine wp_region_held_drew (S := (fun w' => Below w.heap.size w w')) (by kernel_rfl) ?_ (fun hHeld => ?_)
    · exact ((Below.refl _ _).alloc (Nat.le_refl _) _).drew
    refine tkF 0 (some 6) ?_
    refine tkF 1 (some 7) ?_
    refine tkF 2 (some 8) ?_
    refine tkF 3 (some 9) ?_
    refine tkF 4 (some 10) ?_
    refine tkF 5 (some 11) ?_
    refine tkE 6 (some 12) ?_ ?_ ?_
    rotate_left
    · (intro w hSw; (have hT0 := cell_keep T0 hSw); (have hT1 := cell_keep T1 hSw); (have hT2 := cell_keep T2 hSw); go_simp <;> with_reducible rfl)
    refine tkF 7 (some 13) ?_
    refine tkF 8 (some 14) ?_
    refine tkF 9 (some 15) ?_
    refine tkE 10 (some 16) ?_ ?_ ?_
    rotate_left
    · (intro w hSw; (have hT0 := cell_keep T0 hSw); (have hT1 := cell_keep T1 hSw); (have hT2 := cell_keep T2 hSw); go_simp <;> with_reducible rfl)
    refine tkF 11 (some 17) ?_
    refine tkF 12 (some 18) ?_
    refine wpAnyH_ready (rs := [13]) (by kernel_rfl) (by simp) ?_
    refine AllReadyH.cons rfl (fun K hK => ?_) AllReadyH.nil
    go_simp
    refine (HB.out _).mono ?_
    rintro e w' ⟨rfl, rfl⟩
    go_wp2_with fail
    refine hK.out _ _ ?_ (fun hHeld => ?_)
    · assumption
    clear hK K
    try simp only [Act.put, List.setIfInBounds_toArray, List.set_cons_zero, List.set_cons_succ]
    refine tkF 14 (some 20) ?_
    refine tkF 15 (some 21) ?_
    refine wpAnyH_ready (rs := [16]) (by kernel_rfl) (by simp) ?_
    refine AllReadyH.cons rfl (fun K hK => ?_) AllReadyH.nil
    go_simp
    refine hK.out _ _ ?_ (fun hHeld => ?_)
    · exact ((Below.refl _ _).alloc (Nat.le_refl _) _).drew
    clear hK K
    try simp only [Act.put, List.setIfInBounds_toArray, List.set_cons_zero, List.set_cons_succ]
    refine tkF 17 (some 5) ?_
    refine wpAnyH_done (by kernel_rfl) ?_ _
    go_wp2
    exact bodyPost_ret (v := .tuple #[.agg #[.string s, .bool l], .bool true]) (by simp [results, Try.results40, go_sem]) rfl ⟨rfl, ((Below.refl _ _).alloc (Nat.le_refl _) _).drew⟩
theorem or_at (B k : Nat) (hB : B < 256) (hk : k < 8) : bits BinOp.or IntKind.u8 (B : Int) ((2 ^ k : Nat) : Int) = ((orB B k : Nat) : Int) := or_bit ⟨B, hB⟩ ⟨k, hk⟩
set_option maxHeartbeats 1000000 in
theorem put_in (base R B q : Nat) (cs : List Value) (s : ByteArray) (l : Bool) (w : World) (hr : Tn base R cs w) (hB : B < 256) (hq : q ≤ 2000000) (hb : cs[17]? = some (.int .u8 (B : Int))) :
    Calls Try.prog 41 #[.pointer (some ⟨R, 1, none⟩), .int .i64 q, .agg #[.string s, .bool l]] w fun x w' => (∃ v, x = .returned v) ∧ Tn base R (((cs.set (1 + q % 8 * 2) (.string s)).set (1 + q % 8 * 2 + 1) (.bool l)).set 17 (.int .u8 ((orB B (q % 8) : Nat) : Int))) w' ∧ w.grownBy w' (some R) := by
  have hlen := hr.length
  have hlt := hr.lt
  obtain ⟨v0, c0⟩ : ∃ v, w.cell? ⟨R, 1 + q % 8 * 2, none⟩ = some v := ⟨_, (hr.cell (1 + q % 8 * 2) (by omega)).trans (List.getElem?_eq_getElem (by omega))⟩
  obtain ⟨v1, c1⟩ : ∃ v, w.cell? ⟨R, 1 + q % 8 * 2 + 1, none⟩ = some v := ⟨_, (hr.cell (1 + q % 8 * 2 + 1) (by omega)).trans (List.getElem?_eq_getElem (by omega))⟩
  have c2 := (hr.cell 17 (by omega)).trans hb
  have f0 := hr.frozen (1 + q % 8 * 2)
  have f1 := hr.frozen (1 + q % 8 * 2 + 1)
  have f2 := hr.frozen 17
  have HB : Hid (∀ u : World, Calls Try.prog 47 #[.pointer (some ⟨R, 1, none⟩), .int .i64 q] u fun e w' => e = .returned (.int .u8 ((2 ^ (q % 8) : Nat) : Int)) ∧ u = w') := fun u => bitOf_any _ q u hq
  have HR : Hid (Tn base R cs w) := hr
  obtain ⟨r, hrr⟩ : ∃ r, r = q % 8 := ⟨_, rfl⟩
  have hr8 : r < 8 := by omega
  have hri : (q : Int) % 8 = (r : Int) := by omega
  have hri2 : ((q % 8 : Nat) : Int) = (r : Int) := by omega
  have htm : (q : Int).tmod 8 = (r : Int) := by rw [Int.tmod_eq_emod_of_nonneg (by omega)]; exact hri
  have hr8i : (r : Int) < 8 := by omega
  have hne : ¬ (1 + r * 2 = 17) := by omega
  have hne2 : ¬ (1 + r * 2 + 1 = 17) := by omega
  have ho := or_at B r hB hr8
  rw [← hrr] at c0 c1 f0 f1 HB ⊢
  clear hrr hr hb
  generalize (2 ^ r : Nat) = P at *
  go_enter Try.func41, Try.ntmps41
  go_wp2
  go_region_with (fail)
  all_goals go_wp2
  go_region_with (go_at_call 47; refine (HB.out _).mono ?_; rintro e w' ⟨rfl, rfl⟩)
  all_goals go_wp2
  all_goals go_end0
  all_goals exact ⟨⟨_, rfl⟩, (((HR.out.put (1 + r * 2) _).put (1 + r * 2 + 1) _).put 17 _).keep ((Below.refl _ _).alloc (Nat.le_refl _) _).drew.drew, (((grow_set w ⟨R, 1 + r * 2, none⟩ _).trans (grow_set _ ⟨R, 1 + r * 2 + 1, none⟩ _)).trans (grow_set _ ⟨R, 17, none⟩ _)).trans (grow_below _ ((Below.refl _ _).alloc (Nat.le_refl _) _).drew.drew)⟩
end Go.Proofs.Yteceaadmgpjmcab.mk

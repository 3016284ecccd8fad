/-
  THE INTAKE holds a part: where nothing is put.
-/
import Derived.Test.YteceaadmgpjmcabRgB
namespace Go.Proofs.Yteceaadmgpjmcab.mk
open Go.RowKit
set_option linter.unusedVariables false

set_option maxHeartbeats 2000000 in
theorem hold_far (base R : Nat) (q nx : Int) (cs : List Value) (s : ByteArray) (l : Bool) (w : World) (hr : Tn base R cs w) (hn0 : cs[0]? = some (.int .i64 nx)) (h0 : 0 ≤ nx) (h1 : nx ≤ 1000000) (hs : s.size ≤ 1048576) (hno : ¬ NearIn nx q) :
    Calls Try.prog 23 #[.pointer (some ⟨R, 0, none⟩), .int .i64 q, .agg #[.string s, .bool l]] w fun x w' => (∃ v, x = .returned v) ∧ Below w.heap.size w w' := by
  have hlt := hr.lt
  have c0 := (hr.cell 0 (by omega)).trans hn0
  have HLS : Hid (∀ u : World, Calls Try.prog 39 #[.int .i64 nx] u fun e w' => e = .returned (.int .i64 (min (nx + 8) 1000000 - 1)) ∧ u = w') := fun u => lastSeq_any nx u h0 h1
  obtain ⟨LS, hLS⟩ : ∃ LS : Int, LS = min (nx + 8) 1000000 - 1 := ⟨_, rfl⟩
  rw [← hLS] at HLS
  have HWI : Hid (∀ u : World, Calls Try.prog 36 #[.int .i64 q, .int .i64 nx, .int .i64 LS] u fun e w' => e = .returned (.bool false) ∧ u = w') := fun u => within_false _ _ _ u (by unfold NearIn at hno; omega)
  clear hLS hr hn0 hno
  go_enter Try.func23, Try.ntmps23
  go_wp2
  obtain ⟨W1, hW1⟩ : ∃ W1, (w.alloc (.cells #[.string s, .bool l] 35)) = W1 := ⟨_, rfl⟩
  have AW : Below w.heap.size w W1 := by rw [← hW1]; exact (Below.refl _ _).alloc (Nat.le_refl _) _
  have T0 := cell_keep c0 AW
  have H0 : W1.cell? ⟨w.heap.size, 0, none⟩ = some (.string s) := by rw [← hW1]; simp [go_sem]
  rw [hW1]
  clear hW1 c0
  refine wp_region_held_drew (S := (fun w' => Below W1.heap.size W1 w')) (by kernel_rfl) ?_ (fun hHeld => ?_)
  · exact (Below.refl _ _).drew
  refine tkF 0 (some 8) ?_
  refine tkF 1 (some 9) ?_
  refine tkF 2 (some 10) ?_
  refine tkF 3 (some 11) ?_
  refine tkE 4 (some 12) ?_ ?_ ?_
  rotate_left
  · (intro w hSw; (have hT0 := cell_keep T0 hSw); (have hH0 := cell_keep H0 hSw); go_simp <;> with_reducible rfl)
  refine tkF 5 (some 13) ?_
  refine tkF 6 (some 14) ?_
  refine tkF 7 (some 15) ?_
  refine tkE 8 (some 16) ?_ ?_ ?_
  rotate_left
  · (intro w hSw; (have hT0 := cell_keep T0 hSw); (have hH0 := cell_keep H0 hSw); go_simp <;> with_reducible rfl)
  refine wpAnyH_ready (rs := [9]) (by kernel_rfl) (by simp) ?_
  refine AllReadyH.cons rfl (fun K hK => ?_) AllReadyH.nil
  go_simp
  refine (HLS.out _).mono ?_
  rintro e w' ⟨rfl, rfl⟩
  go_wp2_with fail
  refine hK.out _ _ ?_ (fun hHeld => ?_)
  · assumption
  clear hK K
  try simp only [Act.put, List.setIfInBounds_toArray, List.set_cons_zero, List.set_cons_succ]
  refine wpAnyH_ready (rs := [10]) (by kernel_rfl) (by simp) ?_
  refine AllReadyH.cons rfl (fun K hK => ?_) AllReadyH.nil
  go_simp
  refine (HWI.out _).mono ?_
  rintro e w' ⟨rfl, rfl⟩
  go_wp2_with fail
  refine hK.out _ _ ?_ (fun hHeld => ?_)
  · assumption
  clear hK K
  try simp only [Act.put, List.setIfInBounds_toArray, List.set_cons_zero, List.set_cons_succ]
  refine tkF 11 (some 19) ?_
  refine tkF 12 (some 20) ?_
  refine tkS 13 (some 21) ?_
  refine tkS 14 (some 22) ?_
  refine tkS 15 (some 23) ?_
  refine tkS 16 (some 24) ?_
  refine tkF 17 (some 25) ?_
  refine wpAnyH_done (by kernel_rfl) ?_ _
  go_wp2
  exact bodyPost_ret (v := .tuple #[]) (by simp [results, Try.results23, go_sem]) rfl ⟨⟨_, rfl⟩, AW.drew⟩
set_option maxHeartbeats 2000000 in
theorem hold_long (base R : Nat) (q nx : Int) (cs : List Value) (s : ByteArray) (l : Bool) (w : World) (hr : Tn base R cs w) (hn0 : cs[0]? = some (.int .i64 nx)) (h0 : 0 ≤ nx) (h1 : nx ≤ 1000000) (hs : s.size ≤ 1048576) (hyes : NearIn nx q) (hbig : 20 < s.size) :
    Calls Try.prog 23 #[.pointer (some ⟨R, 0, none⟩), .int .i64 q, .agg #[.string s, .bool l]] w fun x w' => (∃ v, x = .returned v) ∧ Below w.heap.size w w' := by
  have hlt := hr.lt
  have c0 := (hr.cell 0 (by omega)).trans hn0
  have HLS : Hid (∀ u : World, Calls Try.prog 39 #[.int .i64 nx] u fun e w' => e = .returned (.int .i64 (min (nx + 8) 1000000 - 1)) ∧ u = w') := fun u => lastSeq_any nx u h0 h1
  obtain ⟨LS, hLS⟩ : ∃ LS : Int, LS = min (nx + 8) 1000000 - 1 := ⟨_, rfl⟩
  rw [← hLS] at HLS
  have HWI : Hid (∀ u : World, Calls Try.prog 36 #[.int .i64 q, .int .i64 nx, .int .i64 LS] u fun e w' => e = .returned (.bool true) ∧ u = w') := fun u => within_true _ _ _ u hyes.1 (by unfold NearIn at hyes; omega)
  have d1 : decide ((20 : Int) < (s.size : Int)) = true := by simp; omega
  clear hLS hr hn0 hyes
  go_enter Try.func23, Try.ntmps23
  go_wp2
  obtain ⟨W1, hW1⟩ : ∃ W1, (w.alloc (.cells #[.string s, .bool l] 35)) = W1 := ⟨_, rfl⟩
  have AW : Below w.heap.size w W1 := by rw [← hW1]; exact (Below.refl _ _).alloc (Nat.le_refl _) _
  have T0 := cell_keep c0 AW
  have H0 : W1.cell? ⟨w.heap.size, 0, none⟩ = some (.string s) := by rw [← hW1]; simp [go_sem]
  rw [hW1]
  clear hW1 c0
  refine wp_region_held_drew (S := (fun w' => Below W1.heap.size W1 w')) (by kernel_rfl) ?_ (fun hHeld => ?_)
  · exact (Below.refl _ _).drew
  refine tkF 0 (some 8) ?_
  refine tkF 1 (some 9) ?_
  refine tkF 2 (some 10) ?_
  refine tkF 3 (some 11) ?_
  refine tkE 4 (some 12) ?_ ?_ ?_
  rotate_left
  · (intro w hSw; (have hT0 := cell_keep T0 hSw); (have hH0 := cell_keep H0 hSw); go_simp <;> with_reducible rfl)
  refine tkF 5 (some 13) ?_
  refine tkF 6 (some 14) ?_
  refine tkF 7 (some 15) ?_
  refine tkE 8 (some 16) ?_ ?_ ?_
  rotate_left
  · (intro w hSw; (have hT0 := cell_keep T0 hSw); (have hH0 := cell_keep H0 hSw); go_simp <;> with_reducible rfl)
  refine wpAnyH_ready (rs := [9]) (by kernel_rfl) (by simp) ?_
  refine AllReadyH.cons rfl (fun K hK => ?_) AllReadyH.nil
  go_simp
  refine (HLS.out _).mono ?_
  rintro e w' ⟨rfl, rfl⟩
  go_wp2_with fail
  refine hK.out _ _ ?_ (fun hHeld => ?_)
  · assumption
  clear hK K
  try simp only [Act.put, List.setIfInBounds_toArray, List.set_cons_zero, List.set_cons_succ]
  refine wpAnyH_ready (rs := [10]) (by kernel_rfl) (by simp) ?_
  refine AllReadyH.cons rfl (fun K hK => ?_) AllReadyH.nil
  go_simp
  refine (HWI.out _).mono ?_
  rintro e w' ⟨rfl, rfl⟩
  go_wp2_with fail
  refine hK.out _ _ ?_ (fun hHeld => ?_)
  · assumption
  clear hK K
  try simp only [Act.put, List.setIfInBounds_toArray, List.set_cons_zero, List.set_cons_succ]
  refine tkF 11 (some 19) ?_
  refine tkF 12 (some 20) ?_
  refine tkF 13 (some 21) ?_
  refine tkE 14 (some 22) ?_ ?_ ?_
  rotate_left
  · (intro w hSw; (have hT0 := cell_keep T0 hSw); (have hH0 := cell_keep H0 hSw); go_simp <;> with_reducible rfl)
  refine tkF 15 (some 23) ?_
  refine tkF 16 (some 24) ?_
  refine tkF 17 (some 25) ?_
  refine wpAnyH_done (by kernel_rfl) ?_ _
  go_wp2
  exact bodyPost_ret (v := .tuple #[]) (by simp [results, Try.results23, go_sem]) rfl ⟨⟨_, rfl⟩, AW.drew⟩
set_option maxHeartbeats 2000000 in
theorem hold_has (base R B q : Nat) (nx : Int) (cs : List Value) (s : ByteArray) (l : Bool) (w : World) (hr : Tn base R cs w) (hB : B < 256) (hn0 : cs[0]? = some (.int .i64 nx)) (hb : cs[17]? = some (.int .u8 (B : Int))) (hty : Ty cs) (h0 : 0 ≤ nx) (h1 : nx ≤ 1000000) (hyes : NearIn nx (q : Int)) (hs : s.size ≤ 20) (hin : inB B (q % 8) = true) :
    Calls Try.prog 23 #[.pointer (some ⟨R, 0, none⟩), .int .i64 (q : Int), .agg #[.string s, .bool l]] w fun x w' => (∃ v, x = .returned v) ∧ Below w.heap.size w w' := by
  have hlt := hr.lt
  have c0 := (hr.cell 0 (by omega)).trans hn0
  have HLS : Hid (∀ u : World, Calls Try.prog 39 #[.int .i64 nx] u fun e w' => e = .returned (.int .i64 (min (nx + 8) 1000000 - 1)) ∧ u = w') := fun u => lastSeq_any nx u h0 h1
  obtain ⟨LS, hLS⟩ : ∃ LS : Int, LS = min (nx + 8) 1000000 - 1 := ⟨_, rfl⟩
  rw [← hLS] at HLS
  have hq3 : (q : Int) < 1000000 := hyes.2.2
  have HWI : Hid (∀ u : World, Calls Try.prog 36 #[.int .i64 (q : Int), .int .i64 nx, .int .i64 LS] u fun e w' => e = .returned (.bool true) ∧ u = w') := fun u => within_true _ _ _ u hyes.1 (by unfold NearIn at hyes; omega)
  obtain ⟨s0, l0, hs0, hl0⟩ := hty (q % 8) (by omega)
  have HAT : Hid (∀ u : World, Tn base R cs u → Calls Try.prog 40 #[.pointer (some ⟨R, 1, none⟩), .int .i64 (q : Int)] u fun e w' => e = .returned (.tuple #[.agg #[.string s0, .bool l0], .bool true]) ∧ Below u.heap.size u w') := fun u h => by have := at_in base R B q cs s0 l0 u h hB (by omega) hb hs0 hl0; rw [hin] at this; exact this
  have HR : Hid (Tn base R cs w) := hr
  have d1 : decide ((20 : Int) < (s.size : Int)) = false := by simp; omega
  clear hLS hr hn0 hyes hb hty hs0 hl0 hin
  go_enter Try.func23, Try.ntmps23
  go_wp2
  obtain ⟨W1, hW1⟩ : ∃ W1, (w.alloc (.cells #[.string s, .bool l] 35)) = W1 := ⟨_, rfl⟩
  have AW : Below w.heap.size w W1 := by rw [← hW1]; exact (Below.refl _ _).alloc (Nat.le_refl _) _
  have T0 := cell_keep c0 AW
  have H0 : W1.cell? ⟨w.heap.size, 0, none⟩ = some (.string s) := by rw [← hW1]; simp [go_sem]
  rw [hW1]
  clear hW1 c0
  have R1 : Hid (Tn base R cs W1.drew) := HR.out.keep AW.drew
  refine wp_region_held_drew (S := (fun w' => Below W1.heap.size W1 w')) (by kernel_rfl) ?_ (fun hHeld => ?_)
  · exact (Below.refl _ _).drew
  refine tkF 0 (some 8) ?_
  refine tkF 1 (some 9) ?_
  refine tkF 2 (some 10) ?_
  refine tkF 3 (some 11) ?_
  refine tkE 4 (some 12) ?_ ?_ ?_
  rotate_left
  · (intro w hSw; (have hT0 := cell_keep T0 hSw); (have hH0 := cell_keep H0 hSw); go_simp <;> with_reducible rfl)
  refine tkF 5 (some 13) ?_
  refine tkF 6 (some 14) ?_
  refine tkF 7 (some 15) ?_
  refine tkE 8 (some 16) ?_ ?_ ?_
  rotate_left
  · (intro w hSw; (have hT0 := cell_keep T0 hSw); (have hH0 := cell_keep H0 hSw); go_simp <;> with_reducible rfl)
  refine wpAnyH_ready (rs := [9]) (by kernel_rfl) (by simp) ?_
  refine AllReadyH.cons rfl (fun K hK => ?_) AllReadyH.nil
  go_simp
  refine (HLS.out _).mono ?_
  rintro e w' ⟨rfl, rfl⟩
  go_wp2_with fail
  refine hK.out _ _ ?_ (fun hHeld => ?_)
  · assumption
  clear hK K
  try simp only [Act.put, List.setIfInBounds_toArray, List.set_cons_zero, List.set_cons_succ]
  refine wpAnyH_ready (rs := [10]) (by kernel_rfl) (by simp) ?_
  refine AllReadyH.cons rfl (fun K hK => ?_) AllReadyH.nil
  go_simp
  refine (HWI.out _).mono ?_
  rintro e w' ⟨rfl, rfl⟩
  go_wp2_with fail
  refine hK.out _ _ ?_ (fun hHeld => ?_)
  · assumption
  clear hK K
  try simp only [Act.put, List.setIfInBounds_toArray, List.set_cons_zero, List.set_cons_succ]
  refine tkF 11 (some 19) ?_
  refine tkF 12 (some 20) ?_
  refine tkF 13 (some 21) ?_
  refine tkE 14 (some 22) ?_ ?_ ?_
  rotate_left
  · (intro w hSw; (have hT0 := cell_keep T0 hSw); (have hH0 := cell_keep H0 hSw); go_simp <;> with_reducible rfl)
  refine tkF 15 (some 23) ?_
  refine tkF 16 (some 24) ?_
  refine tkF 17 (some 25) ?_
  refine wpAnyH_done (by kernel_rfl) ?_ _
  go_wp2_with (go_at_call 40; refine (HAT.out _ R1.out).mono ?_; rintro e w2 ⟨rfl, hb2⟩)
  exact bodyPost_ret (v := .tuple #[]) (by simp [results, Try.results23, go_sem]) rfl ⟨⟨_, rfl⟩, (kb AW.drew hb2 (Nat.le_refl _)).alloc (kb AW.drew hb2 (Nat.le_refl _)).size _⟩
end Go.Proofs.Yteceaadmgpjmcab.mk

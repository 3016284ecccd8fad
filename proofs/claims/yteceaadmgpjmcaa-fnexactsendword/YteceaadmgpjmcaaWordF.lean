/-
  WORDS: spec.SendWord, valid (UNDER WAY: does not build clean; see NOTES 5).
-/
import Derived.Test.YteceaadmgpjmcaaWordE
import Derived.Test.YteceaadmgpjmcaaBase
namespace Go.Proofs.Yteceaadmgpjmcaa.mk
open Go.RowKit
set_option linter.unusedVariables false

set_option maxHeartbeats 2000000 in
theorem specWord_stay (b : Nat) (ao : Option Addr) (cap : Nat) (xs : List It) (next mask : Int) (w : World) (hm : xs.length ≤ 1048576) (hz : ∀ i (h : i < xs.length), xs[i].text.size ≤ 1048576) (hr : Rs w ao xs.length (is xs)) (hao : ao = none → xs.length = 0 ∧ cap = 0) (hv : sdOk (b : Int) xs = true) (hno : ¬ WdOk (b : Int) xs next mask) :
    Calls Try.prog 28 #[.agg #[.int .i64 (b : Int), .slice ao xs.length cap], .int .i64 next, .int .i64 mask] w fun e w' => WordPost w (b : Int) xs next mask e w' := by
  have hok := sdOk_of hv
  have hbb : b ≤ 1000000 := by have := hok.1; unfold HdOk at this; omega
  have hnn : xs.length ≤ 60 := by have := hok.1; unfold HdOk at this; omega
  have hfl := front_le xs
  have HC : Hid (∀ u : World, Rs u ao xs.length (is xs) → Calls Try.prog 52 #[.agg #[.int .i64 (b : Int), .slice ao xs.length cap]] u fun e w' => e = .returned (.bool true) ∧ Below u.heap.size u w') := fun u h => by (have := specValid_any (b : Int) ao cap xs u hm hz h; rw [hv] at this; exact this)
  have HG : Hid (∀ u : World, Rs u ao xs.length (is xs) → Calls Try.prog 54 #[.agg #[.int .i64 (b : Int), .slice ao xs.length cap]] u fun e w' => (∃ g' c, e = .returned (.agg #[.int .i64 (b : Int), .slice (some ⟨g', 0, none⟩) xs.length c]) ∧ w'.ownsRow u.heap.size 87 4 (.slice (some ⟨g', 0, none⟩) xs.length c) xs.length (is xs)) ∧ Below u.heap.size u w') := fun u h => copy_opt (b : Int) ao cap xs u hm h hao
  have HL : Hid (∀ u : World, Rs u ao xs.length (is xs) → Calls Try.prog 63 #[.agg #[.int .i64 (b : Int), .slice ao xs.length cap]] u fun e w' => e = .returned (.int .i64 (front xs : Int)) ∧ Below u.heap.size u w') := fun u h => l4Front_any (b : Int) ao cap xs u hm h
  have R2 : Hid (Rs ((w.alloc (.cells #[.int .i64 (b : Int), .slice ao xs.length cap] 38)).alloc (.cells #[.int .i64 0, .slice none 0 0] 38)) ao xs.length (is xs)) := hr.keep (two_below _ _ _)
  have X0 : Hid (Bx ((w.alloc (.cells #[.int .i64 (b : Int), .slice ao xs.length cap] 38)).alloc (.cells #[.int .i64 0, .slice none 0 0] 38)) w.heap.size 38 #[.int .i64 (b : Int), .slice ao xs.length cap]) := (Bx.new w 38 _).alloc _
  have X1 : Hid (Bx ((w.alloc (.cells #[.int .i64 (b : Int), .slice ao xs.length cap] 38)).alloc (.cells #[.int .i64 0, .slice none 0 0] 38)) (w.heap.size + 1) 38 #[.int .i64 0, .slice none 0 0]) := (by have := Bx.new (w.alloc (.cells #[.int .i64 (b : Int), .slice ao xs.length cap] 38)) 38 #[.int .i64 0, .slice none 0 0]; rw [World.size_alloc] at this; exact this)
  have BB : Hid (Below w.heap.size w ((w.alloc (.cells #[.int .i64 (b : Int), .slice ao xs.length cap] 38)).alloc (.cells #[.int .i64 0, .slice none 0 0] 38))) := two_below _ _ _
  have T0 : Hid (wordOf (b : Int) xs next mask = ((b : Int), xs)) := (by rw [wordOf_yes hv]; unfold heard; rw [if_neg hno] : wordOf (b : Int) xs next mask = ((b : Int), xs))
  have HF : Hid (∀ u : World, Calls Try.prog 37 #[.int .i64 mask, .int .i64 0, .int .i64 255] u fun e w' => e = .returned (.bool (decide (0 ≤ mask ∧ mask ≤ 255))) ∧ u = w') := fun u => by
    by_cases h : 0 ≤ mask ∧ mask ≤ 255
    · rw [decide_eq_true h]; exact l1In_true mask 0 255 u h.1 h.2
    · rw [decide_eq_false h]; exact l1In_false mask 0 255 u (by omega)
  have hcase : next < (b : Int) ∨ ((b : Int) ≤ next ∧ (b : Int) + (front xs : Int) < next) ∨ ((b : Int) ≤ next ∧ next ≤ (b : Int) + (front xs : Int) ∧ decide (0 ≤ mask ∧ mask ≤ 255) = false) := by
    unfold WdOk at hno
    simp only [decide_eq_false_iff_not]
    omega
  clear hz hr hv hok hno
  generalize front xs = fr at *
  go_enter Try.func28, Try.ntmps28
  go_wp2_with (first | (go_at_call 52; refine (HC.out _ R2.out).mono ?_; rintro e w1 ⟨rfl, hb1⟩; (have u0 := (X0.out.keep hb1).cell 0); (have u1 := (X0.out.keep hb1).cell 1); simp at u0 u1) | (go_at_call 54; refine (HG.out _ (R2.out.keep hb1)).mono ?_; rintro e w2 ⟨⟨g2, c2, rfl, ho2⟩, hb2⟩))
  have s1 := hb1.size
  have s2 := hb2.size
  simp only [World.size_alloc] at s1
  obtain ⟨W3, hW3⟩ : ∃ W3, w2.alloc (.cells #[.int .i64 (b : Int), .slice (some ⟨g2, 0, none⟩) xs.length c2] 38) = W3 := ⟨_, rfl⟩
  have Z0 : Bx W3 w.heap.size 38 #[.int .i64 (b : Int), .slice ao xs.length cap] := (by rw [← hW3]; exact ((X0.out.keep hb1).keep hb2).alloc _); have Z1 : Bx W3 (w.heap.size + 1) 38 #[.int .i64 0, .slice none 0 0] := (by rw [← hW3]; exact ((X1.out.keep hb1).keep hb2).alloc _); have Z2 : Bx W3 w2.heap.size 38 #[.int .i64 (b : Int), .slice (some ⟨g2, 0, none⟩) xs.length c2] := (by rw [← hW3]; exact Bx.new w2 _ _); have RW : Hid (Rs W3 ao xs.length (is xs)) := (by rw [← hW3]; exact ((R2.out.keep hb1).keep hb2).keep ((Below.refl _ _).alloc (Nat.le_refl _) _)); have oW : W3.ownsRow w1.heap.size 87 4 (.slice (some ⟨g2, 0, none⟩) xs.length c2) xs.length (is xs) := (by rw [← hW3]; exact ho2.alloc _); have BW : Below w.heap.size w W3 := (by rw [← hW3]; exact (kb (kb BB.out hb1 (Nat.le_refl _)) hb2 (Nat.le_refl _)).alloc (kb (kb BB.out hb1 (Nat.le_refl _)) hb2 (Nat.le_refl _)).size _); have a0 : W3.cell? ⟨w.heap.size, 0, none⟩ = some (.int .i64 (b : Int)) := Z0.cell 0; have a1 : W3.cell? ⟨w.heap.size, 1, none⟩ = some (.slice ao xs.length cap) := Z0.cell 1
  rw [hW3]
  clear hW3 X0 X1 R2 BB HC HG hb1 hb2 ho2 u0 u1
  have hwr : IntKind.i64.wrap ((b : Int) + (fr : Int)) = (b : Int) + (fr : Int) := by rw [IntKind.wrap_i64]; omega
  rcases hcase with h | ⟨h1, h2⟩ | ⟨h1, h2, h3⟩
  · have hd : decide (next < (b : Int)) = true := by simpa using h
    refine wp_region_held_drew (S := (fun w' => Below W3.heap.size W3 w')) (by kernel_rfl) ?_ (fun hHeld => ?_)
    · exact (Below.refl _ _).drew
    refine tkF 0 (some 15) ?_
    refine tkF 1 (some 16) ?_
    refine tkE 2 (some 17) ?_ ?_ ?_
    rotate_left
    · (intro w hSw; (have t0 := cell_keep a0 hSw); (have t1 := cell_keep a1 hSw); go_simp <;> with_reducible rfl)
    refine tkF 3 (some 18) ?_
    refine tkF 4 (some 19) ?_
    refine tkS 5 (some 20) ?_
    refine tkS 6 (some 21) ?_
    refine tkS 7 (some 22) ?_
    refine tkS 8 (some 23) ?_
    refine tkS 9 (some 24) ?_
    refine tkS 10 (some 25) ?_
    refine tkS 11 (some 26) ?_
    refine tkF 12 (some 27) ?_
    refine tkF 13 (some 28) ?_
    refine tkS 14 (some 29) ?_
    refine tkS 15 (some 30) ?_
    refine tkS 16 (some 31) ?_
    refine tkF 17 (some 32) ?_
    refine wpAnyH_done (by kernel_rfl) ?_ _
    generalize W3.drew = W4 at hHeld ⊢
    have hU := hHeld
    have v0 := (Z2.keep hU).cell 0; have v1 := (Z2.keep hU).cell 1; have y0 := (Z1.keep hU).cell 0; have y1 := (Z1.keep hU).cell 1; have z0 := (Z1.keep hU).frozen 0; have z1 := (Z1.keep hU).frozen 1; have oU := owns_keep oW hU; have bU := kb BW hU (Nat.le_refl _); simp at v0 v1 y0 y1; go_wp2; have P4 := ownsRow_setCell_below (ownsRow_setCell_below oU (a := ⟨w.heap.size + 1, 0, none⟩) (by show w.heap.size + 1 < _; omega) (.int .i64 (b : Int))) (a := ⟨w.heap.size + 1, 1, none⟩) (by show w.heap.size + 1 < _; omega) (.slice (some ⟨g2, 0, none⟩) xs.length c2); refine bodyPost_ret (v := .agg #[.int .i64 (b : Int), .slice (some ⟨g2, 0, none⟩) xs.length c2]) (by simp [results, Try.results28, go_sem, y0, y1]) rfl ?_; unfold WordPost; rw [T0.out]; exact ⟨⟨_, _, rfl, owns_mono P4 (by omega)⟩, (bU.setCell (p := ⟨w.heap.size + 1, 0, none⟩) (by simp) _).setCell (p := ⟨w.heap.size + 1, 1, none⟩) (by simp) _⟩
  · have hd : decide (next < (b : Int)) = false := by simp; omega
    have hd2 : decide ((b : Int) + (fr : Int) < next) = true := by simpa using h2
    refine wp_region_held_drew (S := (fun w' => Below W3.heap.size W3 w')) (by kernel_rfl) ?_ (fun hHeld => ?_)
    · exact (Below.refl _ _).drew
    refine tkF 0 (some 15) ?_
    refine tkF 1 (some 16) ?_
    refine tkE 2 (some 17) ?_ ?_ ?_
    rotate_left
    · (intro w hSw; (have t0 := cell_keep a0 hSw); (have t1 := cell_keep a1 hSw); go_simp <;> with_reducible rfl)
    refine tkF 3 (some 18) ?_
    refine tkF 4 (some 19) ?_
    refine tkF 5 (some 20) ?_
    refine tkF 6 (some 21) ?_
    refine tkE 7 (some 22) ?_ ?_ ?_
    rotate_left
    · (intro w hSw; (have t0 := cell_keep a0 hSw); (have t1 := cell_keep a1 hSw); go_simp <;> with_reducible rfl)
    refine tkE 8 (some 23) ?_ ?_ ?_
    rotate_left
    · (intro w hSw; (have t0 := cell_keep a0 hSw); (have t1 := cell_keep a1 hSw); go_simp <;> with_reducible rfl)
    refine wpAnyH_ready (rs := [9]) (by kernel_rfl) (by simp) ?_
    refine AllReadyH.cons rfl (fun K hK => ?_) AllReadyH.nil
    go_simp
    refine (HL.out _ (RW.out.keep (by assumption))).mono ?_
    rintro e w4 ⟨rfl, hb4⟩
    go_wp2_with fail
    refine hK.out _ _ ?_ (fun hHeld => ?_)
    · exact kb (by assumption) hb4 (Nat.le_refl _)
    clear hK K
    try simp only [Act.put, List.setIfInBounds_toArray, List.set_cons_zero, List.set_cons_succ]
    refine tkF 10 (some 25) ?_
    refine tkF 11 (some 26) ?_
    refine tkF 12 (some 27) ?_
    refine tkF 13 (some 28) ?_
    refine tkS 14 (some 29) ?_
    refine tkS 15 (some 30) ?_
    refine tkS 16 (some 31) ?_
    refine tkF 17 (some 32) ?_
    refine wpAnyH_done (by kernel_rfl) ?_ _
    have hU := hHeld
    have v0 := (Z2.keep hU).cell 0; have v1 := (Z2.keep hU).cell 1; have y0 := (Z1.keep hU).cell 0; have y1 := (Z1.keep hU).cell 1; have z0 := (Z1.keep hU).frozen 0; have z1 := (Z1.keep hU).frozen 1; have oU := owns_keep oW hU; have bU := kb BW hU (Nat.le_refl _); simp at v0 v1 y0 y1; go_wp2; have P4 := ownsRow_setCell_below (ownsRow_setCell_below oU (a := ⟨w.heap.size + 1, 0, none⟩) (by show w.heap.size + 1 < _; omega) (.int .i64 (b : Int))) (a := ⟨w.heap.size + 1, 1, none⟩) (by show w.heap.size + 1 < _; omega) (.slice (some ⟨g2, 0, none⟩) xs.length c2); refine bodyPost_ret (v := .agg #[.int .i64 (b : Int), .slice (some ⟨g2, 0, none⟩) xs.length c2]) (by simp [results, Try.results28, go_sem, y0, y1]) rfl ?_; unfold WordPost; rw [T0.out]; exact ⟨⟨_, _, rfl, owns_mono P4 (by omega)⟩, (bU.setCell (p := ⟨w.heap.size + 1, 0, none⟩) (by simp) _).setCell (p := ⟨w.heap.size + 1, 1, none⟩) (by simp) _⟩
  · have hd : decide (next < (b : Int)) = false := by simp; omega
    have hd2 : decide ((b : Int) + (fr : Int) < next) = false := by simp; omega
    rw [h3] at HF
    refine wp_region_held_drew (S := (fun w' => Below W3.heap.size W3 w')) (by kernel_rfl) ?_ (fun hHeld => ?_)
    · exact (Below.refl _ _).drew
    refine tkF 0 (some 15) ?_
    refine tkF 1 (some 16) ?_
    refine tkE 2 (some 17) ?_ ?_ ?_
    rotate_left
    · (intro w hSw; (have t0 := cell_keep a0 hSw); (have t1 := cell_keep a1 hSw); go_simp <;> with_reducible rfl)
    refine tkF 3 (some 18) ?_
    refine tkF 4 (some 19) ?_
    refine tkF 5 (some 20) ?_
    refine tkF 6 (some 21) ?_
    refine tkE 7 (some 22) ?_ ?_ ?_
    rotate_left
    · (intro w hSw; (have t0 := cell_keep a0 hSw); (have t1 := cell_keep a1 hSw); go_simp <;> with_reducible rfl)
    refine tkE 8 (some 23) ?_ ?_ ?_
    rotate_left
    · (intro w hSw; (have t0 := cell_keep a0 hSw); (have t1 := cell_keep a1 hSw); go_simp <;> with_reducible rfl)
    refine wpAnyH_ready (rs := [9]) (by kernel_rfl) (by simp) ?_
    refine AllReadyH.cons rfl (fun K hK => ?_) AllReadyH.nil
    go_simp
    refine (HL.out _ (RW.out.keep (by assumption))).mono ?_
    rintro e w4 ⟨rfl, hb4⟩
    go_wp2_with fail
    refine hK.out _ _ ?_ (fun hHeld => ?_)
    · exact kb (by assumption) hb4 (Nat.le_refl _)
    clear hK K
    try simp only [Act.put, List.setIfInBounds_toArray, List.set_cons_zero, List.set_cons_succ]
    refine tkF 10 (some 25) ?_
    refine tkF 11 (some 26) ?_
    refine tkF 12 (some 27) ?_
    refine tkF 13 (some 28) ?_
    refine tkF 14 (some 29) ?_
    refine wpAnyH_ready (rs := [15]) (by kernel_rfl) (by simp) ?_
    refine AllReadyH.cons rfl (fun K hK => ?_) AllReadyH.nil
    go_simp
    refine (HF.out _).mono ?_
    rintro e w' ⟨rfl, rfl⟩
    go_wp2_with fail
    refine hK.out _ _ ?_ (fun hHeld => ?_)
    · assumption
    clear hK K
    try simp only [Act.put, List.setIfInBounds_toArray, List.set_cons_zero, List.set_cons_succ]
    refine tkF 16 (some 31) ?_
    refine tkF 17 (some 32) ?_
    refine wpAnyH_done (by kernel_rfl) ?_ _
    have hU := hHeld
    have v0 := (Z2.keep hU).cell 0; have v1 := (Z2.keep hU).cell 1; have y0 := (Z1.keep hU).cell 0; have y1 := (Z1.keep hU).cell 1; have z0 := (Z1.keep hU).frozen 0; have z1 := (Z1.keep hU).frozen 1; have oU := owns_keep oW hU; have bU := kb BW hU (Nat.le_refl _); simp at v0 v1 y0 y1; go_wp2; have P4 := ownsRow_setCell_below (ownsRow_setCell_below oU (a := ⟨w.heap.size + 1, 0, none⟩) (by show w.heap.size + 1 < _; omega) (.int .i64 (b : Int))) (a := ⟨w.heap.size + 1, 1, none⟩) (by show w.heap.size + 1 < _; omega) (.slice (some ⟨g2, 0, none⟩) xs.length c2); refine bodyPost_ret (v := .agg #[.int .i64 (b : Int), .slice (some ⟨g2, 0, none⟩) xs.length c2]) (by simp [results, Try.results28, go_sem, y0, y1]) rfl ?_; unfold WordPost; rw [T0.out]; exact ⟨⟨_, _, rfl, owns_mono P4 (by omega)⟩, (bU.setCell (p := ⟨w.heap.size + 1, 0, none⟩) (by simp) _).setCell (p := ⟨w.heap.size + 1, 1, none⟩) (by simp) _⟩
end Go.Proofs.Yteceaadmgpjmcaa.mk

/-
  TALKS: impl's talk and nextOf.
-/
import Derived.Test.YtmliinglojmojaaRtP
import Derived.Test.YtmliinglojmojaaBase
namespace Go.Proofs.Ytmliinglojmojaa.mk
open Go.RowKit
set_option linter.unusedVariables false

theorem ret_i {a b : Int} (h : a = b) : Ending.returned (.int .i64 a) = .returned (.int .i64 b) := by rw [h]
theorem talk_any (f a b : Int) (t : ByteArray) (w : World) :
    Calls Try.prog 78 #[.agg #[.int .i64 f, .int .i64 a, .int .i64 b, .string t]] w fun e w' => e = .returned (.agg #[.int .i64 f, .int .i64 a, .int .i64 b]) ∧ Below w.heap.size w w' := by
  go_enter Try.func78, Try.ntmps78
  go_wp2
  exact bodyPost_ret (v := .agg #[.int .i64 f, .int .i64 a, .int .i64 b]) (by simp [results, Try.results78, go_sem]) rfl ⟨rfl, ((Below.refl _ _).alloc (Nat.le_refl _) _).alloc (by simp) _⟩
set_option maxRecDepth 100000 in
set_option maxHeartbeats 2000000 in
theorem nextOf_any (ao : Option Addr) (cap : Nat) (gv : List Rc) (x : Rc) (p : Nat) (w : World) (hm : gv.length ≤ 1048576) (hp : p ≤ gv.length) (hr : Rs w ao gv.length (rcs gv)) :
    Calls Try.prog 79 #[.slice ao gv.length cap, .agg #[.int .i64 x.frm, .int .i64 x.a, .int .i64 x.b], .int .i64 p] w fun e w' => e = .returned (.int .i64 (nxt gv x p : Nat)) ∧ Below w.heap.size w w' := by
  have HR : Hid (Rs w ao gv.length (rcs gv)) := hr
  obtain ⟨xf, xa, xb, xt⟩ := x
  obtain ⟨N, hN⟩ : ∃ N, N = nxt gv ⟨xf, xa, xb, xt⟩ p := ⟨_, rfl⟩
  have HN : Hid (nxt gv ⟨xf, xa, xb, xt⟩ p = N) := hN.symm
  rw [← hN]
  have B0 : Hid (Below w.heap.size w (w.alloc (.cells #[.int .i64 xf, .int .i64 xa, .int .i64 xb] 101))) := (Below.refl _ _).alloc (Nat.le_refl _) _
  have X0 : Hid (Bx (w.alloc (.cells #[.int .i64 xf, .int .i64 xa, .int .i64 xb] 101)) w.heap.size 101 #[.int .i64 xf, .int .i64 xa, .int .i64 xb]) := Bx.new w _ _
  clear hr hN
  dsimp only
  go_enter Try.func79, Try.ntmps79
  go_wp2
  go_loopw [2] (fun q wr => ∃ k : Nat, k ≤ gv.length ∧ q = .int .i64 k ∧ nxt gv ⟨xf, xa, xb, xt⟩ k = N ∧ Below (w.heap.size + 1) (w.alloc (.cells #[.int .i64 xf, .int .i64 xa, .int .i64 xb] 101)) wr) (fun q _ => gv.length - (intOf q).toNat)
  case atStart => exact ⟨p, hp, rfl, HN.out, Below.refl _ _⟩
  case round =>
    obtain ⟨k, hk, rfl, hnx, hbel⟩ := hrel
    have X1 : Bx wr w.heap.size 101 #[.int .i64 xf, .int .i64 xa, .int .i64 xb] := X0.out.keep (by simpa using hbel)
    have hbel0 : Below w.heap.size w wr := B0.out.trans (hbel.mono (by omega))
    have k0 := X1.cell 0
    have k1 := X1.cell 1
    have k2 := X1.cell 2
    simp at k0 k1 k2
    have hws := X1.lt
    have HX : Hid (nxt gv ⟨xf, xa, xb, xt⟩ k = N) := hnx
    clear hnx
    by_cases hlt : k < gv.length
    · rcases HR.out.ex with h | ⟨g, rfl, hg, hgc⟩
      · omega
      obtain ⟨c0, c1, c2, c3⟩ := Rs.rcs (n := 0) hg hgc hbel0 k hlt
      clear hgc
      have HS : Hid (sameT ⟨xf, xa, xb, xt⟩ gv[k] = sameT ⟨xf, xa, xb, xt⟩ ⟨gv[k].frm, gv[k].a, gv[k].b, gv[k].text⟩) := rfl
      generalize gv[k].frm = vf at *
      generalize gv[k].a = va at *
      generalize gv[k].b = vb at *
      generalize gv[k].text = vt at *
      have HT : Hid (∀ u : World, Calls Try.prog 78 #[.agg #[.int .i64 vf, .int .i64 va, .int .i64 vb, .string vt]] u fun e w' => e = .returned (.agg #[.int .i64 vf, .int .i64 va, .int .i64 vb]) ∧ Below u.heap.size u w') := fun u => talk_any vf va vb vt u
      go_wp2
      by_cases hs : vf = xf ∧ va = xa ∧ vb = xb
      · obtain ⟨rfl, rfl, rfl⟩ := hs
        have HE : Hid (k = N) := (by rw [← HX.out, nxt_hit hlt (by rw [HS.out]; exact sameT_iff.2 ⟨rfl, rfl, rfl⟩)] : k = N)
        refine wp_region_held_drew (S := (fun w' => Below wr.heap.size wr w')) (by kernel_rfl) ?_ (fun hHeld => ?_)
        · exact (Below.refl _ _).drew
        refine tkF 0 (some 7) ?_
        refine tkF 1 (some 8) ?_
        refine tkF 2 (some 9) ?_
        refine tkF 3 (some 10) ?_
        refine tkF 4 (some 11) ?_
        refine tkF 5 (some 12) ?_
        refine tkF 6 (some 13) ?_
        refine tkF 7 (some 14) ?_
        refine tkE 8 (some 15) ?_ ?_ ?_
        rotate_left
        · (intro w hSw; (have hc0 := cell_keep c0 hSw); (have hc1 := cell_keep c1 hSw); (have hc2 := cell_keep c2 hSw); (have hc3 := cell_keep c3 hSw); (have hk0 := cell_keep k0 hSw); (have hk1 := cell_keep k1 hSw); (have hk2 := cell_keep k2 hSw); go_simp <;> with_reducible rfl)
        refine tkE 10 (some 17) ?_ ?_ ?_
        rotate_left
        · (intro w hSw; (have hc0 := cell_keep c0 hSw); (have hc1 := cell_keep c1 hSw); (have hc2 := cell_keep c2 hSw); (have hc3 := cell_keep c3 hSw); (have hk0 := cell_keep k0 hSw); (have hk1 := cell_keep k1 hSw); (have hk2 := cell_keep k2 hSw); go_simp <;> with_reducible rfl)
        refine wpAnyH_ready (rs := [9]) (by kernel_rfl) (by simp) ?_
        refine AllReadyH.cons rfl (fun K hK => ?_) AllReadyH.nil
        go_simp
        refine (HT.out _).mono ?_
        rintro e w2 ⟨rfl, hb2⟩
        go_wp2_with fail
        refine hK.out _ _ ?_ (fun hHeld => ?_)
        · exact kb (by assumption) hb2 (Nat.le_refl _)
        clear hK K
        try simp only [Act.put, List.setIfInBounds_toArray, List.set_cons_zero, List.set_cons_succ]
        refine takeD (i := 11) (d := some 18) (v := .bool false) rfl rfl (by kernel_rfl) (by kernel_rfl) (by kernel_rfl) (fun _ _ _ h => h) (Or.inl ⟨by rfl, (by intro w hSw; go_simp <;> simp)⟩) (by assumption) ?_
        simp only [Act.put, List.setIfInBounds_toArray, List.set_cons_zero, List.set_cons_succ]
        refine tkF 12 (some 19) ?_
        refine wpAnyH_done (by kernel_rfl) ?_ _
        go_wp2
        go_ret
        exact ⟨ret_i (by have := HE.out; omega), kb hbel0 (by assumption) (by omega)⟩
      · have HE : Hid (nxt gv ⟨xf, xa, xb, xt⟩ (k + 1) = N) := (by rw [← HX.out, nxt_go hlt (by rw [HS.out]; exact Bool.eq_false_iff.2 (fun h => hs (by have := sameT_iff.1 h; exact ⟨this.1.symm, this.2.1.symm, this.2.2.symm⟩)))] : nxt gv ⟨xf, xa, xb, xt⟩ (k + 1) = N)
        refine wp_region_held_drew (S := (fun w' => Below wr.heap.size wr w')) (by kernel_rfl) ?_ (fun hHeld => ?_)
        · exact (Below.refl _ _).drew
        refine tkF 0 (some 7) ?_
        refine tkF 1 (some 8) ?_
        refine tkF 2 (some 9) ?_
        refine tkF 3 (some 10) ?_
        refine tkF 4 (some 11) ?_
        refine tkF 5 (some 12) ?_
        refine tkF 6 (some 13) ?_
        refine tkF 7 (some 14) ?_
        refine tkE 8 (some 15) ?_ ?_ ?_
        rotate_left
        · (intro w hSw; (have hc0 := cell_keep c0 hSw); (have hc1 := cell_keep c1 hSw); (have hc2 := cell_keep c2 hSw); (have hc3 := cell_keep c3 hSw); (have hk0 := cell_keep k0 hSw); (have hk1 := cell_keep k1 hSw); (have hk2 := cell_keep k2 hSw); go_simp <;> with_reducible rfl)
        refine tkE 10 (some 17) ?_ ?_ ?_
        rotate_left
        · (intro w hSw; (have hc0 := cell_keep c0 hSw); (have hc1 := cell_keep c1 hSw); (have hc2 := cell_keep c2 hSw); (have hc3 := cell_keep c3 hSw); (have hk0 := cell_keep k0 hSw); (have hk1 := cell_keep k1 hSw); (have hk2 := cell_keep k2 hSw); go_simp <;> with_reducible rfl)
        refine wpAnyH_ready (rs := [9]) (by kernel_rfl) (by simp) ?_
        refine AllReadyH.cons rfl (fun K hK => ?_) AllReadyH.nil
        go_simp
        refine (HT.out _).mono ?_
        rintro e w2 ⟨rfl, hb2⟩
        go_wp2_with fail
        refine hK.out _ _ ?_ (fun hHeld => ?_)
        · exact kb (by assumption) hb2 (Nat.le_refl _)
        clear hK K
        try simp only [Act.put, List.setIfInBounds_toArray, List.set_cons_zero, List.set_cons_succ]
        refine takeD (i := 11) (d := some 18) (v := .bool true) rfl rfl (by kernel_rfl) (by kernel_rfl) (by kernel_rfl) (fun _ _ _ h => h) (Or.inl ⟨by rfl, (by intro w hSw; go_simp; (by_cases q1 : vf = xf <;> by_cases q2 : va = xa <;> by_cases q3 : vb = xb <;> simp_all))⟩) (by assumption) ?_
        simp only [Act.put, List.setIfInBounds_toArray, List.set_cons_zero, List.set_cons_succ]
        refine tkF 12 (some 19) ?_
        refine wpAnyH_done (by kernel_rfl) ?_ _
        have bs1 : w.heap.size + 1 ≤ wr.heap.size := by omega
        go_wp2
        go_roundw
        case rel => exact ⟨k + 1, by omega, by go_num, HE.out, hbel.trans (Below.mono (by assumption) bs1)⟩
        case measure => simp [intOf]; omega
    · obtain rfl : k = gv.length := by omega
      have HE : Hid (gv.length = N) := (by rw [← HX.out, nxt_stop (by omega)] : gv.length = N)
      go_wp2
      refine wp_region_held_drew (S := (fun w' => Below wr.heap.size wr w')) (by kernel_rfl) ?_ (fun hHeld => ?_)
      · exact (Below.refl _ _).drew
      refine tkF 0 (some 7) ?_
      refine tkF 1 (some 8) ?_
      refine tkF 2 (some 9) ?_
      refine takeD (i := 3) (d := some 10) (v := .bool false) rfl rfl (by kernel_rfl) (by kernel_rfl) (by kernel_rfl) (fun _ _ _ h => h) (Or.inl ⟨by rfl, (by intro w hSw; go_simp <;> simp)⟩) (by assumption) ?_
      simp only [Act.put, List.setIfInBounds_toArray, List.set_cons_zero, List.set_cons_succ]
      refine tkF 4 (some 11) ?_
      refine tkS 5 (some 12) ?_
      refine tkS 6 (some 13) ?_
      refine tkS 7 (some 14) ?_
      refine tkS 8 (some 15) ?_
      refine tkS 9 (some 16) ?_
      refine tkS 10 (some 17) ?_
      refine tkS 11 (some 18) ?_
      refine tkF 12 (some 19) ?_
      refine wpAnyH_done (by kernel_rfl) ?_ _
      go_wp2
      go_ret
      exact ⟨ret_i (by have := HE.out; omega), kb hbel0 (by assumption) (by omega)⟩
end Go.Proofs.Ytmliinglojmojaa.mk

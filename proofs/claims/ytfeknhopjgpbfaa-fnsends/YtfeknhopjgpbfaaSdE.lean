/-
  DRAWN SENDS: spec.l4Draw.
-/
import Derived.Test.YtfeknhopjgpbfaaSdD
import Derived.Test.YtfeknhopjgpbfaaSdB
namespace Go.Proofs.Ytfeknhopjgpbfaa.draw
open Go.RowKit mk
set_option linter.unusedVariables false

set_option maxRecDepth 100000 in
set_option maxHeartbeats 4000000 in
theorem l4Draw_any (B : Nat) (k : Int) (w : World) (h : Rd B k w) (hkb : k ≤ 800000) :
    Calls Try.prog 23 #[.pointer (some ⟨B, 0, none⟩)] w fun e w' => SPost Wk B k 300 w e w' := by
  have hlt := h.lt
  go_enter Try.func23, Try.ntmps23
  go_wp2_with (first
    | (go_at_call_of 13 (Value.int IntKind.i64 5); refine (pick_any B _ _ _ ((h.made _).made _) (by omega) (by omega)).mono ?_; rintro e w1 ⟨⟨z, rfl, z0, z1⟩, hr1, hb1⟩; (obtain ⟨V, hV, v0, v1⟩ := tab_ints (lo := 0) (hi := 999940) [0, 0, 3, 1000, 999940] hb1 (by simp; omega) z0 z1 (by decide)); (simp only [World.size_alloc] at hV))
    | (go_at_call_of 13 (Value.int IntKind.i64 5); refine (pick_any B _ _ _ (hr1.made _) (by omega) (by omega)).mono ?_; rintro e w2 ⟨⟨n, rfl, n0, n1⟩, hr2, hb2⟩))
  have hs : S4 B w.heap.size w1.heap.size (k + 1 + 1) w w2 V none 0 [] := by
    have hb0 := hb1.size
    simp only [World.size_alloc] at hb0
    have hR : Bx w1 w.heap.size 25 #[.int .i64 0, .slice none 0 0] := bx_but ((Bx.new w 25 #[.int .i64 0, .slice none 0 0]).alloc _) hb1 (by omega)
    have hB : B < w1.heap.size := hr1.lt
    exact ⟨hr2, (((((But.refl B w).alloc _).alloc _).trans hb1).alloc _).trans hb2, ⟨hlt, Nat.le_refl _, by omega, by omega⟩, bx_but (Bx.new w1 25 #[.int .i64 V, .slice none 0 0]) hb2 (by omega), bx_but (hR.alloc _) hb2 (by omega), World.ownsRow_nil _ _ _ _⟩
  have hk0 : Wk V [] := ⟨v0, by omega, by simp, fun i h => by simp at h⟩
  clear hr2 hb2 hr1 hb1 hV
  generalize hy : w1.heap.size = y at *
  generalize hR : w.heap.size = R at *
  go_loopw [4] (fun n wr => ∃ (m : Nat) (b : Int) (ao : Option Addr) (cap : Nat) (xs : List It) (kk : Int), n = .int .i64 m ∧ m ≤ 4 ∧ S4 B R y kk w wr b ao cap xs ∧ Wk b xs ∧ kk + 50 * m ≤ k + 210) (fun n _ => (intOf n).toNat)
  case atStart => exact ⟨n.toNat, V, none, 0, [], _, by congr 1; omega, by omega, hs, hk0, by omega⟩
  case round =>
    clear hs hk0
    obtain ⟨m, b, ao, cap, xs, kk, rfl, hm, hs, hk, hkk⟩ := hrel
    by_cases hlt2 : (m : Int) > 0
    · go_wp2
      refine Code.wp_mono ?_ (region5 B R y kk w wr b ao cap xs _ _ _ _ _ _ _ _ _ _ _ _ _ _ _ _ _ _ _ _ _ _ _ _ _ _ _ _ _ _ _ _ _ _ _ _ _ _ _ _ _ _ _ _ _ _ _ _ _ _ _ _ _ _ _ _ _ _ _ _ _ _ _ _ _ _ _ _ _ _ _ _ _ _ _ _ _ _ _ _ hs hk (by omega))
      intro x a w3 hx
      cases x
      case normal =>
        obtain ⟨v1, v2, v3, v4, v5, v6, v7, v8, v9, zb, b', a1, c1, ys, code, k', rfl, rfl, rfl, hs', hk', hz, hrow, hcode⟩ := hx
        clear hs
        by_cases hc : code = 0
        · subst hc
          have hw' := hcode rfl
          have hs := hs'.store b' a1 c1 ys hrow
          have HS : Hid (S4 B R y k' w ((w3.setCell ⟨y, 0, none⟩ (.int .i64 b')).setCell ⟨y, 1, none⟩ (.slice a1 ys.length c1)) b' a1 c1 ys) := hs
          have z0 := hz.cell 0
          have z1 := hz.cell 1
          simp at z0 z1
          obtain ⟨p0, p1, q0, q1, r0, r1, g0, g1⟩ := hs'.cells
          have ly := hs'.bx.lt
          have lR := hs'.res.lt
          clear hs hk hs'
          have hk := hw'
          clear hw' hcode
          go_wp2_with (go_at_call_of 13 (Value.int IntKind.i64 6); refine (pick_any B _ _ _ HS.out.rd (by omega) (by omega)).mono ?_; rintro e w6 ⟨⟨t, rfl, t0, t1⟩, hr1, hb1⟩; (have hs := HS.out.turn hb1 hr1); clear hr1 hb1; (clear p0 p1 q0 q1 r0 r1 g0 g1 ly lR); (obtain ⟨p0, p1, q0, q1, r0, r1, g0, g1⟩ := hs.cells); (have ly := hs.bx.lt); (have lR := hs.res.lt))
          go_loopw [7] (fun j wi => ∃ (m2 : Nat) (b : Int) (ao : Option Addr) (cap : Nat) (xs : List It), j = .int .i64 m2 ∧ m2 ≤ 6 ∧ S4 B R y (k' + 1) w wi b ao cap xs ∧ Wk b xs) (fun j _ => (intOf j).toNat)
          case atStart => exact ⟨t.toNat, _, _, _, _, by congr 1; omega, by omega, hs, hk⟩
          case round =>
            clear hs hk
            (clear p0 p1 q0 q1 r0 r1 g0 g1 ly lR)
            obtain ⟨m2, b, ao, cap, xs, rfl, hm2, hs, hk⟩ := hrel
            (obtain ⟨p0, p1, q0, q1, r0, r1, g0, g1⟩ := hs.cells); (have ly := hs.bx.lt); (have lR := hs.res.lt)
            by_cases hlt3 : (m2 : Int) > 0
            · go_wp2_with (go_at_call 33; refine (specTick_opt b ao cap xs _ hk.big.1 hk.big.2 hs.rs hs.nil).mono ?_; rintro e wt hpost; unfold TickPost at hpost; (obtain ⟨⟨a1, c1, a2, c2, rfl, hrow, hsent⟩, hbt⟩ := hpost); (replace hrow := hs.fresh hrow); (replace hs := hs.keep hbt); (clear p0 p1 q0 q1 r0 r1 g0 g1 ly lR); (obtain ⟨p0, p1, q0, q1, r0, r1, g0, g1⟩ := hs.cells); (have ly := hs.bx.lt); (have lR := hs.res.lt))
              refine ⟨⟨m2 - 1, _, _, _, _, by congr 1; omega, by omega, hs.store _ a1 c1 _ hrow, tick_wk _ _⟩, by simp only [intOf]; omega⟩
            · obtain rfl : m2 = 0 := by omega
              have hkb0 := hk.1
              have hkb1 := hk.2.1
              go_wp2_with (go_at_call_of 13 (Value.int IntKind.i64 3); refine (pick_any B _ _ _ hs.rd (by omega) (by omega)).mono ?_; rintro e w3 ⟨⟨f, rfl, f0, f1⟩, hr1, hb1⟩; (replace hs := hs.turn hb1 hr1); clear hr1 hb1; (clear p0 p1 q0 q1 r0 r1 g0 g1 ly lR); (obtain ⟨p0, p1, q0, q1, r0, r1, g0, g1⟩ := hs.cells); (have ly := hs.bx.lt); (have lR := hs.res.lt))
              · refine Code.wp_mono ?_ (region13 B R y _ w _ b ao cap xs _ _ _ _ _ _ _ _ _ _ _ _ _ _ _ _ _ _ _ _ _ _ _ _ _ _ _ _ _ _ _ _ _ _ _ _ _ _ _ _ _ _ _ _ _ _ _ _ _ _ _ _ _ _ _ _ _ _ _ _ _ _ _ _ _ _ _ _ _ _ _ _ _ _ _ _ _ _ _ _ hs hk (by omega))
                intro x a w4 hx
                cases x
                case normal =>
                  obtain ⟨v1, v2, v3, v4, v5, v6, v7, v8, v9, b', a1, c1, ys, k', rfl, hs', hk', hw'⟩ := hx
                  clear hs hk p0 p1 q0 q1 r0 r1 g0 g1 ly lR
                  go_wp2
                  refine ⟨⟨m - 1, _, _, _, _, _, by congr 1; omega, by omega, hs', hw', by omega⟩, by simp only [intOf]; omega⟩
                all_goals exact hx.elim
              · refine ⟨⟨m - 1, _, _, _, _, _, by congr 1; omega, by omega, hs, hk, by omega⟩, by simp only [intOf]; omega⟩
        · have hs := hs'
          clear hs' hcode
          (obtain ⟨p0, p1, q0, q1, r0, r1, g0, g1⟩ := hs.cells); (have ly := hs.bx.lt); (have lR := hs.res.lt)
          go_wp2_with (go_at_call_of 13 (Value.int IntKind.i64 6); refine (pick_any B _ _ _ hs.rd (by omega) (by omega)).mono ?_; rintro e w6 ⟨⟨t, rfl, t0, t1⟩, hr1, hb1⟩; (replace hs := hs.turn hb1 hr1); clear hr1 hb1; (clear p0 p1 q0 q1 r0 r1 g0 g1 ly lR); (obtain ⟨p0, p1, q0, q1, r0, r1, g0, g1⟩ := hs.cells); (have ly := hs.bx.lt); (have lR := hs.res.lt))
          go_loopw [7] (fun j wi => ∃ (m2 : Nat) (b : Int) (ao : Option Addr) (cap : Nat) (xs : List It), j = .int .i64 m2 ∧ m2 ≤ 6 ∧ S4 B R y (k' + 1) w wi b ao cap xs ∧ Wk b xs) (fun j _ => (intOf j).toNat)
          case atStart => exact ⟨t.toNat, _, _, _, _, by congr 1; omega, by omega, hs, hk⟩
          case round =>
            clear hs hk
            (clear p0 p1 q0 q1 r0 r1 g0 g1 ly lR)
            obtain ⟨m2, b, ao, cap, xs, rfl, hm2, hs, hk⟩ := hrel
            (obtain ⟨p0, p1, q0, q1, r0, r1, g0, g1⟩ := hs.cells); (have ly := hs.bx.lt); (have lR := hs.res.lt)
            by_cases hlt3 : (m2 : Int) > 0
            · go_wp2_with (go_at_call 33; refine (specTick_opt b ao cap xs _ hk.big.1 hk.big.2 hs.rs hs.nil).mono ?_; rintro e wt hpost; unfold TickPost at hpost; (obtain ⟨⟨a1, c1, a2, c2, rfl, hrow, hsent⟩, hbt⟩ := hpost); (replace hrow := hs.fresh hrow); (replace hs := hs.keep hbt); (clear p0 p1 q0 q1 r0 r1 g0 g1 ly lR); (obtain ⟨p0, p1, q0, q1, r0, r1, g0, g1⟩ := hs.cells); (have ly := hs.bx.lt); (have lR := hs.res.lt))
              refine ⟨⟨m2 - 1, _, _, _, _, by congr 1; omega, by omega, hs.store _ a1 c1 _ hrow, tick_wk _ _⟩, by simp only [intOf]; omega⟩
            · obtain rfl : m2 = 0 := by omega
              have hkb0 := hk.1
              have hkb1 := hk.2.1
              go_wp2_with (go_at_call_of 13 (Value.int IntKind.i64 3); refine (pick_any B _ _ _ hs.rd (by omega) (by omega)).mono ?_; rintro e w3 ⟨⟨f, rfl, f0, f1⟩, hr1, hb1⟩; (replace hs := hs.turn hb1 hr1); clear hr1 hb1; (clear p0 p1 q0 q1 r0 r1 g0 g1 ly lR); (obtain ⟨p0, p1, q0, q1, r0, r1, g0, g1⟩ := hs.cells); (have ly := hs.bx.lt); (have lR := hs.res.lt))
              · refine Code.wp_mono ?_ (region13 B R y _ w _ b ao cap xs _ _ _ _ _ _ _ _ _ _ _ _ _ _ _ _ _ _ _ _ _ _ _ _ _ _ _ _ _ _ _ _ _ _ _ _ _ _ _ _ _ _ _ _ _ _ _ _ _ _ _ _ _ _ _ _ _ _ _ _ _ _ _ _ _ _ _ _ _ _ _ _ _ _ _ _ _ _ _ _ hs hk (by omega))
                intro x a w4 hx
                cases x
                case normal =>
                  obtain ⟨v1, v2, v3, v4, v5, v6, v7, v8, v9, b', a1, c1, ys, k', rfl, hs', hk', hw'⟩ := hx
                  clear hs hk p0 p1 q0 q1 r0 r1 g0 g1 ly lR
                  go_wp2
                  refine ⟨⟨m - 1, _, _, _, _, _, by congr 1; omega, by omega, hs', hw', by omega⟩, by simp only [intOf]; omega⟩
                all_goals exact hx.elim
              · refine ⟨⟨m - 1, _, _, _, _, _, by congr 1; omega, by omega, hs, hk, by omega⟩, by simp only [intOf]; omega⟩
      all_goals exact hx.elim
    · obtain rfl : m = 0 := by omega
      (obtain ⟨p0, p1, q0, q1, r0, r1, g0, g1⟩ := hs.cells)
      (have ly := hs.bx.lt)
      (have lR := hs.res.lt)
      go_wp2_with (first | (go_at_call_of 13 (Value.int IntKind.i64 12); refine (pick_any B _ _ _ hs.rd (by omega) (by omega)).mono ?_; rintro e w12 ⟨⟨t, rfl, t0, t1⟩, hr1, hb1⟩; (replace hs := hs.turn hb1 hr1); clear hr1 hb1; (clear p0 p1 q0 q1 r0 r1 g0 g1 ly lR); (obtain ⟨p0, p1, q0, q1, r0, r1, g0, g1⟩ := hs.cells); (have ly := hs.bx.lt); (have lR := hs.res.lt)) | (go_at_call_of 13 (Value.int IntKind.i64 3); refine (pick_any B _ _ _ hs.rd (by omega) (by omega)).mono ?_; rintro e w3 ⟨⟨f, rfl, f0, f1⟩, hr1, hb1⟩; (replace hs := hs.turn hb1 hr1); clear hr1 hb1; (clear p0 p1 q0 q1 r0 r1 g0 g1 ly lR); (obtain ⟨p0, p1, q0, q1, r0, r1, g0, g1⟩ := hs.cells); (have ly := hs.bx.lt); (have lR := hs.res.lt)) | (go_at_call 17; refine (copy_opt b ao cap xs _ hk.big.1 hs.rs hs.nil).mono ?_; rintro e wc ⟨⟨gc, cc, rfl, hrow⟩, hbc⟩; (replace hrow := hs.fresh hrow); (replace hs := hs.keep hbc); (clear p0 p1 q0 q1 r0 r1 g0 g1 ly lR); (obtain ⟨p0, p1, q0, q1, r0, r1, g0, g1⟩ := hs.cells); (have ly := hs.bx.lt); (have lR := hs.res.lt)))
      · obtain ⟨i0, hi, hz0, hz1, hz2⟩ := info_parts info_item
        obtain ⟨NN, hNN⟩ : ∃ NN : Nat, (NN : Int) = 60 - f := ⟨(60 - f).toNat, by omega⟩
        rw [← hNN]
        have hN60 : NN ≤ 60 := by omega
        clear hNN
        have hxl := hk.2.2.1
        go_loopg [] (60 - xs.length) (fun g wi => ∃ (b : Int) (ao : Option Addr) (cap : Nat) (xs : List It), S4 B R y (kk + 1 + 1) w wi b ao cap xs ∧ Wk b xs ∧ xs.length + g = 60)
        case atStart => exact ⟨b, ao, cap, xs, hs, hk, by omega⟩
        case round =>
          clear hs hk p0 p1 q0 q1 r0 r1 g0 g1 ly lR hxl
          obtain ⟨b, ao, cap, xs, hs, hk, hgl⟩ := hrel
          rename World => wi
          (obtain ⟨p0, p1, q0, q1, r0, r1, g0, g1⟩ := hs.cells)
          (have ly := hs.bx.lt)
          (have lR := hs.res.lt)
          have hl := hs.lt
          have hsz := hs.but.size
          have hb0 := hk.1
          have hb1 := hk.2.1
          by_cases h1 : (xs.length : Int) < (NN : Int)
          · by_cases h2 : b + (xs.length : Int) < 1000000
            · go_wp2_with (at_builtin; refine wpList_append_own _ rfl _ _ 23 rfl w.heap.size 37 i0 (.agg #[.string ⟨#[]⟩, .bool false, .bool false, .int .i64 0]) 4 40 Try.underlying23 hi hz0 hz1 hz2 rfl (by decide) _ _ _ rfl (hs.alloc _).row ⟨wi.heap.size, 0, none⟩ 1 1 [.string ⟨#[102]⟩, .bool true, .bool false, .int .i64 (-1)] rfl rfl (item_news _ _ _ _ _) (item_one _ _ _ _) (by unfold maxLen; omega) (by omega) (by simp; omega) ?_; intro v' w4 hown hgrow _; (obtain ⟨a', c', rfl, _, _, _⟩ := rs_of_owns hown); (obtain ⟨t1', t2'⟩ := (hs.alloc _).app_cells hgrow))
              have e1 : (xs ++ [(⟨⟨#[102]⟩, true, false, -1⟩ : It)]).length = xs.length + 1 := by simp
              have hs2 := (hs.alloc _).append hgrow (a' := a') (c' := c') (zs := xs ++ [(⟨⟨#[102]⟩, true, false, -1⟩ : It)]) (by rw [is_append, e1]; exact hown)
              rw [e1] at hs2
              go_roundg (60 - (xs.length + 1))
              case rel => exact ⟨b, a', c', xs ++ [(⟨⟨#[102]⟩, true, false, -1⟩ : It)], hs2, wk_app hk _ (by decide) (by omega), by rw [e1]; omega⟩
              case measure => omega
            · go_wp2_with (go_at_call 17; refine (copy_opt b ao cap xs _ hk.big.1 hs.rs hs.nil).mono ?_; rintro e wc ⟨⟨gc, cc, rfl, hrow⟩, hbc⟩; (replace hrow := hs.fresh hrow); (replace hs := hs.keep hbc); (clear p0 p1 q0 q1 r0 r1 g0 g1 ly lR); (obtain ⟨p0, p1, q0, q1, r0, r1, g0, g1⟩ := hs.cells); (have ly := hs.bx.lt); (have lR := hs.res.lt))
              obtain ⟨F1, F2, F3⟩ := hs.fin (.int .i64 b) (.slice (some ⟨gc, 0, none⟩) xs.length cc) hrow
              exact bodyPost_ret (v := .agg #[.int .i64 b, .slice (some ⟨gc, 0, none⟩) xs.length cc]) (by simp [results, Try.results23, go_sem, r0, r1]) rfl (by unfold SPost; exact ⟨⟨b, _, cc, xs, rfl, hk, F3⟩, ⟨_, F1, by omega⟩, F2⟩)
          · go_wp2_with (go_at_call 17; refine (copy_opt b ao cap xs _ hk.big.1 hs.rs hs.nil).mono ?_; rintro e wc ⟨⟨gc, cc, rfl, hrow⟩, hbc⟩; (replace hrow := hs.fresh hrow); (replace hs := hs.keep hbc); (clear p0 p1 q0 q1 r0 r1 g0 g1 ly lR); (obtain ⟨p0, p1, q0, q1, r0, r1, g0, g1⟩ := hs.cells); (have ly := hs.bx.lt); (have lR := hs.res.lt))
            obtain ⟨F1, F2, F3⟩ := hs.fin (.int .i64 b) (.slice (some ⟨gc, 0, none⟩) xs.length cc) hrow
            exact bodyPost_ret (v := .agg #[.int .i64 b, .slice (some ⟨gc, 0, none⟩) xs.length cc]) (by simp [results, Try.results23, go_sem, r0, r1]) rfl (by unfold SPost; exact ⟨⟨b, _, cc, xs, rfl, hk, F3⟩, ⟨_, F1, by omega⟩, F2⟩)
      · obtain ⟨F1, F2, F3⟩ := hs.fin (.int .i64 b) (.slice (some ⟨gc, 0, none⟩) xs.length cc) hrow
        exact bodyPost_ret (v := .agg #[.int .i64 b, .slice (some ⟨gc, 0, none⟩) xs.length cc]) (by simp [results, Try.results23, go_sem, r0, r1]) rfl (by unfold SPost; exact ⟨⟨b, _, cc, xs, rfl, hk, F3⟩, ⟨_, F1, by omega⟩, F2⟩)
end Go.Proofs.Ytfeknhopjgpbfaa.draw

/-
  DRAWN SENDS: spec.l4Spoil.
-/
import Derived.Test.YtfeknhopjgpbfaaSdC
import Derived.Deep.QuietTactic
import Derived.BigQuiet
namespace Go.Proofs.Ytfeknhopjgpbfaa.draw
open Go.RowKit mk
set_option linter.unusedVariables false

theorem spoil_new {B : Nat} {k : Int} {w wc : World} {o : Obj} {b : Int} (h : Rd B k w) (hbc : Below ((w.alloc o).alloc (.cells #[.int .i64 0, .slice none 0 0] 25)).heap.size ((w.alloc o).alloc (.cells #[.int .i64 0, .slice none 0 0] 25)) wc) :
    S4 B (w.heap.size + 1) wc.heap.size k w ((wc.alloc (.cells #[.int .i64 b, .slice (some ⟨wc.heap.size + 1, 0, none⟩) 1 1] 25)).alloc (.cells #[.string ⟨#[]⟩, .bool false, .bool false, .int .i64 (-1)] 37)) b (some ⟨wc.heap.size + 1, 0, none⟩) 1 [(⟨⟨#[]⟩, false, false, -1⟩ : It)] := by
  have hsz := hbc.size
  have hlt := h.lt
  have hR := (Bx.new (w.alloc o) 25 #[.int .i64 0, .slice none 0 0]).keep hbc
  simp only [World.size_alloc] at hsz hR
  have ho := World.ownsRow_lit (base := w.heap.size) (e := 37) (size := 4) (wc.alloc (.cells #[.int .i64 b, .slice (some ⟨wc.heap.size + 1, 0, none⟩) 1 1] 25)) #[.string ⟨#[]⟩, .bool false, .bool false, .int .i64 (-1)] 1 (by simp; omega) (by decide) rfl
  simp only [World.size_alloc] at ho
  exact ⟨((((h.made _).made _).keep hbc).made _).made _, (((((But.refl B w).alloc _).alloc _).trans (But.ofBelow hbc)).alloc _).alloc _, ⟨hlt, by omega, by omega, by omega⟩, (Bx.new wc _ _).alloc _, (hR.alloc _).alloc _, ho⟩
set_option maxRecDepth 100000 in
set_option maxHeartbeats 4000000 in
theorem l4Spoil_none (B : Nat) (k b : Int) (ao : Option Addr) (cap : Nat) (w : World) (h : Rd B k w) (hkb : k ≤ 800000) (hr : Rs w ao 0 []) (hao : ao = none → cap = 0) (hk : Wk b []) :
    Calls Try.prog 24 #[.pointer (some ⟨B, 0, none⟩), .agg #[.int .i64 b, .slice ao 0 cap]] w fun e w' => SPost Wl B k 10 w e w' := by
  have hlt := h.lt
  have HC : Hid (∀ u : World, Rs u ao 0 [] → Calls Try.prog 17 #[.agg #[.int .i64 b, .slice ao 0 cap]] u fun e w' => (∃ g' c, e = .returned (.agg #[.int .i64 b, .slice (some ⟨g', 0, none⟩) 0 c]) ∧ w'.ownsRow u.heap.size 37 4 (.slice (some ⟨g', 0, none⟩) 0 c) 0 []) ∧ Below u.heap.size u w') := fun u hr => copy_opt b ao cap [] u (by simp) hr (fun e => ⟨rfl, hao e⟩)
  have R2 : Hid (Rs ((w.alloc (.cells #[.int .i64 b, .slice ao 0 cap] 25)).alloc (.cells #[.int .i64 0, .slice none 0 0] 25)) ao 0 []) := hr.keep (((Below.refl _ _).alloc (Nat.le_refl _) _).alloc (by simp) _)
  clear hr hao
  go_enter Try.func24, Try.ntmps24
  go_wp2_with (first
    | (go_at_call 17; refine (HC.out _ R2.out).mono ?_; rintro e wc ⟨⟨gc, cc, rfl, hrow⟩, hbc⟩; (have hs := spoil_new (b := b) h hbc); clear hbc hrow)
    | (go_at_call_of 13 (Value.int IntKind.i64 1); refine (pick_any B _ _ _ hs.rd (by omega) (by omega)).mono ?_; rintro e w1 ⟨⟨i, rfl, i0, i1⟩, hr1, hb1⟩; (replace hs := hs.turn hb1 hr1); clear hr1 hb1; (obtain ⟨p0, p1, q0, q1, r0, r1, g0, g1⟩ := hs.cells); (have ly := hs.bx.lt); (have lR := hs.res.lt))
    | (go_at_call_of 13 (Value.int IntKind.i64 6); refine (pick_any B _ _ _ (hs).rd (by omega) (by omega)).mono ?_; rintro e wz ⟨⟨s, rfl, s0, s1⟩, hr1, hb1⟩; (replace hs := (hs).turn hb1 hr1); clear hr1 hb1; (clear p0 p1 q0 q1 r0 r1 g0 g1 ly lR); (obtain ⟨p0, p1, q0, q1, r0, r1, g0, g1⟩ := hs.cells); (have ly := hs.bx.lt); (have lR := hs.res.lt)))
  all_goals clear HC R2
  all_goals replace hk : Wk b [(⟨⟨#[]⟩, false, false, -1⟩ : It)] := wk_app hk (⟨⟨#[]⟩, false, false, -1⟩ : It) (by decide) (by simp)
  all_goals generalize hgg : wc.heap.size + 1 = g at *
  all_goals generalize wc.heap.size = y at *
  all_goals generalize hxs : [(⟨⟨#[]⟩, false, false, -1⟩ : It)] = xs at *
  all_goals have hx1 : xs.length = 1 := (by rw [← hxs]; rfl)
  all_goals clear hxs
  all_goals generalize hRR : w.heap.size + 1 = R at *
  all_goals obtain ⟨j, rfl⟩ : ∃ j : Nat, i = (j : Int) := ⟨i.toNat, by omega⟩
  all_goals have hj : j < xs.length := by omega
  all_goals have hl : Wl b xs := hk.wl
  all_goals have nRy : ¬ R = y := hs.lt.2.2.2
  all_goals have nyR : ¬ y = R := fun e => nRy e.symm
  all_goals have hbb0 := hk.1
  all_goals have hbb1 := hk.2.1
  all_goals obtain ⟨d0, d2, d3, e0, e2, e3, ngy, ngR, lg⟩ := hs.row_cells j hj
  · go_wp2_with (go_at_call_of 13 (Value.int IntKind.i64 3); refine (pick_any B _ _ _ (hs.alloc _).rd (by omega) (by omega)).mono ?_; rintro e w2 ⟨⟨z, rfl, z0, z1⟩, hr1, hb1⟩; (obtain ⟨V, hV, v0, v1⟩ := tab_ints (lo := -1) (hi := 1000001) [-1, 1000000, 1000001] hb1 hs.rd.lt z0 z1 (by decide)); (replace hs := (hs.alloc _).turn hb1 hr1); clear hr1 hb1; (clear p0 p1 q0 q1 r0 r1 g0 g1 ly lR); (obtain ⟨p0, p1, q0, q1, r0, r1, g0, g1⟩ := hs.cells); (have ly := hs.bx.lt); (have lR := hs.res.lt))
    obtain ⟨F1, F2, F3⟩ := (hs.base V).fin (.int .i64 V) (.slice (some ⟨g, 0, none⟩) 1 1) (hs.base V).row
    exact bodyPost_ret (v := .agg #[.int .i64 V, .slice (some ⟨g, 0, none⟩) 1 1]) (by simp [results, Try.results24, go_sem, r0, r1]) rfl (by unfold SPost; exact ⟨⟨V, _, 1, xs, (by rw [hx1]), ⟨v0, v1, hl.2.2.1, hl.2.2.2⟩, F3⟩, ⟨_, F1, by omega⟩, F2⟩)
  · have lzz := hs.rd.lt
    go_region_with (first
      | (go_at_call_of 13 (Value.int IntKind.i64 5); refine (pick_any B _ _ _ hs.drew.rd (by omega) (by omega)).mono ?_; rintro e w2 ⟨⟨z, rfl, z0, z1⟩, hr1, hb1⟩; (replace hs := hs.drew.turn hb1 hr1); (obtain ⟨V, hV, v0, v1⟩ := tab_ints (lo := -2) (hi := 4) (T := 3) [-2, -1, 0, 3, 4] (But.refl B (w2.alloc _)) hs.rd.lt z0 z1 (by decide)); (have hV2 := hV); (simp [go_sem] at hV2); (simp only [List.map] at hV); (have hV3 : (#[.int .i64 (-2), .int .i64 (-1), .int .i64 0, .int .i64 3, .int .i64 4] : Array Value)[z.toNat]? = some (.int .i64 V) := (by simpa using hV2)); clear hr1 hb1; (clear p0 p1 q0 q1 r0 r1 g0 g1 ly lR); (clear d0 d2 d3 e0 e2 e3 ngy ngR lg); (obtain ⟨p0, p1, q0, q1, r0, r1, g0, g1⟩ := hs.cells); (have ly := hs.bx.lt); (have lR := hs.res.lt); (obtain ⟨d0, d2, d3, e0, e2, e3, ngy, ngR, lg⟩ := hs.row_cells j hj); (have n1 : ¬ g = w2.heap.size := (by omega)); (have n2 : ¬ w2.heap.size = g := (by omega)); (obtain ⟨dd0, dd2, dd3, ee0, ee2, ee3, _, _, lg2⟩ := (hs.alloc (.cells #[.int .i64 (-2), .int .i64 (-1), .int .i64 0, .int .i64 3, .int .i64 4] 3)).row_cells j hj))
      | (go_at_call_of 13 (Value.int IntKind.i64 5); refine (pick_any B _ _ _ (hs.alloc _).drew.rd (by omega) (by omega)).mono ?_; rintro e w2 ⟨⟨z, rfl, z0, z1⟩, hr1, hb1⟩; (obtain ⟨V, hV, v0, v1⟩ := tab_ints (lo := -2) (hi := 4) (T := 3) [-2, -1, 0, 3, 4] (show But B (wz.alloc _) w2 from ⟨hb1.os, hb1.tape, hb1.output, hb1.size, hb1.block⟩) hs.rd.lt z0 z1 (by decide)); (replace hs := (hs.alloc _).drew.turn hb1 hr1); clear hr1 hb1; (clear p0 p1 q0 q1 r0 r1 g0 g1 ly lR); (clear d0 d2 d3 e0 e2 e3 ngy ngR lg); (obtain ⟨p0, p1, q0, q1, r0, r1, g0, g1⟩ := hs.cells); (have ly := hs.bx.lt); (have lR := hs.res.lt); (obtain ⟨d0, d2, d3, e0, e2, e3, ngy, ngR, lg⟩ := hs.row_cells j hj)))
    all_goals have hs2 := hs.cell (ao := none) (j * 4 + 3) (.int .i64 V) _ (is_since xs j hj V) List.length_set
    all_goals clear p0 p1 q0 q1 r0 r1 g0 g1 ly lR
    all_goals clear d0 d2 d3 e0 e2 e3 ngy ngR lg
    all_goals generalize w2.setCell ⟨g, j * 4 + 3, none⟩ (.int .i64 V) = W at *
    all_goals replace hs := hs2
    all_goals first
      | ((obtain ⟨p0, p1, q0, q1, r0, r1, g0, g1⟩ := hs.cells); (have ly := hs.bx.lt); (have lR := hs.res.lt); go_wp2; obtain ⟨F1, F2, F3⟩ := (hs).fin (.int .i64 b) (.slice (some ⟨g, 0, none⟩) 1 1) (hs).row; exact bodyPost_ret (v := .agg #[.int .i64 b, .slice (some ⟨g, 0, none⟩) 1 1]) (by simp [results, Try.results24, go_sem, r0, r1]) rfl (by unfold SPost; exact ⟨⟨b, _, 1, xs.set j ⟨xs[j].text, xs[j].last, xs[j].has, V⟩, (by first | (rw [List.length_set, hx1]) | (rw [List.length_set])), wl_set hl j _ (hl.2.2.2 j hj), F3⟩, ⟨_, F1, by omega⟩, F2⟩))
      | ((replace hs := hs.alloc (.cells #[.int .i64 (-2), .int .i64 (-1), .int .i64 0, .int .i64 3, .int .i64 4] 3)); generalize W.alloc (.cells #[.int .i64 (-2), .int .i64 (-1), .int .i64 0, .int .i64 3, .int .i64 4] 3) = W2 at *; (obtain ⟨p0, p1, q0, q1, r0, r1, g0, g1⟩ := hs.cells); (have ly := hs.bx.lt); (have lR := hs.res.lt); go_wp2; obtain ⟨F1, F2, F3⟩ := (hs).fin (.int .i64 b) (.slice (some ⟨g, 0, none⟩) 1 1) (hs).row; exact bodyPost_ret (v := .agg #[.int .i64 b, .slice (some ⟨g, 0, none⟩) 1 1]) (by simp [results, Try.results24, go_sem, r0, r1]) rfl (by unfold SPost; exact ⟨⟨b, _, 1, xs.set j ⟨xs[j].text, xs[j].last, xs[j].has, V⟩, (by first | (rw [List.length_set, hx1]) | (rw [List.length_set])), wl_set hl j _ (hl.2.2.2 j hj), F3⟩, ⟨_, F1, by omega⟩, F2⟩))
  · go_region_with (fail)
    all_goals have hs2 := hs.cell (ao := none) (j * 4 + 2) (.bool (!xs[j].has)) _ (is_has xs j hj (!xs[j].has)) List.length_set
    all_goals clear p0 p1 q0 q1 r0 r1 g0 g1 ly lR
    all_goals clear d0 d2 d3 e0 e2 e3 ngy ngR lg
    all_goals generalize wz.setCell ⟨g, j * 4 + 2, none⟩ (.bool (!xs[j].has)) = W at *
    all_goals replace hs := hs2
    all_goals ((replace hs := hs.drew); generalize W.drew = W2 at *; (obtain ⟨p0, p1, q0, q1, r0, r1, g0, g1⟩ := hs.cells); (have ly := hs.bx.lt); (have lR := hs.res.lt); go_wp2; obtain ⟨F1, F2, F3⟩ := (hs).fin (.int .i64 b) (.slice (some ⟨g, 0, none⟩) 1 1) (hs).row; exact bodyPost_ret (v := .agg #[.int .i64 b, .slice (some ⟨g, 0, none⟩) 1 1]) (by simp [results, Try.results24, go_sem, r0, r1]) rfl (by unfold SPost; exact ⟨⟨b, _, 1, xs.set j ⟨xs[j].text, xs[j].last, !xs[j].has, xs[j].since⟩, (by first | (rw [List.length_set, hx1]) | (rw [List.length_set])), wl_set hl j _ (hl.2.2.2 j hj), F3⟩, ⟨_, F1, by omega⟩, F2⟩))
  · have lzz := hs.rd.lt
    go_region_held3 (fun u => u.cell? ⟨y, 1, none⟩ = some (.slice (some ⟨g, 0, none⟩) 1 1)) (first | exact p1 | go_keep) (first
      | (go_at_call_of 13 (Value.int IntKind.i64 2); refine (pick_any B _ _ _ hs.drew.rd (by omega) (by omega)).mono ?_; rintro e w1' ⟨⟨z, rfl, z0, z1⟩, hr1, hb1⟩; (have hwz : IntKind.i64.wrap (20 + z) = 20 + z := (by rw [IntKind.wrap_i64]; omega)); (replace hs := hs.drew.turn hb1 hr1); clear hr1 hb1; (clear p0 p1 q0 q1 r0 r1 g0 g1 ly lR); (clear d0 d2 d3 e0 e2 e3 ngy ngR lg); (obtain ⟨p0, p1, q0, q1, r0, r1, g0, g1⟩ := hs.cells); (have ly := hs.bx.lt); (have lR := hs.res.lt); (obtain ⟨d0, d2, d3, e0, e2, e3, ngy, ngR, lg⟩ := hs.row_cells j hj))
      | (go_at_call 34; refine (many_any _ _ _ (by decide) (by omega)).mono ?_; rintro e w2 ⟨⟨t, rfl, ht⟩, hb2⟩; (replace hs := hs.keep hb2); (clear p0 p1 q0 q1 r0 r1 g0 g1 ly lR); (clear d0 d2 d3 e0 e2 e3 ngy ngR lg); (obtain ⟨p0, p1, q0, q1, r0, r1, g0, g1⟩ := hs.cells); (have ly := hs.bx.lt); (have lR := hs.res.lt); (obtain ⟨d0, d2, d3, e0, e2, e3, ngy, ngR, lg⟩ := hs.row_cells j hj)))
    have ht2 : t.size ≤ 50 := by have : t.size ≤ (20 + z).toNat * 1 := ht; omega
    all_goals have hs2 := hs.cell (ao := none) (j * 4) (.string t) _ (is_text xs j hj t) List.length_set
    all_goals clear p0 p1 q0 q1 r0 r1 g0 g1 ly lR
    all_goals clear d0 d2 d3 e0 e2 e3 ngy ngR lg
    all_goals generalize w2.setCell ⟨g, j * 4, none⟩ (.string t) = W at *
    all_goals replace hs := hs2
    all_goals ((obtain ⟨p0, p1, q0, q1, r0, r1, g0, g1⟩ := hs.cells); (have ly := hs.bx.lt); (have lR := hs.res.lt); go_wp2; obtain ⟨F1, F2, F3⟩ := (hs).fin (.int .i64 b) (.slice (some ⟨g, 0, none⟩) 1 1) (hs).row; exact bodyPost_ret (v := .agg #[.int .i64 b, .slice (some ⟨g, 0, none⟩) 1 1]) (by simp [results, Try.results24, go_sem, r0, r1]) rfl (by unfold SPost; exact ⟨⟨b, _, 1, xs.set j ⟨t, xs[j].last, xs[j].has, xs[j].since⟩, (by first | (rw [List.length_set, hx1]) | (rw [List.length_set])), wl_set hl j _ ht2, F3⟩, ⟨_, F1, by omega⟩, F2⟩))
  · go_wp2_with (go_at_call_of 13 (Value.int IntKind.i64 2); refine (pick_any B _ _ _ (hs).rd (by omega) (by omega)).mono ?_; rintro e w2 ⟨⟨z, rfl, z0, z1⟩, hr1, hb1⟩; (replace hs := (hs).turn hb1 hr1); clear hr1 hb1; (clear p0 p1 q0 q1 r0 r1 g0 g1 ly lR); (clear d0 d2 d3 e0 e2 e3 ngy ngR lg); (obtain ⟨p0, p1, q0, q1, r0, r1, g0, g1⟩ := hs.cells); (have ly := hs.bx.lt); (have lR := hs.res.lt); (obtain ⟨d0, d2, d3, e0, e2, e3, ngy, ngR, lg⟩ := hs.row_cells j hj))
    obtain ⟨NN, hNN⟩ : ∃ NN : Nat, (NN : Int) = 60 + z := ⟨(60 + z).toNat, by omega⟩
    rw [← hNN]
    have hN60 : NN ≤ 61 := by omega
    clear hNN
    obtain ⟨i0, hi, hz0, hz1, hz2⟩ := info_parts info_item
    have hxl := hl.2.2.1
    have hxp : 0 < xs.length := by omega
    go_loopg [] (61 - xs.length) (fun gg wi => ∃ (ao : Option Addr) (cap : Nat) (xs : List It), S4 B R y (k + 1 + 1 + 1) w wi b ao cap xs ∧ Wl b xs ∧ 0 < xs.length ∧ xs.length + gg = 61)
    case atStart => exact ⟨_, 1, xs, hs, hl, hxp, by omega⟩
    case round =>
      clear hs hl p0 p1 q0 q1 r0 r1 g0 g1 ly lR d0 d2 d3 e0 e2 e3 ngy ngR lg hxl hxp
      obtain ⟨ao', cap', ys, hs, hl, hp', hgl⟩ := hrel
      rename World => wi
      (obtain ⟨p0, p1, q0, q1, r0, r1, g0, g1⟩ := hs.cells)
      (have ly := hs.bx.lt)
      (have lR := hs.res.lt)
      have hlt' := hs.lt
      have hsz := hs.but.size
      by_cases h1 : (ys.length : Int) < (NN : Int)
      · go_wp2_with (at_builtin; refine wpList_append_own _ rfl _ _ 23 rfl w.heap.size 37 i0 (.agg #[.string ⟨#[]⟩, .bool false, .bool false, .int .i64 0]) 4 40 Try.underlying23 hi hz0 hz1 hz2 rfl (by decide) _ _ _ rfl (hs.alloc _).row ⟨wi.heap.size, 0, none⟩ 1 1 [.string ⟨#[]⟩, .bool false, .bool false, .int .i64 (-1)] rfl rfl (item_news _ _ _ _ _) (item_one _ _ _ _) (by unfold maxLen; omega) (by omega) (by simp; omega) ?_; intro v' w4 hown hgrow _; (obtain ⟨a', c', rfl, _, _, _⟩ := rs_of_owns hown); (obtain ⟨t1', t2'⟩ := (hs.alloc _).app_cells hgrow))
        have e1 : (ys ++ [(⟨⟨#[]⟩, false, false, -1⟩ : It)]).length = ys.length + 1 := by simp
        have hs2 := (hs.alloc _).append hgrow (a' := a') (c' := c') (zs := ys ++ [(⟨⟨#[]⟩, false, false, -1⟩ : It)]) (by rw [is_append, e1]; exact hown)
        rw [e1] at hs2
        go_roundg (61 - (ys.length + 1))
        case rel => exact ⟨a', c', ys ++ [(⟨⟨#[]⟩, false, false, -1⟩ : It)], hs2, wl_app hl _ (by decide) (by omega), by rw [e1]; omega, by rw [e1]; omega⟩
        case measure => omega
      · go_wp2
        obtain ⟨F1, F2, F3⟩ := (hs).fin (.int .i64 b) (.slice ao' ys.length cap') (hs).row
        exact bodyPost_ret (v := .agg #[.int .i64 b, .slice ao' ys.length cap']) (by simp [results, Try.results24, go_sem, r0, r1]) rfl (by unfold SPost; exact ⟨⟨b, _, cap', ys, rfl, hl, F3⟩, ⟨_, F1, by omega⟩, F2⟩)
  · have a0 : (s == 0) = false := by assumption
    have a1 : (s == 1) = false := by assumption
    have a2 : (s == 2) = false := by assumption
    have a3 : (s == 3) = false := by assumption
    have a4 : (s == 4) = false := by assumption
    simp only [a0, a1, a2, a3, a4]
    obtain ⟨i0, hi, hz0, hz1, hz2⟩ := info_parts info_item
    have hxl := hl.2.2.1
    have hxp : 0 < xs.length := by omega
    go_loopg [] (61 - xs.length) (fun gg wi => ∃ (ao : Option Addr) (cap : Nat) (xs : List It), S4 B R y (k + 1 + 1) w wi b ao cap xs ∧ Wl b xs ∧ 0 < xs.length ∧ xs.length + gg = 61)
    case atStart => exact ⟨_, 1, xs, hs, hl, hxp, by omega⟩
    case round =>
      clear hs hl p0 p1 q0 q1 r0 r1 g0 g1 ly lR d0 d2 d3 e0 e2 e3 ngy ngR lg hxl hxp
      obtain ⟨ao', cap', ys, hs, hl, hp', hgl⟩ := hrel
      rename World => wi
      (obtain ⟨p0, p1, q0, q1, r0, r1, g0, g1⟩ := hs.cells)
      (have ly := hs.bx.lt)
      (have lR := hs.res.lt)
      have hlt' := hs.lt
      have hsz := hs.but.size
      by_cases h1 : (ys.length : Int) ≤ 8
      · go_wp2_with (at_builtin; refine wpList_append_own _ rfl _ _ 23 rfl w.heap.size 37 i0 (.agg #[.string ⟨#[]⟩, .bool false, .bool false, .int .i64 0]) 4 40 Try.underlying23 hi hz0 hz1 hz2 rfl (by decide) _ _ _ rfl (hs.alloc _).row ⟨wi.heap.size, 0, none⟩ 1 1 [.string ⟨#[]⟩, .bool false, .bool false, .int .i64 (-1)] rfl rfl (item_news _ _ _ _ _) (item_one _ _ _ _) (by unfold maxLen; omega) (by omega) (by simp; omega) ?_; intro v' w4 hown hgrow _; (obtain ⟨a', c', rfl, _, _, _⟩ := rs_of_owns hown); (obtain ⟨t1', t2'⟩ := (hs.alloc _).app_cells hgrow))
        have e1 : (ys ++ [(⟨⟨#[]⟩, false, false, -1⟩ : It)]).length = ys.length + 1 := by simp
        have hs2 := (hs.alloc _).append hgrow (a' := a') (c' := c') (zs := ys ++ [(⟨⟨#[]⟩, false, false, -1⟩ : It)]) (by rw [is_append, e1]; exact hown)
        rw [e1] at hs2
        go_roundg (61 - (ys.length + 1))
        case rel => exact ⟨a', c', ys ++ [(⟨⟨#[]⟩, false, false, -1⟩ : It)], hs2, wl_app hl _ (by decide) (by omega), by rw [e1]; omega, by rw [e1]; omega⟩
        case measure => omega
      · obtain ⟨g', rfl⟩ := hs.some hp'
        have h8 : 8 < ys.length := by omega
        (obtain ⟨d0, d2, d3, e0, e2, e3, ngy, ngR, lg⟩ := hs.row_cells 8 h8)
        simp only [Nat.reduceMul, Nat.reduceAdd] at d0 d2 d3 e0 e2 e3
        go_wp2
        go_region_held3 (fun u => u.cell? ⟨y, 1, none⟩ = some (.slice (some ⟨g', 0, none⟩) ys.length cap')) (first | exact p1 | go_keep) ((go_at_call_of 13 (Value.int IntKind.i64 2); refine (pick_any B _ _ _ hs.drew.rd (by omega) (by omega)).mono ?_; rintro e w2 ⟨⟨z, rfl, z0, z1⟩, hr1, hb1⟩; (have hwz : IntKind.i64.wrap (z - 1) = z - 1 := (by rw [IntKind.wrap_i64]; omega)); (replace hs := hs.drew.turn hb1 hr1); clear hr1 hb1; (clear p0 p1 q0 q1 r0 r1 g0 g1 ly lR); (clear d0 d2 d3 e0 e2 e3 ngy ngR lg); (obtain ⟨p0, p1, q0, q1, r0, r1, g0, g1⟩ := hs.cells); (have ly := hs.bx.lt); (have lR := hs.res.lt); (obtain ⟨d0, d2, d3, e0, e2, e3, ngy, ngR, lg⟩ := hs.row_cells 8 h8); simp only [Nat.reduceMul, Nat.reduceAdd] at d0 d2 d3 e0 e2 e3))
        have hs2 := hs.cell (ao := none) 35 (.int .i64 (z - 1)) _ (is_since ys 8 h8 (z - 1)) List.length_set
        clear p0 p1 q0 q1 r0 r1 g0 g1 ly lR
        clear d0 d2 d3 e0 e2 e3 ngy ngR lg
        generalize w2.setCell ⟨g', 35, none⟩ (.int .i64 (z - 1)) = W at *
        replace hs := hs2
        (obtain ⟨p0, p1, q0, q1, r0, r1, g0, g1⟩ := hs.cells)
        (have ly := hs.bx.lt)
        (have lR := hs.res.lt)
        go_wp2
        obtain ⟨F1, F2, F3⟩ := (hs).fin (.int .i64 b) (.slice (some ⟨g', 0, none⟩) ys.length cap') (hs).row
        exact bodyPost_ret (v := .agg #[.int .i64 b, .slice (some ⟨g', 0, none⟩) ys.length cap']) (by simp [results, Try.results24, go_sem, r0, r1]) rfl (by unfold SPost; exact ⟨⟨b, _, cap', ys.set 8 ⟨ys[8].text, ys[8].last, ys[8].has, z - 1⟩, (by first | (rw [List.length_set, hx1]) | (rw [List.length_set])), wl_set hl 8 _ (hl.2.2.2 8 h8), F3⟩, ⟨_, F1, by omega⟩, F2⟩)
  
end Go.Proofs.Ytfeknhopjgpbfaa.draw

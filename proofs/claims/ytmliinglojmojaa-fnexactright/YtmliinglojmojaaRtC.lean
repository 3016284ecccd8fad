/-
  RIGHT WORLDS: spec.Right.
-/
import Derived.Test.YtmliinglojmojaaRtB
import Derived.Deep.LoopGhost
namespace Go.Proofs.Ytmliinglojmojaa.mk
open Go.RowKit Go.Maps Go.WideMaps
set_option linter.unusedVariables false

theorem th_step {gv : List Rc} {x : Rc} {n0 i : Nat} {th th' : Bool} (hi : i < gv.length) (H : th = true ↔ ∃ q, q < i ∧ ∃ h : q < gv.length, sameT x gv[q] = true ∧ cntT x gv q = n0 ∧ gv[q].text = x.text) (h : th' = true ↔ th = true ∨ (sameT x gv[i] = true ∧ cntT x gv i = n0 ∧ gv[i].text = x.text)) : th' = true ↔ ∃ q, q < i + 1 ∧ ∃ h : q < gv.length, sameT x gv[q] = true ∧ cntT x gv q = n0 ∧ gv[q].text = x.text := by
  rw [h, H]
  constructor
  · rintro (⟨q, h1, h2⟩ | h1)
    · exact ⟨q, by omega, h2⟩
    · exact ⟨i, by omega, hi, h1⟩
  · rintro ⟨q, h1, h2, h3⟩
    rcases Nat.lt_or_ge q i with h4 | h4
    · exact .inl ⟨q, h4, h2, h3⟩
    · obtain rfl : q = i := by omega
      exact .inr h3
set_option maxRecDepth 100000 in
set_option maxHeartbeats 8000000 in
theorem specRight_yes (key : ByteArray) (width : Int) (eo : Option Addr) (ce : Nat) (es : List Ev) (fo : Option Addr) (cf : Nat) (fl : List Pc) (fg : ByteArray) (go : Option Addr) (cg : Nat) (gv : List Rc) (ko : Option Addr) (ck : Nat) (tk : List Rc) (w : World) (hm : Sw 1048576 key es fl fg gv tk) (hr : Rwo w eo es fo fl go gv ko tk) (hV : woOk key width es fl gv tk = true) (hgk : gv.length + tk.length ≤ 400) :
    Calls Try.prog 29 #[.agg #[.string key, .int .i64 width, .slice eo es.length ce, .slice fo fl.length cf, .string fg, .slice go gv.length cg, .slice ko tk.length ck]] w fun e w' => e = .returned (.bool (rightOk gv tk)) ∧ Below w.heap.size w w' := by
  have HV : Hid (∀ u : World, Rwo u eo es fo fl go gv ko tk → Calls Try.prog 26 #[.agg #[.string key, .int .i64 width, .slice eo es.length ce, .slice fo fl.length cf, .string fg, .slice go gv.length cg, .slice ko tk.length ck]] u fun e u' => e = .returned (.bool true) ∧ Below u.heap.size u u') := fun u h => by have := specValidWorld_any key width eo ce es fo cf fl fg go cg gv ko ck tk u hm h; rw [hV] at this; exact this
  have B0 : Hid (Below w.heap.size w (w.alloc (.cells #[.string key, .int .i64 width, .slice eo es.length ce, .slice fo fl.length cf, .string fg, .slice go gv.length cg, .slice ko tk.length ck] 26))) := (Below.refl _ _).alloc (Nat.le_refl _) _
  have X0 : Hid (Bx (w.alloc (.cells #[.string key, .int .i64 width, .slice eo es.length ce, .slice fo fl.length cf, .string fg, .slice go gv.length cg, .slice ko tk.length ck] 26)) w.heap.size 26 #[.string key, .int .i64 width, .slice eo es.length ce, .slice fo fl.length cf, .string fg, .slice go gv.length cg, .slice ko tk.length ck]) := Bx.new w _ _
  have R0 : Hid (Rwo (w.alloc (.cells #[.string key, .int .i64 width, .slice eo es.length ce, .slice fo fl.length cf, .string fg, .slice go gv.length cg, .slice ko tk.length ck] 26)) eo es fo fl go gv ko tk) := hr.keep B0.out
  have HR : Hid (Rwo w eo es fo fl go gv ko tk) := hr
  have HM : Hid (Sw 1048576 key es fl fg gv tk) := hm
  clear hr hm hV
  go_enter Try.func29, Try.ntmps29
  go_wp2_with (first
    | (go_at_call 26; refine (HV.out _ R0.out).mono ?_; rintro x w1 ⟨rfl, hb1⟩)
    | fail)
  have X1 := X0.out.keep hb1
  have B1 := kb B0.out hb1 (Nat.le_refl _)
  go_loopg [3] tk.length (fun g i wr => ∃ k : Nat, k + g = tk.length ∧ i = .int .i64 k ∧ (∀ j (h : j < tk.length), j < k → There gv tk[j] (cntT tk[j] tk j)) ∧ Bx wr w.heap.size 26 #[.string key, .int .i64 width, .slice eo es.length ce, .slice fo fl.length cf, .string fg, .slice go gv.length cg, .slice ko tk.length ck] ∧ Below w.heap.size w wr)
  case atStart => exact ⟨0, by omega, rfl, fun j _ h => absurd h (by omega), X1, B1⟩
  case round =>
    clear X1 B1 hb1
    obtain ⟨k, hkg, rfl, hall, X1, hbel⟩ := hrel
    rename World => wo
    have lX1 := X1.lt
    have x0 := X1.cell 0; have x1 := X1.cell 1; have x2 := X1.cell 2; have x3 := X1.cell 3; have x4 := X1.cell 4; have x5 := X1.cell 5; have x6 := X1.cell 6
    simp at x0 x1 x2 x3 x4 x5 x6
    have HL : Hid (∀ j (h : j < tk.length), j < k → There gv tk[j] (cntT tk[j] tk j)) := hall
    clear hall
    cases gk with
    | zero =>
      have hkz : ¬ ((k : Int) < (tk.length : Int)) := by omega
      have HF : Hid (rightOk gv tk = true) := rightOk_yes (fun j hj => HL.out j hj (by omega))
      go_wp2
      go_ret
      exact ⟨ret_b (by rw [HF.out]), hbel⟩
    | succ g =>
      have hlt : k < tk.length := by omega
      have hki : (k : Int) < (tk.length : Int) := by omega
      rcases HR.out.taken.ex with h | ⟨gt, rfl, hgt, hgc⟩
      · omega
      have HGC : Hid (∀ j, j < (rcs tk).length → w.cell? ⟨gt, j, none⟩ = (rcs tk)[j]?) := hgc
      obtain ⟨c0, c1, c2, c3⟩ := Rs.rcs (n := 0) hgt hgc hbel k hlt
      have hsz : tk[k].text.size ≤ 1048576 := HM.out.taken k hlt
      clear hgc
      revert c0 c1 c2 c3 hsz
      generalize hx : tk[k] = x
      have HX : Hid (tk[k] = x) := hx
      clear hx
      obtain ⟨xf, xa, xb, xt⟩ := x
      dsimp only
      intro c0 c1 c2 c3 hsz
      go_wp2
      have X2 := (Bx.new wo 98 #[.int .i64 xf, .int .i64 xa, .int .i64 xb, .string xt])
      have Xw2 := X1.alloc (.cells #[.int .i64 xf, .int .i64 xa, .int .i64 xb, .string xt] 98)
      have B2 := hbel.alloc hbel.size (.cells #[.int .i64 xf, .int .i64 xa, .int .i64 xb, .string xt] 98)
      have HXw : Hid (wo.heap.size = wo.heap.size) := rfl
      clear X1 x0 x1 x2 x3 x4 x5 x6 c0 c1 c2 c3
      go_loopg [5, 6] k (fun g2 s5 s6 wi => ∃ j : Nat, j + g2 = k ∧ s6 = .int .i64 j ∧ s5 = .int .i64 (cntT ⟨xf, xa, xb, xt⟩ tk j : Nat) ∧ Bx wi wo.heap.size 98 #[.int .i64 xf, .int .i64 xa, .int .i64 xb, .string xt] ∧ Bx wi w.heap.size 26 #[.string key, .int .i64 width, .slice eo es.length ce, .slice fo fl.length cf, .string fg, .slice go gv.length cg, .slice (some ⟨gt, 0, none⟩) tk.length ck] ∧ Below w.heap.size w wi)
      case atStart => exact ⟨0, by omega, rfl, by rw [cntT_zero]; rfl, X2, Xw2, B2⟩
      case round =>
        clear X2 Xw2 B2
        obtain ⟨j, hjg, rfl, rfl, X2, Xw2, B2⟩ := hrel
        have y0 : wr.cell? ⟨wo.heap.size, 0, none⟩ = some (.int .i64 xf) := X2.cell 0
        have y1 : wr.cell? ⟨wo.heap.size, 1, none⟩ = some (.int .i64 xa) := X2.cell 1
        have y2 : wr.cell? ⟨wo.heap.size, 2, none⟩ = some (.int .i64 xb) := X2.cell 2
        have y3 : wr.cell? ⟨wo.heap.size, 3, none⟩ = some (.string xt) := X2.cell 3
        have t6 : wr.cell? ⟨w.heap.size, 6, none⟩ = some (.slice (some ⟨gt, 0, none⟩) tk.length ck) := Xw2.cell 6
        have t5 : wr.cell? ⟨w.heap.size, 5, none⟩ = some (.slice go gv.length cg) := Xw2.cell 5
        cases gk with
        | succ g2 =>
          have hjk : (j : Int) < (k : Int) := by omega
          have hjl : j < tk.length := by omega
          obtain ⟨c0, c1, c2, c3⟩ := Rs.rcs (n := 0) hgt HGC.out B2 j hjl
          have HC : Hid (cntT ⟨xf, xa, xb, xt⟩ tk (j + 1) = cntT ⟨xf, xa, xb, xt⟩ tk j + (if sameT ⟨xf, xa, xb, xt⟩ ⟨tk[j].frm, tk[j].a, tk[j].b, tk[j].text⟩ then 1 else 0)) := cntT_succ _ tk j hjl
          obtain ⟨m, hm⟩ : ∃ m, cntT ⟨xf, xa, xb, xt⟩ tk j = m := ⟨_, rfl⟩
          have hml : m ≤ 400 := by rw [← hm]; unfold cntT; exact Nat.le_trans (List.length_filter_le _ _) (by simp; omega)
          rw [hm] at HC ⊢
          clear hm
          generalize tk[j].frm = vf at *
          generalize tk[j].a = va at *
          generalize tk[j].b = vb at *
          generalize tk[j].text = vt at *
          go_wp2
          by_cases h1 : vf = xf
          case neg =>
            have HE : Hid (cntT ⟨xf, xa, xb, xt⟩ tk (j + 1) = m) := (by rw [HC.out, if_neg (by intro q; exact h1 (sameT_iff.1 q).1.symm)]; rfl : cntT ⟨xf, xa, xb, xt⟩ tk (j + 1) = m)
            refine wp_region_held_drew (S := (fun w' => Below wr.heap.size wr w')) (by kernel_rfl) ?_ (fun hHeld => ?_)
            · exact (Below.refl _ _).drew
            refine tkF 0 (some 30) ?_
            refine tkE 1 (some 31) ?_ ?_ ?_
            rotate_left
            · (intro w hSw; (have ht6 := cell_keep t6 hSw); (have hc0 := cell_keep c0 hSw); (have hc1 := cell_keep c1 hSw); (have hc2 := cell_keep c2 hSw); (have hy0 := cell_keep y0 hSw); (have hy1 := cell_keep y1 hSw); (have hy2 := cell_keep y2 hSw); go_simp <;> with_reducible rfl)
            refine tkF 2 (some 32) ?_
            refine tkF 3 (some 33) ?_
            refine tkF 4 (some 34) ?_
            refine tkE 5 (some 35) ?_ ?_ ?_
            rotate_left
            · (intro w hSw; (have ht6 := cell_keep t6 hSw); (have hc0 := cell_keep c0 hSw); (have hc1 := cell_keep c1 hSw); (have hc2 := cell_keep c2 hSw); (have hy0 := cell_keep y0 hSw); (have hy1 := cell_keep y1 hSw); (have hy2 := cell_keep y2 hSw); go_simp <;> with_reducible rfl)
            refine tkF 6 (some 36) ?_
            refine tkE 7 (some 37) ?_ ?_ ?_
            rotate_left
            · (intro w hSw; (have ht6 := cell_keep t6 hSw); (have hc0 := cell_keep c0 hSw); (have hc1 := cell_keep c1 hSw); (have hc2 := cell_keep c2 hSw); (have hy0 := cell_keep y0 hSw); (have hy1 := cell_keep y1 hSw); (have hy2 := cell_keep y2 hSw); go_simp <;> with_reducible rfl)
            refine takeD (i := 8) (d := some 38) (v := .bool false) rfl rfl (by kernel_rfl) (by kernel_rfl) (by kernel_rfl) (fun _ _ _ h => h) (Or.inl ⟨by rfl, (by intro w hSw; first | (go_simp; done) | (go_simp; first | rfl | omega | assumption | simp [h1]))⟩) (by assumption) ?_
            simp only [Act.put, List.setIfInBounds_toArray, List.set_cons_zero, List.set_cons_succ]
            refine tkF 9 (some 39) ?_
            refine tkS 10 (some 40) ?_
            refine tkS 11 (some 41) ?_
            refine tkS 12 (some 42) ?_
            refine tkS 13 (some 43) ?_
            refine tkS 14 (some 44) ?_
            refine tkS 15 (some 45) ?_
            refine tkS 16 (some 46) ?_
            refine tkS 17 (some 47) ?_
            refine tkS 18 (some 48) ?_
            refine tkF 19 (some 49) ?_
            refine tkF 20 (some 50) ?_
            refine tkS 21 (some 51) ?_
            refine tkS 22 (some 52) ?_
            refine tkS 23 (some 53) ?_
            refine tkS 24 (some 54) ?_
            refine tkS 25 (some 55) ?_
            refine tkS 26 (some 56) ?_
            refine tkS 27 (some 57) ?_
            refine tkS 28 (some 58) ?_
            refine tkS 29 (some 59) ?_
            refine tkF 30 (some 60) ?_
            refine wpAnyH_done (by kernel_rfl) ?_ _
            go_wp2
            go_roundg g2
            case rel => exact ⟨j + 1, by omega, by go_num, by rw [HE.out], X2.keep hHeld, Xw2.keep hHeld, kb B2 hHeld (Nat.le_refl _)⟩
            case measure => omega
          by_cases h2 : va = xa
          case neg =>
            have HE : Hid (cntT ⟨xf, xa, xb, xt⟩ tk (j + 1) = m) := (by rw [HC.out, if_neg (by intro q; exact h2 (sameT_iff.1 q).2.1.symm)]; rfl : cntT ⟨xf, xa, xb, xt⟩ tk (j + 1) = m)
            refine wp_region_held_drew (S := (fun w' => Below wr.heap.size wr w')) (by kernel_rfl) ?_ (fun hHeld => ?_)
            · exact (Below.refl _ _).drew
            refine tkF 0 (some 30) ?_
            refine tkE 1 (some 31) ?_ ?_ ?_
            rotate_left
            · (intro w hSw; (have ht6 := cell_keep t6 hSw); (have hc0 := cell_keep c0 hSw); (have hc1 := cell_keep c1 hSw); (have hc2 := cell_keep c2 hSw); (have hy0 := cell_keep y0 hSw); (have hy1 := cell_keep y1 hSw); (have hy2 := cell_keep y2 hSw); go_simp <;> with_reducible rfl)
            refine tkF 2 (some 32) ?_
            refine tkF 3 (some 33) ?_
            refine tkF 4 (some 34) ?_
            refine tkE 5 (some 35) ?_ ?_ ?_
            rotate_left
            · (intro w hSw; (have ht6 := cell_keep t6 hSw); (have hc0 := cell_keep c0 hSw); (have hc1 := cell_keep c1 hSw); (have hc2 := cell_keep c2 hSw); (have hy0 := cell_keep y0 hSw); (have hy1 := cell_keep y1 hSw); (have hy2 := cell_keep y2 hSw); go_simp <;> with_reducible rfl)
            refine tkF 6 (some 36) ?_
            refine tkE 7 (some 37) ?_ ?_ ?_
            rotate_left
            · (intro w hSw; (have ht6 := cell_keep t6 hSw); (have hc0 := cell_keep c0 hSw); (have hc1 := cell_keep c1 hSw); (have hc2 := cell_keep c2 hSw); (have hy0 := cell_keep y0 hSw); (have hy1 := cell_keep y1 hSw); (have hy2 := cell_keep y2 hSw); go_simp <;> with_reducible rfl)
            refine takeD (i := 8) (d := some 38) (v := .bool true) rfl rfl (by kernel_rfl) (by kernel_rfl) (by kernel_rfl) (fun _ _ _ h => h) (Or.inl ⟨by rfl, (by intro w hSw; first | (go_simp; done) | (go_simp; first | rfl | omega | assumption | simp [h1]))⟩) (by assumption) ?_
            simp only [Act.put, List.setIfInBounds_toArray, List.set_cons_zero, List.set_cons_succ]
            refine tkF 9 (some 39) ?_
            refine tkF 10 (some 40) ?_
            refine tkE 11 (some 41) ?_ ?_ ?_
            rotate_left
            · (intro w hSw; (have ht6 := cell_keep t6 hSw); (have hc0 := cell_keep c0 hSw); (have hc1 := cell_keep c1 hSw); (have hc2 := cell_keep c2 hSw); (have hy0 := cell_keep y0 hSw); (have hy1 := cell_keep y1 hSw); (have hy2 := cell_keep y2 hSw); go_simp <;> with_reducible rfl)
            refine tkF 12 (some 42) ?_
            refine tkF 13 (some 43) ?_
            refine tkF 14 (some 44) ?_
            refine tkE 15 (some 45) ?_ ?_ ?_
            rotate_left
            · (intro w hSw; (have ht6 := cell_keep t6 hSw); (have hc0 := cell_keep c0 hSw); (have hc1 := cell_keep c1 hSw); (have hc2 := cell_keep c2 hSw); (have hy0 := cell_keep y0 hSw); (have hy1 := cell_keep y1 hSw); (have hy2 := cell_keep y2 hSw); go_simp <;> with_reducible rfl)
            refine tkF 16 (some 46) ?_
            refine tkE 17 (some 47) ?_ ?_ ?_
            rotate_left
            · (intro w hSw; (have ht6 := cell_keep t6 hSw); (have hc0 := cell_keep c0 hSw); (have hc1 := cell_keep c1 hSw); (have hc2 := cell_keep c2 hSw); (have hy0 := cell_keep y0 hSw); (have hy1 := cell_keep y1 hSw); (have hy2 := cell_keep y2 hSw); go_simp <;> with_reducible rfl)
            refine takeD (i := 18) (d := some 48) (v := .bool false) rfl rfl (by kernel_rfl) (by kernel_rfl) (by kernel_rfl) (fun _ _ _ h => h) (Or.inl ⟨by rfl, (by intro w hSw; first | (go_simp; done) | (go_simp; first | rfl | omega | assumption | simp [h2]))⟩) (by assumption) ?_
            simp only [Act.put, List.setIfInBounds_toArray, List.set_cons_zero, List.set_cons_succ]
            refine tkF 19 (some 49) ?_
            refine tkF 20 (some 50) ?_
            refine tkS 21 (some 51) ?_
            refine tkS 22 (some 52) ?_
            refine tkS 23 (some 53) ?_
            refine tkS 24 (some 54) ?_
            refine tkS 25 (some 55) ?_
            refine tkS 26 (some 56) ?_
            refine tkS 27 (some 57) ?_
            refine tkS 28 (some 58) ?_
            refine tkS 29 (some 59) ?_
            refine tkF 30 (some 60) ?_
            refine wpAnyH_done (by kernel_rfl) ?_ _
            go_wp2
            go_roundg g2
            case rel => exact ⟨j + 1, by omega, by go_num, by rw [HE.out], X2.keep hHeld, Xw2.keep hHeld, kb B2 hHeld (Nat.le_refl _)⟩
            case measure => omega
          by_cases h3 : vb = xb
          case neg =>
            have HE : Hid (cntT ⟨xf, xa, xb, xt⟩ tk (j + 1) = m) := (by rw [HC.out, if_neg (by intro q; exact h3 (sameT_iff.1 q).2.2.symm)]; rfl : cntT ⟨xf, xa, xb, xt⟩ tk (j + 1) = m)
            refine wp_region_held_drew (S := (fun w' => Below wr.heap.size wr w')) (by kernel_rfl) ?_ (fun hHeld => ?_)
            · exact (Below.refl _ _).drew
            refine tkF 0 (some 30) ?_
            refine tkE 1 (some 31) ?_ ?_ ?_
            rotate_left
            · (intro w hSw; (have ht6 := cell_keep t6 hSw); (have hc0 := cell_keep c0 hSw); (have hc1 := cell_keep c1 hSw); (have hc2 := cell_keep c2 hSw); (have hy0 := cell_keep y0 hSw); (have hy1 := cell_keep y1 hSw); (have hy2 := cell_keep y2 hSw); go_simp <;> with_reducible rfl)
            refine tkF 2 (some 32) ?_
            refine tkF 3 (some 33) ?_
            refine tkF 4 (some 34) ?_
            refine tkE 5 (some 35) ?_ ?_ ?_
            rotate_left
            · (intro w hSw; (have ht6 := cell_keep t6 hSw); (have hc0 := cell_keep c0 hSw); (have hc1 := cell_keep c1 hSw); (have hc2 := cell_keep c2 hSw); (have hy0 := cell_keep y0 hSw); (have hy1 := cell_keep y1 hSw); (have hy2 := cell_keep y2 hSw); go_simp <;> with_reducible rfl)
            refine tkF 6 (some 36) ?_
            refine tkE 7 (some 37) ?_ ?_ ?_
            rotate_left
            · (intro w hSw; (have ht6 := cell_keep t6 hSw); (have hc0 := cell_keep c0 hSw); (have hc1 := cell_keep c1 hSw); (have hc2 := cell_keep c2 hSw); (have hy0 := cell_keep y0 hSw); (have hy1 := cell_keep y1 hSw); (have hy2 := cell_keep y2 hSw); go_simp <;> with_reducible rfl)
            refine takeD (i := 8) (d := some 38) (v := .bool true) rfl rfl (by kernel_rfl) (by kernel_rfl) (by kernel_rfl) (fun _ _ _ h => h) (Or.inl ⟨by rfl, (by intro w hSw; first | (go_simp; done) | (go_simp; first | rfl | omega | assumption | simp [h1]))⟩) (by assumption) ?_
            simp only [Act.put, List.setIfInBounds_toArray, List.set_cons_zero, List.set_cons_succ]
            refine tkF 9 (some 39) ?_
            refine tkF 10 (some 40) ?_
            refine tkE 11 (some 41) ?_ ?_ ?_
            rotate_left
            · (intro w hSw; (have ht6 := cell_keep t6 hSw); (have hc0 := cell_keep c0 hSw); (have hc1 := cell_keep c1 hSw); (have hc2 := cell_keep c2 hSw); (have hy0 := cell_keep y0 hSw); (have hy1 := cell_keep y1 hSw); (have hy2 := cell_keep y2 hSw); go_simp <;> with_reducible rfl)
            refine tkF 12 (some 42) ?_
            refine tkF 13 (some 43) ?_
            refine tkF 14 (some 44) ?_
            refine tkE 15 (some 45) ?_ ?_ ?_
            rotate_left
            · (intro w hSw; (have ht6 := cell_keep t6 hSw); (have hc0 := cell_keep c0 hSw); (have hc1 := cell_keep c1 hSw); (have hc2 := cell_keep c2 hSw); (have hy0 := cell_keep y0 hSw); (have hy1 := cell_keep y1 hSw); (have hy2 := cell_keep y2 hSw); go_simp <;> with_reducible rfl)
            refine tkF 16 (some 46) ?_
            refine tkE 17 (some 47) ?_ ?_ ?_
            rotate_left
            · (intro w hSw; (have ht6 := cell_keep t6 hSw); (have hc0 := cell_keep c0 hSw); (have hc1 := cell_keep c1 hSw); (have hc2 := cell_keep c2 hSw); (have hy0 := cell_keep y0 hSw); (have hy1 := cell_keep y1 hSw); (have hy2 := cell_keep y2 hSw); go_simp <;> with_reducible rfl)
            refine takeD (i := 18) (d := some 48) (v := .bool true) rfl rfl (by kernel_rfl) (by kernel_rfl) (by kernel_rfl) (fun _ _ _ h => h) (Or.inl ⟨by rfl, (by intro w hSw; first | (go_simp; done) | (go_simp; first | rfl | omega | assumption | simp [h2]))⟩) (by assumption) ?_
            simp only [Act.put, List.setIfInBounds_toArray, List.set_cons_zero, List.set_cons_succ]
            refine tkF 19 (some 49) ?_
            refine tkF 20 (some 50) ?_
            refine tkF 21 (some 51) ?_
            refine tkE 22 (some 52) ?_ ?_ ?_
            rotate_left
            · (intro w hSw; (have ht6 := cell_keep t6 hSw); (have hc0 := cell_keep c0 hSw); (have hc1 := cell_keep c1 hSw); (have hc2 := cell_keep c2 hSw); (have hy0 := cell_keep y0 hSw); (have hy1 := cell_keep y1 hSw); (have hy2 := cell_keep y2 hSw); go_simp <;> with_reducible rfl)
            refine tkF 23 (some 53) ?_
            refine tkF 24 (some 54) ?_
            refine tkF 25 (some 55) ?_
            refine tkE 26 (some 56) ?_ ?_ ?_
            rotate_left
            · (intro w hSw; (have ht6 := cell_keep t6 hSw); (have hc0 := cell_keep c0 hSw); (have hc1 := cell_keep c1 hSw); (have hc2 := cell_keep c2 hSw); (have hy0 := cell_keep y0 hSw); (have hy1 := cell_keep y1 hSw); (have hy2 := cell_keep y2 hSw); go_simp <;> with_reducible rfl)
            refine tkF 27 (some 57) ?_
            refine tkE 28 (some 58) ?_ ?_ ?_
            rotate_left
            · (intro w hSw; (have ht6 := cell_keep t6 hSw); (have hc0 := cell_keep c0 hSw); (have hc1 := cell_keep c1 hSw); (have hc2 := cell_keep c2 hSw); (have hy0 := cell_keep y0 hSw); (have hy1 := cell_keep y1 hSw); (have hy2 := cell_keep y2 hSw); go_simp <;> with_reducible rfl)
            refine takeD (i := 29) (d := some 59) (v := .bool false) rfl rfl (by kernel_rfl) (by kernel_rfl) (by kernel_rfl) (fun _ _ _ h => h) (Or.inl ⟨by rfl, (by intro w hSw; first | (go_simp; done) | (go_simp; first | rfl | omega | assumption | simp [h3]))⟩) (by assumption) ?_
            simp only [Act.put, List.setIfInBounds_toArray, List.set_cons_zero, List.set_cons_succ]
            refine tkF 30 (some 60) ?_
            refine wpAnyH_done (by kernel_rfl) ?_ _
            go_wp2
            go_roundg g2
            case rel => exact ⟨j + 1, by omega, by go_num, by rw [HE.out], X2.keep hHeld, Xw2.keep hHeld, kb B2 hHeld (Nat.le_refl _)⟩
            case measure => omega
          have HE : Hid (cntT ⟨xf, xa, xb, xt⟩ tk (j + 1) = m + 1) := (by rw [HC.out, if_pos (sameT_iff.2 ⟨h1.symm, h2.symm, h3.symm⟩)] : cntT ⟨xf, xa, xb, xt⟩ tk (j + 1) = m + 1)
          refine wp_region_held_drew (S := (fun w' => Below wr.heap.size wr w')) (by kernel_rfl) ?_ (fun hHeld => ?_)
          · exact (Below.refl _ _).drew
          refine tkF 0 (some 30) ?_
          refine tkE 1 (some 31) ?_ ?_ ?_
          rotate_left
          · (intro w hSw; (have ht6 := cell_keep t6 hSw); (have hc0 := cell_keep c0 hSw); (have hc1 := cell_keep c1 hSw); (have hc2 := cell_keep c2 hSw); (have hy0 := cell_keep y0 hSw); (have hy1 := cell_keep y1 hSw); (have hy2 := cell_keep y2 hSw); go_simp <;> with_reducible rfl)
          refine tkF 2 (some 32) ?_
          refine tkF 3 (some 33) ?_
          refine tkF 4 (some 34) ?_
          refine tkE 5 (some 35) ?_ ?_ ?_
          rotate_left
          · (intro w hSw; (have ht6 := cell_keep t6 hSw); (have hc0 := cell_keep c0 hSw); (have hc1 := cell_keep c1 hSw); (have hc2 := cell_keep c2 hSw); (have hy0 := cell_keep y0 hSw); (have hy1 := cell_keep y1 hSw); (have hy2 := cell_keep y2 hSw); go_simp <;> with_reducible rfl)
          refine tkF 6 (some 36) ?_
          refine tkE 7 (some 37) ?_ ?_ ?_
          rotate_left
          · (intro w hSw; (have ht6 := cell_keep t6 hSw); (have hc0 := cell_keep c0 hSw); (have hc1 := cell_keep c1 hSw); (have hc2 := cell_keep c2 hSw); (have hy0 := cell_keep y0 hSw); (have hy1 := cell_keep y1 hSw); (have hy2 := cell_keep y2 hSw); go_simp <;> with_reducible rfl)
          refine takeD (i := 8) (d := some 38) (v := .bool true) rfl rfl (by kernel_rfl) (by kernel_rfl) (by kernel_rfl) (fun _ _ _ h => h) (Or.inl ⟨by rfl, (by intro w hSw; first | (go_simp; done) | (go_simp; first | rfl | omega | assumption | simp [h1]))⟩) (by assumption) ?_
          simp only [Act.put, List.setIfInBounds_toArray, List.set_cons_zero, List.set_cons_succ]
          refine tkF 9 (some 39) ?_
          refine tkF 10 (some 40) ?_
          refine tkE 11 (some 41) ?_ ?_ ?_
          rotate_left
          · (intro w hSw; (have ht6 := cell_keep t6 hSw); (have hc0 := cell_keep c0 hSw); (have hc1 := cell_keep c1 hSw); (have hc2 := cell_keep c2 hSw); (have hy0 := cell_keep y0 hSw); (have hy1 := cell_keep y1 hSw); (have hy2 := cell_keep y2 hSw); go_simp <;> with_reducible rfl)
          refine tkF 12 (some 42) ?_
          refine tkF 13 (some 43) ?_
          refine tkF 14 (some 44) ?_
          refine tkE 15 (some 45) ?_ ?_ ?_
          rotate_left
          · (intro w hSw; (have ht6 := cell_keep t6 hSw); (have hc0 := cell_keep c0 hSw); (have hc1 := cell_keep c1 hSw); (have hc2 := cell_keep c2 hSw); (have hy0 := cell_keep y0 hSw); (have hy1 := cell_keep y1 hSw); (have hy2 := cell_keep y2 hSw); go_simp <;> with_reducible rfl)
          refine tkF 16 (some 46) ?_
          refine tkE 17 (some 47) ?_ ?_ ?_
          rotate_left
          · (intro w hSw; (have ht6 := cell_keep t6 hSw); (have hc0 := cell_keep c0 hSw); (have hc1 := cell_keep c1 hSw); (have hc2 := cell_keep c2 hSw); (have hy0 := cell_keep y0 hSw); (have hy1 := cell_keep y1 hSw); (have hy2 := cell_keep y2 hSw); go_simp <;> with_reducible rfl)
          refine takeD (i := 18) (d := some 48) (v := .bool true) rfl rfl (by kernel_rfl) (by kernel_rfl) (by kernel_rfl) (fun _ _ _ h => h) (Or.inl ⟨by rfl, (by intro w hSw; first | (go_simp; done) | (go_simp; first | rfl | omega | assumption | simp [h2]))⟩) (by assumption) ?_
          simp only [Act.put, List.setIfInBounds_toArray, List.set_cons_zero, List.set_cons_succ]
          refine tkF 19 (some 49) ?_
          refine tkF 20 (some 50) ?_
          refine tkF 21 (some 51) ?_
          refine tkE 22 (some 52) ?_ ?_ ?_
          rotate_left
          · (intro w hSw; (have ht6 := cell_keep t6 hSw); (have hc0 := cell_keep c0 hSw); (have hc1 := cell_keep c1 hSw); (have hc2 := cell_keep c2 hSw); (have hy0 := cell_keep y0 hSw); (have hy1 := cell_keep y1 hSw); (have hy2 := cell_keep y2 hSw); go_simp <;> with_reducible rfl)
          refine tkF 23 (some 53) ?_
          refine tkF 24 (some 54) ?_
          refine tkF 25 (some 55) ?_
          refine tkE 26 (some 56) ?_ ?_ ?_
          rotate_left
          · (intro w hSw; (have ht6 := cell_keep t6 hSw); (have hc0 := cell_keep c0 hSw); (have hc1 := cell_keep c1 hSw); (have hc2 := cell_keep c2 hSw); (have hy0 := cell_keep y0 hSw); (have hy1 := cell_keep y1 hSw); (have hy2 := cell_keep y2 hSw); go_simp <;> with_reducible rfl)
          refine tkF 27 (some 57) ?_
          refine tkE 28 (some 58) ?_ ?_ ?_
          rotate_left
          · (intro w hSw; (have ht6 := cell_keep t6 hSw); (have hc0 := cell_keep c0 hSw); (have hc1 := cell_keep c1 hSw); (have hc2 := cell_keep c2 hSw); (have hy0 := cell_keep y0 hSw); (have hy1 := cell_keep y1 hSw); (have hy2 := cell_keep y2 hSw); go_simp <;> with_reducible rfl)
          refine takeD (i := 29) (d := some 59) (v := .bool true) rfl rfl (by kernel_rfl) (by kernel_rfl) (by kernel_rfl) (fun _ _ _ h => h) (Or.inl ⟨by rfl, (by intro w hSw; first | (go_simp; done) | (go_simp; first | rfl | omega | assumption | simp [h3]))⟩) (by assumption) ?_
          simp only [Act.put, List.setIfInBounds_toArray, List.set_cons_zero, List.set_cons_succ]
          refine tkF 30 (some 60) ?_
          refine wpAnyH_done (by kernel_rfl) ?_ _
          go_wp2
          go_roundg g2
          case rel => exact ⟨j + 1, by omega, by go_num, by rw [HE.out]; rfl, X2.keep hHeld, Xw2.keep hHeld, kb B2 hHeld (Nat.le_refl _)⟩
          case measure => omega
        | zero =>
          have hjk : ¬ ((j : Int) < (k : Int)) := by omega
          obtain rfl : j = k := by omega
          obtain ⟨n0, hn0⟩ : ∃ n0, cntT ⟨xf, xa, xb, xt⟩ tk j = n0 := ⟨_, rfl⟩
          have HN0 : Hid (cntT ⟨xf, xa, xb, xt⟩ tk j = n0) := hn0
          have hnl : n0 ≤ 400 := by rw [← hn0]; unfold cntT; exact Nat.le_trans (List.length_filter_le _ _) (by simp; omega)
          rw [hn0]
          clear hn0 hjk hjg t6 y0 y1 y2 y3
          go_wp2
          go_loopg [5, 7, 8] gv.length (fun g3 s5 s7 s8 wi => ∃ (i : Nat) (th : Bool), i + g3 = gv.length ∧ s8 = .int .i64 i ∧ s5 = .int .i64 ((n0 : Int) - (cntT ⟨xf, xa, xb, xt⟩ gv i : Nat)) ∧ s7 = .bool th ∧ (th = true ↔ ∃ q, q < i ∧ ∃ h : q < gv.length, sameT ⟨xf, xa, xb, xt⟩ gv[q] = true ∧ cntT ⟨xf, xa, xb, xt⟩ gv q = n0 ∧ gv[q].text = xt) ∧ Bx wi wo.heap.size 98 #[.int .i64 xf, .int .i64 xa, .int .i64 xb, .string xt] ∧ Bx wi w.heap.size 26 #[.string key, .int .i64 width, .slice eo es.length ce, .slice fo fl.length cf, .string fg, .slice go gv.length cg, .slice (some ⟨gt, 0, none⟩) tk.length ck] ∧ Below w.heap.size w wi)
          case atStart => exact ⟨0, false, by omega, rfl, by rw [cntT_zero]; simp, rfl, by simp, X2, Xw2, B2⟩
          case round =>
            clear X2 Xw2 B2 t5
            obtain ⟨i, th, hig, rfl, rfl, rfl, hth, X2, Xw2, B2⟩ := hrel
            have HTH : Hid (th = true ↔ ∃ q, q < i ∧ ∃ h : q < gv.length, sameT ⟨xf, xa, xb, xt⟩ gv[q] = true ∧ cntT ⟨xf, xa, xb, xt⟩ gv q = n0 ∧ gv[q].text = xt) := hth
            clear hth
            have y0 : wr.cell? ⟨wo.heap.size, 0, none⟩ = some (.int .i64 xf) := X2.cell 0
            have y1 : wr.cell? ⟨wo.heap.size, 1, none⟩ = some (.int .i64 xa) := X2.cell 1
            have y2 : wr.cell? ⟨wo.heap.size, 2, none⟩ = some (.int .i64 xb) := X2.cell 2
            have y3 : wr.cell? ⟨wo.heap.size, 3, none⟩ = some (.string xt) := X2.cell 3
            have t5 : wr.cell? ⟨w.heap.size, 5, none⟩ = some (.slice go gv.length cg) := Xw2.cell 5
            have t6 : wr.cell? ⟨w.heap.size, 6, none⟩ = some (.slice (some ⟨gt, 0, none⟩) tk.length ck) := Xw2.cell 6
            cases gk with
            | zero =>
              have hil : ¬ ((i : Int) < (gv.length : Int)) := by omega
              cases th with
              | true =>
                have HT2 : Hid (There gv ⟨xf, xa, xb, xt⟩ (cntT ⟨xf, xa, xb, xt⟩ tk j)) := (by obtain ⟨q, _, h, h1, h2, h3⟩ := HTH.out.1 rfl; exact ⟨q, h, h1, by rw [HN0.out]; exact h2, h3⟩ : There gv ⟨xf, xa, xb, xt⟩ (cntT ⟨xf, xa, xb, xt⟩ tk j))
                go_wp2
                go_roundg g
                case rel =>
                  refine ⟨j + 1, by omega, by go_num, ?_, Xw2, B2⟩
                  intro q hq hq2
                  rcases Nat.lt_or_ge q j with h1 | h1
                  · exact HL.out q hq h1
                  · obtain rfl : q = j := by omega
                    rw [HX.out]
                    exact HT2.out
                case measure => omega
              | false =>
                have HF : Hid (rightOk gv tk = false) := rightOk_no hlt (by rw [HX.out]; rintro ⟨q, h, h1, h2, h3⟩; exact Bool.noConfusion (HTH.out.2 ⟨q, by omega, h, h1, by rw [← HN0.out]; exact h2, h3⟩))
                go_wp2
                go_ret
                exact ⟨ret_b (by rw [HF.out]), B2⟩
            | succ g3 =>
              have hil : (i : Int) < (gv.length : Int) := by omega
              have hig2 : i < gv.length := by omega
              have lx2 := X2.lt
              have lw2 := Xw2.lt
              rcases HR.out.given.ex with h | ⟨gg, rfl, hgg, hggc⟩
              · omega
              obtain ⟨c0, c1, c2, c3⟩ := Rs.rcs (n := 0) hgg hggc B2 i hig2
              have hys : gv[i].text.size ≤ 1048576 := HM.out.given i hig2
              have HC : Hid (cntT ⟨xf, xa, xb, xt⟩ gv (i + 1) = cntT ⟨xf, xa, xb, xt⟩ gv i + (if sameT ⟨xf, xa, xb, xt⟩ ⟨gv[i].frm, gv[i].a, gv[i].b, gv[i].text⟩ then 1 else 0)) := cntT_succ _ gv i hig2
              have HST : Hid (∀ th' : Bool, (th' = true ↔ th = true ∨ (sameT ⟨xf, xa, xb, xt⟩ ⟨gv[i].frm, gv[i].a, gv[i].b, gv[i].text⟩ = true ∧ cntT ⟨xf, xa, xb, xt⟩ gv i = n0 ∧ gv[i].text = xt)) → (th' = true ↔ ∃ q, q < i + 1 ∧ ∃ h : q < gv.length, sameT ⟨xf, xa, xb, xt⟩ gv[q] = true ∧ cntT ⟨xf, xa, xb, xt⟩ gv q = n0 ∧ gv[q].text = xt)) := fun th' h => th_step (x := ⟨xf, xa, xb, xt⟩) hig2 HTH.out h
              clear hggc HTH
              obtain ⟨m, hm⟩ : ∃ m, cntT ⟨xf, xa, xb, xt⟩ gv i = m := ⟨_, rfl⟩
              have hml : m ≤ 400 := by rw [← hm]; unfold cntT; exact Nat.le_trans (List.length_filter_le _ _) (by simp; omega)
              rw [hm] at HC HST ⊢
              clear hm
              generalize gv[i].frm = vf at *
              generalize gv[i].a = va at *
              generalize gv[i].b = vb at *
              generalize gv[i].text = vt at *
              by_cases hs : vf = xf ∧ va = xa ∧ vb = xb
              case neg =>
                have hsf : sameT ⟨xf, xa, xb, xt⟩ ⟨vf, va, vb, vt⟩ = false := Bool.eq_false_iff.2 (fun q => hs (by have := sameT_iff.1 q; exact ⟨this.1.symm, this.2.1.symm, this.2.2.symm⟩))
                have HE : Hid (cntT ⟨xf, xa, xb, xt⟩ gv (i + 1) = m) := (by rw [HC.out, hsf]; rfl : cntT ⟨xf, xa, xb, xt⟩ gv (i + 1) = m)
                have HS2 := HST.out th (by rw [hsf]; simp)
                have HS3 : Hid _ := HS2
                clear HC HST HS2
                by_cases h1 : vf = xf
                case neg =>
                  clear hs hsf
                  go_wp2
                  go_roundg g3
                  case rel => exact ⟨i + 1, _, by omega, by go_num, by rw [HE.out], rfl, HS3.out, X2.alloc _, Xw2.alloc _, B2.alloc B2.size _⟩
                  case measure => omega
                by_cases h2 : va = xa
                case neg =>
                  clear hs hsf
                  go_wp2
                  go_roundg g3
                  case rel => exact ⟨i + 1, _, by omega, by go_num, by rw [HE.out], rfl, HS3.out, X2.alloc _, Xw2.alloc _, B2.alloc B2.size _⟩
                  case measure => omega
                have h3 : ¬ vb = xb := fun q => hs ⟨h1, h2, q⟩
                clear hs hsf
                go_wp2
                go_roundg g3
                case rel => exact ⟨i + 1, _, by omega, by go_num, by rw [HE.out], rfl, HS3.out, X2.alloc _, Xw2.alloc _, B2.alloc B2.size _⟩
                case measure => omega
              obtain ⟨rfl, rfl, rfl⟩ := hs
              have hst : sameT ⟨vf, va, vb, xt⟩ ⟨vf, va, vb, vt⟩ = true := sameT_iff.2 ⟨rfl, rfl, rfl⟩
              have HE : Hid (cntT ⟨vf, va, vb, xt⟩ gv (i + 1) = m + 1) := (by rw [HC.out, hst]; rfl : cntT ⟨vf, va, vb, xt⟩ gv (i + 1) = m + 1)
              rw [hst] at HST
              clear HC hst
              cases th with
              | true =>
                go_wp2
                go_roundg g3
                case rel => exact ⟨i + 1, _, by omega, by go_num, by rw [HE.out]; go_num, rfl, HST.out _ (by simp), X2.alloc _, Xw2.alloc _, B2.alloc B2.size _⟩
                case measure => omega
              | false =>
                by_cases hn : m = n0
                · subst hn
                  by_cases ht : vt = xt
                  · subst ht
                    go_wp2
                    go_roundg g3
                    case rel => exact ⟨i + 1, _, by omega, by go_num, by rw [HE.out]; go_num, rfl, HST.out _ (by simp), X2.alloc _, Xw2.alloc _, B2.alloc B2.size _⟩
                    case measure => omega
                  · have htl : ¬ vt.toList = xt.toList := fun q => ht (toList_inj q)
                    go_wp2
                    go_roundg g3
                    case rel => exact ⟨i + 1, _, by omega, by go_num, by rw [HE.out]; go_num, rfl, HST.out _ (by simp [ht, htl]), X2.alloc _, Xw2.alloc _, B2.alloc B2.size _⟩
                    case measure => omega
                · have hni : ¬ ((n0 : Int) - (m : Int)) = 0 := by omega
                  go_wp2
                  go_roundg g3
                  case rel => exact ⟨i + 1, _, by omega, by go_num, by rw [HE.out]; go_num, rfl, HST.out _ (by simp [hn]), X2.alloc _, Xw2.alloc _, B2.alloc B2.size _⟩
                  case measure => omega
end Go.Proofs.Ytmliinglojmojaa.mk

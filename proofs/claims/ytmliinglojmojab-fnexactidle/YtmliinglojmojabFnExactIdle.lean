/-
  THE LAW laws.FnExactIdle: the walk over the contracts, and the row.
-/
import Derived.Test.YtmliinglojmojabRows
import Derived.WalkKit
import Derived.ProofKit
import Derived.OpenShut
import Derived.ShutString
import Derived.ChangeOld
import Derived.Below
import Derived.Test.YtmliinglojmojabIdB
import Derived.Test.YtmliinglojmojabOpenWo
import Derived.Test.YtmliinglojmojabLawW
import Derived.Carry
namespace Go.Proofs.Ytmliinglojmojab.fnExactIdle
open Go.ChangeShapes Go.WideShapes Go.ChangeAt Go.RowKit
open Go.ChangeMaps (open_string shut_string)
set_option linter.unusedVariables false

theorem own : ownKnob Try.prog.godebug = none := by kernel_rfl

theorem laidOut : laidOutB Try.prog = true := by kernel_rfl
theorem cells7 {u : World} {B : Nat} {t : TypeId} {c0 c1 c2 c3 c4 c5 c6 : Value} (h : mk.Bx u B t #[c0, c1, c2, c3, c4, c5, c6]) : u.cell? ⟨B, 0, none⟩ = some c0 ∧ u.cell? ⟨B, 1, none⟩ = some c1 ∧ u.cell? ⟨B, 2, none⟩ = some c2 ∧ u.cell? ⟨B, 3, none⟩ = some c3 ∧ u.cell? ⟨B, 4, none⟩ = some c4 ∧ u.cell? ⟨B, 5, none⟩ = some c5 ∧ u.cell? ⟨B, 6, none⟩ = some c6 := ⟨h.cell 0, h.cell 1, h.cell 2, h.cell 3, h.cell 4, h.cell 5, h.cell 6⟩
theorem endsOk_same {es ys : List mk.Ev} (h : mk.Same es ys) : mk.endsOk ys = mk.endsOk es := by
  by_cases h2 : es.length = 2
  · obtain ⟨x, y, rfl⟩ := mk.list2 h2
    obtain ⟨x', y', rfl⟩ := mk.list2 (h.len.trans h2)
    have a := h.at' 0 (by simp) (by simp)
    have b := h.at' 1 (by simp) (by simp)
    simp only [List.getElem_cons_zero, List.getElem_cons_succ] at a b
    rw [mk.endsOk_two, mk.endsOk_two, a, b]
  · rw [mk.endsOk_len h2, mk.endsOk_len (by rw [h.len]; exact h2)]
theorem woOk_same {key : ByteArray} {width : Int} {es ys : List mk.Ev} {fl : List mk.Pc} {gv tk : List mk.Rc} (h : mk.Same es ys) : mk.woOk key width ys fl gv tk = mk.woOk key width es fl gv tk := by
  unfold mk.woOk
  rw [endsOk_same h]
theorem idleOk_same {es ys : List mk.Ev} (h : mk.Same es ys) : mk.idleOk ys = mk.idleOk es := by
  by_cases h2 : es.length = 2
  · obtain ⟨x, y, rfl⟩ := mk.list2 h2
    obtain ⟨x', y', rfl⟩ := mk.list2 (h.len.trans h2)
    have a := h.at' 0 (by simp) (by simp)
    have b := h.at' 1 (by simp) (by simp)
    simp only [List.getElem_cons_zero, List.getElem_cons_succ] at a b
    rw [mk.idleOk_two, mk.idleOk_two, a, b]
  · have n1 : ∀ zs : List mk.Ev, ¬ zs.length = 2 → mk.idleOk zs = false := fun zs hz => by
      unfold mk.idleOk
      split
      · simp at hz
      · rfl
    rw [n1 es h2, n1 ys (by rw [h.len]; exact h2)]
/-! ### THE WALK of the law -/
set_option maxHeartbeats 4000000 in
theorem walk (key : ByteArray) (width : Int) (eo : Option Addr) (ce : Nat) (es : List mk.Ev) (fo : Option Addr) (cf : Nat) (fl : List mk.Pc) (fg : ByteArray) (go : Option Addr) (cg : Nat) (gv : List mk.Rc) (ko : Option Addr) (ck : Nat) (tk : List mk.Rc) (w : World) (ha : mk.Aw w eo es fo fl go gv ko tk) (hm : mk.Sw maxLen key es fl fg gv tk) :
    Calls Try.prog 3 #[.agg #[.string key, .int .i64 width, .slice eo es.length ce, .slice fo fl.length cf, .string fg, .slice go gv.length cg, .slice ko tk.length ck]] w fun e w' => e = .returned (.bool true) ∧ Below w.heap.size w w' := by
  have b0 : Hid (Below w.heap.size w (w.alloc (.cells #[.string key, .int .i64 width, .slice eo es.length ce, .slice fo fl.length cf, .string fg, .slice go gv.length cg, .slice ko tk.length ck] 26))) := (Below.refl _ _).alloc (Nat.le_refl _) _
  have X0 : Hid (mk.Bx (w.alloc (.cells #[.string key, .int .i64 width, .slice eo es.length ce, .slice fo fl.length cf, .string fg, .slice go gv.length cg, .slice ko tk.length ck] 26)) w.heap.size 26 #[.string key, .int .i64 width, .slice eo es.length ce, .slice fo fl.length cf, .string fg, .slice go gv.length cg, .slice ko tk.length ck]) := mk.Bx.new w _ _
  have HA : Hid (mk.Aw w eo es fo fl go gv ko tk) := ha
  have HM : Hid (mk.Sw maxLen key es fl fg gv tk) := hm
  clear ha hm
  go_enter Try.func3, Try.ntmps3
  go_wp2_with (go_at_call 4; refine (mk.szWorld_any key width eo ce es fo cf fl fg go cg gv ko ck tk _ _ (by omega) HM.out (HA.out.keep b0.out)).mono ?_; rintro e' w1 ⟨⟨z, rfl, hz1, hz2, hz3⟩, hb1⟩; (have HZ : Hid (0 ≤ z → mk.Sw 1048576 key es fl fg gv tk) := hz3); clear hz3; (have X1 := X0.out.keep hb1); (obtain ⟨d0, d1, d2, d3, d4, d5, d6⟩ := cells7 X1))
  · go_ret
    exact ⟨rfl, mk.kb b0.out hb1 (Nat.le_refl _)⟩
  have HS : Hid (mk.Sw 1048576 key es fl fg gv tk) := HZ.out (by omega)
  have B1 := mk.kb b0.out hb1 (Nat.le_refl _)
  clear HZ b0 X0 hb1 HM
  obtain ⟨V, hV⟩ : ∃ V, V = (mk.woOk key width es fl gv tk && mk.idleOk es) := ⟨_, rfl⟩
  have S1 : Hid (∀ (u : World) (ys : List mk.Ev) (a b c d : Nat), mk.Same es ys → (∀ i (h : i < ys.length), ys[i].ao ≠ none ∧ ys[i].ho ≠ none ∧ ys[i].so ≠ none) → mk.Rwo u (some ⟨a, 0, none⟩) ys (some ⟨b, 0, none⟩) fl (some ⟨c, 0, none⟩) gv (some ⟨d, 0, none⟩) tk → Calls Try.prog 5 #[.agg #[.string key, .int .i64 width, .slice (some ⟨a, 0, none⟩) ys.length ys.length, .slice (some ⟨b, 0, none⟩) fl.length fl.length, .string fg, .slice (some ⟨c, 0, none⟩) gv.length gv.length, .slice (some ⟨d, 0, none⟩) tk.length tk.length]] u fun e w' => e = .returned (.bool V) ∧ Below u.heap.size u w') := fun u ys a b c d hs hn hr => by rw [hV]; exact (by rw [← woOk_same hs, ← idleOk_same hs]; exact mk.specIdle_any key width _ _ ys _ _ fl fg _ _ gv _ _ tk u (HS.out.same hs) hr)
  have S2 : Hid (∀ (u : World) (ys : List mk.Ev) (a b c d : Nat), mk.Same es ys → (∀ i (h : i < ys.length), ys[i].ao ≠ none ∧ ys[i].ho ≠ none ∧ ys[i].so ≠ none) → mk.Rwo u (some ⟨a, 0, none⟩) ys (some ⟨b, 0, none⟩) fl (some ⟨c, 0, none⟩) gv (some ⟨d, 0, none⟩) tk → Calls Try.prog 7 #[.agg #[.string key, .int .i64 width, .slice (some ⟨a, 0, none⟩) ys.length ys.length, .slice (some ⟨b, 0, none⟩) fl.length fl.length, .string fg, .slice (some ⟨c, 0, none⟩) gv.length gv.length, .slice (some ⟨d, 0, none⟩) tk.length tk.length]] u fun e w' => e = .returned (.bool V) ∧ Below u.heap.size u w') := fun u ys a b c d hs hn hr => by rw [hV]; exact (by rw [← woOk_same hs, ← idleOk_same hs]; exact mk.implIdle_any key width _ _ ys _ _ fl fg _ _ gv _ _ tk u (HS.out.same hs) hr)
  clear hV
  go_wp2_with (first
    | (go_at_call 6; refine (mk.toWorld_any key width eo ce es fo cf fl fg go cg gv ko ck tk _ HS.out (HA.out.keep B1)).mono ?_; rintro e' w2 ⟨⟨g2, h2, i2, j2, ys, hs2, hn2, rfl, O2⟩, hb2⟩; (have HS2 : Hid (mk.Same es ys) := hs2); (have HN2 : Hid (∀ i (h : i < ys.length), ys[i].ao ≠ none ∧ ys[i].ho ≠ none ∧ ys[i].so ≠ none) := hn2); clear hs2 hn2)
    | (go_at_call 5; refine (S1.out _ _ _ _ _ _ HS2.out HN2.out O2.rwo).mono ?_; rintro e' w3 ⟨rfl, hb3⟩; (have X3 := (X1.keep hb2).keep hb3); clear d0 d1 d2 d3 d4 d5 d6; (obtain ⟨d0, d1, d2, d3, d4, d5, d6⟩ := cells7 X3))
    | fail)
  have B3 := mk.kb (mk.kb B1 hb2 (Nat.le_refl _)) hb3 (Nat.le_refl _)
  clear O2 hb2 hb3 B1 X1 HS2 HN2
  go_wp2_with (first
    | (go_at_call 6; refine (mk.toWorld_any key width eo ce es fo cf fl fg go cg gv ko ck tk _ HS.out (HA.out.keep B3)).mono ?_; rintro e' w4 ⟨⟨g4, h4, i4, j4, zs, hs4, hn4, rfl, O4⟩, hb4⟩; (have HS4 : Hid (mk.Same es zs) := hs4); (have HN4 : Hid (∀ i (h : i < zs.length), zs[i].ao ≠ none ∧ zs[i].ho ≠ none ∧ zs[i].so ≠ none) := hn4); clear hs4 hn4; (have X4 := mk.Bx.new w4 33 #[.string key, .int .i64 width, .slice (some ⟨g4, 0, none⟩) zs.length zs.length, .slice (some ⟨h4, 0, none⟩) fl.length fl.length, .string fg, .slice (some ⟨i4, 0, none⟩) gv.length gv.length, .slice (some ⟨j4, 0, none⟩) tk.length tk.length]))
    | (go_at_call 7; refine (S2.out _ _ _ _ _ _ HS4.out HN4.out (O4.alloc _).rwo).mono ?_; rintro e' w5 ⟨rfl, hb5⟩; (have Y5 := ((X3.keep hb4).alloc (.cells #[.string key, .int .i64 width, .slice (some ⟨g4, 0, none⟩) zs.length zs.length, .slice (some ⟨h4, 0, none⟩) fl.length fl.length, .string fg, .slice (some ⟨i4, 0, none⟩) gv.length gv.length, .slice (some ⟨j4, 0, none⟩) tk.length tk.length] 33)).keep hb5); (have X5 := X4.keep hb5); clear d0 d1 d2 d3 d4 d5 d6; (obtain ⟨d0, d1, d2, d3, d4, d5, d6⟩ := cells7 Y5); (obtain ⟨x0, x1, x2, x3, x4, x5, x6⟩ := cells7 X5))
    | fail)
  have R5 : Hid (mk.Rwo w5 (some ⟨g4, 0, none⟩) zs (some ⟨h4, 0, none⟩) fl (some ⟨i4, 0, none⟩) gv (some ⟨j4, 0, none⟩) tk) := ((O4.alloc (.cells #[.string key, .int .i64 width, .slice (some ⟨g4, 0, none⟩) zs.length zs.length, .slice (some ⟨h4, 0, none⟩) fl.length fl.length, .string fg, .slice (some ⟨i4, 0, none⟩) gv.length gv.length, .slice (some ⟨j4, 0, none⟩) tk.length tk.length] 33)).keep hb5).rwo
  have B4 := mk.kb B3 hb4 (Nat.le_refl _)
  have B5 : Hid (Below w.heap.size w w5) := mk.kb (B4.alloc B4.size _) hb5 (Nat.le_refl _)
  have hx5 : w4.heap.size < w5.heap.size := X5.lt
  have hs5 : w.heap.size < w5.heap.size := Y5.lt
  have HZ5 : Hid (mk.Sw 2000000 key zs fl fg gv tk) := (HS.out.mono (by omega)).same HS4.out
  clear O4 hb4 hb5 B3 B4 X3 X4 S1 S2 X5 Y5 HN4
  go_wp2
  go_region_held3 (fun w' => w'.cell? ⟨w.heap.size, 0, none⟩ = some (.string key) ∧ w'.cell? ⟨w.heap.size, 1, none⟩ = some (.int .i64 width) ∧ w'.cell? ⟨w.heap.size, 2, none⟩ = some (.slice eo es.length ce) ∧ w'.cell? ⟨w.heap.size, 3, none⟩ = some (.slice fo fl.length cf) ∧ w'.cell? ⟨w.heap.size, 4, none⟩ = some (.string fg) ∧ w'.cell? ⟨w.heap.size, 5, none⟩ = some (.slice go gv.length cg) ∧ w'.cell? ⟨w.heap.size, 6, none⟩ = some (.slice ko tk.length ck) ∧ w'.cell? ⟨w4.heap.size, 0, none⟩ = some (.string key) ∧ w'.cell? ⟨w4.heap.size, 1, none⟩ = some (.int .i64 width) ∧ w'.cell? ⟨w4.heap.size, 2, none⟩ = some (.slice (some ⟨g4, 0, none⟩) zs.length zs.length) ∧ w'.cell? ⟨w4.heap.size, 3, none⟩ = some (.slice (some ⟨h4, 0, none⟩) fl.length fl.length) ∧ w'.cell? ⟨w4.heap.size, 4, none⟩ = some (.string fg) ∧ w'.cell? ⟨w4.heap.size, 5, none⟩ = some (.slice (some ⟨i4, 0, none⟩) gv.length gv.length) ∧ w'.cell? ⟨w4.heap.size, 6, none⟩ = some (.slice (some ⟨j4, 0, none⟩) tk.length tk.length) ∧ Below w5.heap.size w5 w')
    (first | assumption | exact ⟨d0, d1, d2, d3, d4, d5, d6, x0, x1, x2, x3, x4, x5, x6, (Below.refl _ _).drew⟩ | (go_split_ands; refine ⟨mk.kp (by assumption) (by assumption) hb6 hs5, mk.kp (by assumption) (by assumption) hb6 hs5, mk.kp (by assumption) (by assumption) hb6 hs5, mk.kp (by assumption) (by assumption) hb6 hs5, mk.kp (by assumption) (by assumption) hb6 hs5, mk.kp (by assumption) (by assumption) hb6 hs5, mk.kp (by assumption) (by assumption) hb6 hs5, mk.kp (by assumption) (by assumption) hb6 hx5, mk.kp (by assumption) (by assumption) hb6 hx5, mk.kp (by assumption) (by assumption) hb6 hx5, mk.kp (by assumption) (by assumption) hb6 hx5, mk.kp (by assumption) (by assumption) hb6 hx5, mk.kp (by assumption) (by assumption) hb6 hx5, mk.kp (by assumption) (by assumption) hb6 hx5, mk.kb (by assumption) hb6 (Nat.le_refl _)⟩))
    (first
      | (go_at_call 6; refine (mk.toWorld_any key width eo ce es fo cf fl fg go cg gv ko ck tk _ HS.out (HA.out.keep (mk.kb B5.out (by go_split_ands; assumption) (Nat.le_refl _)))).mono ?_; rintro e' w6 ⟨⟨g6, h6, i6, j6, us, hs6, -, rfl, O6⟩, hb6⟩; (have HS6 : Hid (mk.Same es us) := hs6); clear hs6)
      | (go_at_call 8; refine (mk.eqWorld_same key width _ _ zs _ _ fl fg _ _ gv _ _ tk _ _ us _ _ _ _ _ _ _ HZ5.out (HS4.out.symm.trans HS6.out) (R5.out.keep (by go_split_ands; assumption)) O6.rwo).mono ?_; rintro e' w6 ⟨rfl, hb6⟩))
  have hbl : Below w5.heap.size w5 w6 := by go_split_ands; assumption
  go_wp2
  go_ret
  exact ⟨rfl, mk.kb B5.out hbl (Nat.le_refl _)⟩

set_option maxRecDepth 100000 in
theorem lifted (os : Os) (started : os.Started) (H : Type) (enc : TypeId × Value → H) :
    ReturnsInHanded {} Try.checked os 3 .any (Rows.fnExactIdleSpec.pre6 enc Try.prog Try.f3 Rows.fnExactIdleRow.domain false) (Rows.fnExactIdleSpec.post enc Try.prog Try.f3 false true false false) := by
  refine returnsInHanded_of_change (C := Try.checked) own started (by kernel_rfl) Try.func3
    (ChangeSpec.witness6 (enc := enc) (C := Try.checked) false ⟨#[], #[.agg #[.string ByteArray.empty, .int .i64 0, .slice none 0 0, .slice none 0 0, .string ByteArray.empty, .slice none 0 0, .slice none 0 0]], []⟩ 8 (by kernel_rfl) (by kernel_rfl) (by kernel_rfl) (by kernel_rfl)) ?_
  intro W base args ds gs before hval0 hW hcnd _
  have hval : ∀ (j : Nat) t v, Try.f3.params[j]? = some t → args[j]? = some v → Value.okWide Try.prog W .any base t v := hval0
  have hW' := hW
  obtain ⟨p, q, hA0, hV, rfl, hfz, hnd⟩ := hW
  have hA : DataW.TrodAll enc Try.prog W 0 (fun _ => true) true Try.f3.params.toList args.toList ds p := hA0
  rw [Try.params3] at hA hval
  obtain ⟨v0, vs0, d0, ds0, p0, q0, hargs, rfl, rfl, h0, r0⟩ := trodAll_cons hA
  obtain ⟨rfl, rfl, rfl⟩ := trodAll_nil r0
  obtain rfl : args = #[v0] := by cases args; simp_all
  obtain ⟨rfl, rfl⟩ := trodVars_none hV
  have k0 := h0
  have lt0 : ∀ x ∈ p0, x.block < W.heap.size := by obtain ⟨m, hm⟩ := k0; exact DataW.trod_lt m _ _ _ hm
  obtain ⟨key, width, eo, ce, es, fo, cf, fl, fg, go, cg, gv, ko, ck, tk, rfl, haw, hsw⟩ := openedW.world (hval 0 26 v0 rfl rfl) h0
  clear hA0 hval0
  simp only [List.append_nil] at hW'
  refine (walk key width eo ce es fo cf fl fg go cg gv ko ck tk W haw hsw).mono fun e W' ⟨he, bel⟩ => ?_
  subst he
  exact ⟨_, rfl, _, _, _, [], _, [], hW', trodAll_mk1 (shut_bool Try.underlying4 _), (trodAll_cons_mk (Below.trod laidOut (by kernel_rfl) (of_decide_eq_true (by kernel_rfl)) k0 bel lt0) trodAll_mk0), rfl, bel.frame _, fun h => by cases h⟩

theorem over : Rows.fnExactIdleRow.holds Try.pinned (OpenSpec.ofChange Rows.fnExactIdleSpec) :=
  OpenClaim.holds_of_wide 3 Try.f3 rfl rfl rfl rfl rfl rfl rfl ⟨rfl, rfl, rfl, rfl, rfl⟩ rfl rfl rfl rfl rfl (by kernel_rfl) Try.func3 (by kernel_rfl)
    (of_decide_eq_true (by kernel_rfl)) (by unfold Func.isWrapper; first | (rw [if_pos (by decide +kernel)]; kernel_rfl) | (rw [if_neg (by decide +kernel)]; exact ⟨rfl, rfl⟩))
    (fun os started H enc _ => lifted os started H enc)

theorem proved : Rows.FnExactIdleSaid :=
  over
#print axioms proved
end Go.Proofs.Ytmliinglojmojab.fnExactIdle

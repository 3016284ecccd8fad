/-
  VALID WORLDS: impl.ValidWorld.
-/
import Derived.Test.YtmliinglojmojabValW
namespace Go.Proofs.Ytmliinglojmojab.mk
open Go.RowKit
set_option linter.unusedVariables false

theorem endsOk_two {x y : Ev} : endsOk [x, y] = (enOkE x.e && enOkE y.e && decide (x.e.num = 1) && decide (y.e.num = 2)) := rfl
/-- the cells of two ends -/
theorem Rs.two {w : World} {ao : Option Addr} {x y : Ev} (h : Rs w ao 2 (mk.evs [x, y])) : ∃ g, ao = some ⟨g, 0, none⟩ ∧ g < w.heap.size ∧ (w.cell? ⟨g, 0, none⟩ = some (.int .i64 x.e.num) ∧ w.cell? ⟨g, 1, none⟩ = some (.bool x.e.up) ∧ w.cell? ⟨g, 2, none⟩ = some (.int .i64 x.e.life) ∧ w.cell? ⟨g, 3, none⟩ = some (.int .i64 x.e.peer) ∧ w.cell? ⟨g, 4, none⟩ = some (.int .i64 x.e.since) ∧ w.cell? ⟨g, 5, none⟩ = some (.bool x.e.owes) ∧ w.cell? ⟨g, 6, none⟩ = some (.int .i64 x.e.b) ∧ w.cell? ⟨g, 7, none⟩ = some (.slice x.ao x.e.xs.length x.ci) ∧ w.cell? ⟨g, 8, none⟩ = some (.int .i64 x.e.nx) ∧ w.cell? ⟨g, 9, none⟩ = some (.slice x.ho x.e.hs.length x.ch) ∧ w.cell? ⟨g, 10, none⟩ = some (.string x.e.o) ∧ w.cell? ⟨g, 11, none⟩ = some (.slice x.so x.e.rs.length x.cs)) ∧ (w.cell? ⟨g, 12, none⟩ = some (.int .i64 y.e.num) ∧ w.cell? ⟨g, 13, none⟩ = some (.bool y.e.up) ∧ w.cell? ⟨g, 14, none⟩ = some (.int .i64 y.e.life) ∧ w.cell? ⟨g, 15, none⟩ = some (.int .i64 y.e.peer) ∧ w.cell? ⟨g, 16, none⟩ = some (.int .i64 y.e.since) ∧ w.cell? ⟨g, 17, none⟩ = some (.bool y.e.owes) ∧ w.cell? ⟨g, 18, none⟩ = some (.int .i64 y.e.b) ∧ w.cell? ⟨g, 19, none⟩ = some (.slice y.ao y.e.xs.length y.ci) ∧ w.cell? ⟨g, 20, none⟩ = some (.int .i64 y.e.nx) ∧ w.cell? ⟨g, 21, none⟩ = some (.slice y.ho y.e.hs.length y.ch) ∧ w.cell? ⟨g, 22, none⟩ = some (.string y.e.o) ∧ w.cell? ⟨g, 23, none⟩ = some (.slice y.so y.e.rs.length y.cs)) := by
  rcases h.ex with h | ⟨g, rfl, hg, hgc⟩
  · omega
  refine ⟨g, rfl, hg, ⟨?_, ?_, ?_, ?_, ?_, ?_, ?_, ?_, ?_, ?_, ?_, ?_⟩, ⟨?_, ?_, ?_, ?_, ?_, ?_, ?_, ?_, ?_, ?_, ?_, ?_⟩⟩
  all_goals (rw [hgc _ (by rw [evs_length]; simp)]; rfl)
set_option maxHeartbeats 2000000 in
theorem hasValidEnds_any (key : ByteArray) (width : Int) (eo : Option Addr) (ce : Nat) (es : List Ev) (fo : Option Addr) (cf : Nat) (fl : List Pc) (fg : ByteArray) (go : Option Addr) (cg : Nat) (gv : List Rc) (ko : Option Addr) (ck : Nat) (tk : List Rc) (w : World) (hm : Sw 1048576 key es fl fg gv tk) (hr : Rwo w eo es fo fl go gv ko tk) :
    Calls Try.prog 31 #[.agg #[.string key, .int .i64 width, .slice eo es.length ce, .slice fo fl.length cf, .string fg, .slice go gv.length cg, .slice ko tk.length ck]] w fun e w' => e = .returned (.bool (endsOk es)) ∧ Below w.heap.size w w' := by
  have B0 : Hid (Below w.heap.size w (w.alloc (.cells #[.string key, .int .i64 width, .slice eo es.length ce, .slice fo fl.length cf, .string fg, .slice go gv.length cg, .slice ko tk.length ck] 33))) := (Below.refl _ _).alloc (Nat.le_refl _) _
  by_cases hl : es.length = 2
  · obtain ⟨x, y, rfl⟩ := list2 hl
    have R0 := hr.ends.keep B0.out
    obtain ⟨g, rfl, hg, ⟨c0, c1, c2, c3, c4, c5, c6, c7, c8, c9, c10, c11⟩, ⟨d0, d1, d2, d3, d4, d5, d6, d7, d8, d9, d10, d11⟩⟩ := Rs.two R0.row
    have E1 := R0.each 0 (by simp)
    have E2 := R0.each 1 (by simp)
    have hS_e := hm.ends 0 (by simp)
    have hS_f := hm.ends 1 (by simp)
    simp only [List.getElem_cons_zero, List.getElem_cons_succ] at E1 E2 hS_e hS_f
    obtain ⟨e, p0, p1, p2, p3, p4, p5⟩ := x
    obtain ⟨f, q0, q1, q2, q3, q4, q5⟩ := y
    dsimp only at E1 E2 hS_e hS_f c0 d0 c1 d1 c2 d2 c3 d3 c4 d4 c5 d5 c6 d6 c7 d7 c8 d8 c9 d9 c10 d10 c11 d11
    obtain ⟨V1, hV1⟩ : ∃ V, V = enOkE e := ⟨_, rfl⟩
    obtain ⟨V2, hV2⟩ : ∃ V, V = enOkE f := ⟨_, rfl⟩
    have KE : Hid (∀ u : World, Re u e p0 p2 p4 → Calls Try.prog 45 #[.agg #[.int .i64 e.num, .bool e.up, .int .i64 e.life, .int .i64 e.peer, .int .i64 e.since, .bool e.owes, .int .i64 e.b, .slice p0 e.xs.length p1, .int .i64 e.nx, .slice p2 e.hs.length p3, .string e.o, .slice p4 e.rs.length p5]] u fun x u' => x = .returned (.bool (enOkE e)) ∧ Below u.heap.size u u') := fun u h => implValidEnd_any e.num e.up e.life e.peer e.since e.owes e.b e.xs e.nx e.hs e.o e.rs p0 p2 p4 p1 p3 p5 u hS_e.n hS_e.t hS_e.tk.n hS_e.tk.t hS_e.tk.o hS_e.tk.k hS_e.tk.r h.send h.take
    have KF : Hid (∀ u : World, Re u f q0 q2 q4 → Calls Try.prog 45 #[.agg #[.int .i64 f.num, .bool f.up, .int .i64 f.life, .int .i64 f.peer, .int .i64 f.since, .bool f.owes, .int .i64 f.b, .slice q0 f.xs.length q1, .int .i64 f.nx, .slice q2 f.hs.length q3, .string f.o, .slice q4 f.rs.length q5]] u fun x u' => x = .returned (.bool (enOkE f)) ∧ Below u.heap.size u u') := fun u h => implValidEnd_any f.num f.up f.life f.peer f.since f.owes f.b f.xs f.nx f.hs f.o f.rs q0 q2 q4 q1 q3 q5 u hS_f.n hS_f.t hS_f.tk.n hS_f.tk.t hS_f.tk.o hS_f.tk.k hS_f.tk.r h.send h.take
    rw [← hV1] at KE
    rw [← hV2] at KF
    have HO : Hid (endsOk [⟨e, p0, p1, p2, p3, p4, p5⟩, ⟨f, q0, q1, q2, q3, q4, q5⟩] = (V1 && V2 && decide (e.num = 1) && decide (f.num = 2))) := (by rw [hV1, hV2]; rfl : endsOk [⟨e, p0, p1, p2, p3, p4, p5⟩, ⟨f, q0, q1, q2, q3, q4, q5⟩] = (V1 && V2 && decide (e.num = 1) && decide (f.num = 2)))
    have H1 : Hid (Re (w.alloc (.cells #[.string key, .int .i64 width, .slice (some ⟨g, 0, none⟩) 2 ce, .slice fo fl.length cf, .string fg, .slice go gv.length cg, .slice ko tk.length ck] 33)) e p0 p2 p4) := E1
    have H2 : Hid (Re (w.alloc (.cells #[.string key, .int .i64 width, .slice (some ⟨g, 0, none⟩) 2 ce, .slice fo fl.length cf, .string fg, .slice go gv.length cg, .slice ko tk.length ck] 33)) f q0 q2 q4) := E2
    clear R0 E1 E2 hS_e hS_f hV1 hV2 hm hr hl
    have hgn : g < (w.alloc (.cells #[.string key, .int .i64 width, .slice (some ⟨g, 0, none⟩) 2 ce, .slice fo fl.length cf, .string fg, .slice go gv.length cg, .slice ko tk.length ck] 33)).heap.size := hg
    change Calls Try.prog 31 #[.agg #[.string key, .int .i64 width, .slice (some ⟨g, 0, none⟩) 2 ce, .slice fo fl.length cf, .string fg, .slice go gv.length cg, .slice ko tk.length ck]] w _
    replace B0 : Hid (Below w.heap.size w (w.alloc (.cells #[.string key, .int .i64 width, .slice (some ⟨g, 0, none⟩) 2 ce, .slice fo fl.length cf, .string fg, .slice go gv.length cg, .slice ko tk.length ck] 33))) := B0
    replace c0 : (w.alloc (.cells #[.string key, .int .i64 width, .slice (some ⟨g, 0, none⟩) 2 ce, .slice fo fl.length cf, .string fg, .slice go gv.length cg, .slice ko tk.length ck] 33)).cell? ⟨g, 0, none⟩ = some (.int .i64 e.num) := c0
    replace c1 : (w.alloc (.cells #[.string key, .int .i64 width, .slice (some ⟨g, 0, none⟩) 2 ce, .slice fo fl.length cf, .string fg, .slice go gv.length cg, .slice ko tk.length ck] 33)).cell? ⟨g, 1, none⟩ = some (.bool e.up) := c1
    replace c2 : (w.alloc (.cells #[.string key, .int .i64 width, .slice (some ⟨g, 0, none⟩) 2 ce, .slice fo fl.length cf, .string fg, .slice go gv.length cg, .slice ko tk.length ck] 33)).cell? ⟨g, 2, none⟩ = some (.int .i64 e.life) := c2
    replace c3 : (w.alloc (.cells #[.string key, .int .i64 width, .slice (some ⟨g, 0, none⟩) 2 ce, .slice fo fl.length cf, .string fg, .slice go gv.length cg, .slice ko tk.length ck] 33)).cell? ⟨g, 3, none⟩ = some (.int .i64 e.peer) := c3
    replace c4 : (w.alloc (.cells #[.string key, .int .i64 width, .slice (some ⟨g, 0, none⟩) 2 ce, .slice fo fl.length cf, .string fg, .slice go gv.length cg, .slice ko tk.length ck] 33)).cell? ⟨g, 4, none⟩ = some (.int .i64 e.since) := c4
    replace c5 : (w.alloc (.cells #[.string key, .int .i64 width, .slice (some ⟨g, 0, none⟩) 2 ce, .slice fo fl.length cf, .string fg, .slice go gv.length cg, .slice ko tk.length ck] 33)).cell? ⟨g, 5, none⟩ = some (.bool e.owes) := c5
    replace c6 : (w.alloc (.cells #[.string key, .int .i64 width, .slice (some ⟨g, 0, none⟩) 2 ce, .slice fo fl.length cf, .string fg, .slice go gv.length cg, .slice ko tk.length ck] 33)).cell? ⟨g, 6, none⟩ = some (.int .i64 e.b) := c6
    replace c7 : (w.alloc (.cells #[.string key, .int .i64 width, .slice (some ⟨g, 0, none⟩) 2 ce, .slice fo fl.length cf, .string fg, .slice go gv.length cg, .slice ko tk.length ck] 33)).cell? ⟨g, 7, none⟩ = some (.slice p0 e.xs.length p1) := c7
    replace c8 : (w.alloc (.cells #[.string key, .int .i64 width, .slice (some ⟨g, 0, none⟩) 2 ce, .slice fo fl.length cf, .string fg, .slice go gv.length cg, .slice ko tk.length ck] 33)).cell? ⟨g, 8, none⟩ = some (.int .i64 e.nx) := c8
    replace c9 : (w.alloc (.cells #[.string key, .int .i64 width, .slice (some ⟨g, 0, none⟩) 2 ce, .slice fo fl.length cf, .string fg, .slice go gv.length cg, .slice ko tk.length ck] 33)).cell? ⟨g, 9, none⟩ = some (.slice p2 e.hs.length p3) := c9
    replace c10 : (w.alloc (.cells #[.string key, .int .i64 width, .slice (some ⟨g, 0, none⟩) 2 ce, .slice fo fl.length cf, .string fg, .slice go gv.length cg, .slice ko tk.length ck] 33)).cell? ⟨g, 10, none⟩ = some (.string e.o) := c10
    replace c11 : (w.alloc (.cells #[.string key, .int .i64 width, .slice (some ⟨g, 0, none⟩) 2 ce, .slice fo fl.length cf, .string fg, .slice go gv.length cg, .slice ko tk.length ck] 33)).cell? ⟨g, 11, none⟩ = some (.slice p4 e.rs.length p5) := c11
    replace d0 : (w.alloc (.cells #[.string key, .int .i64 width, .slice (some ⟨g, 0, none⟩) 2 ce, .slice fo fl.length cf, .string fg, .slice go gv.length cg, .slice ko tk.length ck] 33)).cell? ⟨g, 12, none⟩ = some (.int .i64 f.num) := d0
    replace d1 : (w.alloc (.cells #[.string key, .int .i64 width, .slice (some ⟨g, 0, none⟩) 2 ce, .slice fo fl.length cf, .string fg, .slice go gv.length cg, .slice ko tk.length ck] 33)).cell? ⟨g, 13, none⟩ = some (.bool f.up) := d1
    replace d2 : (w.alloc (.cells #[.string key, .int .i64 width, .slice (some ⟨g, 0, none⟩) 2 ce, .slice fo fl.length cf, .string fg, .slice go gv.length cg, .slice ko tk.length ck] 33)).cell? ⟨g, 14, none⟩ = some (.int .i64 f.life) := d2
    replace d3 : (w.alloc (.cells #[.string key, .int .i64 width, .slice (some ⟨g, 0, none⟩) 2 ce, .slice fo fl.length cf, .string fg, .slice go gv.length cg, .slice ko tk.length ck] 33)).cell? ⟨g, 15, none⟩ = some (.int .i64 f.peer) := d3
    replace d4 : (w.alloc (.cells #[.string key, .int .i64 width, .slice (some ⟨g, 0, none⟩) 2 ce, .slice fo fl.length cf, .string fg, .slice go gv.length cg, .slice ko tk.length ck] 33)).cell? ⟨g, 16, none⟩ = some (.int .i64 f.since) := d4
    replace d5 : (w.alloc (.cells #[.string key, .int .i64 width, .slice (some ⟨g, 0, none⟩) 2 ce, .slice fo fl.length cf, .string fg, .slice go gv.length cg, .slice ko tk.length ck] 33)).cell? ⟨g, 17, none⟩ = some (.bool f.owes) := d5
    replace d6 : (w.alloc (.cells #[.string key, .int .i64 width, .slice (some ⟨g, 0, none⟩) 2 ce, .slice fo fl.length cf, .string fg, .slice go gv.length cg, .slice ko tk.length ck] 33)).cell? ⟨g, 18, none⟩ = some (.int .i64 f.b) := d6
    replace d7 : (w.alloc (.cells #[.string key, .int .i64 width, .slice (some ⟨g, 0, none⟩) 2 ce, .slice fo fl.length cf, .string fg, .slice go gv.length cg, .slice ko tk.length ck] 33)).cell? ⟨g, 19, none⟩ = some (.slice q0 f.xs.length q1) := d7
    replace d8 : (w.alloc (.cells #[.string key, .int .i64 width, .slice (some ⟨g, 0, none⟩) 2 ce, .slice fo fl.length cf, .string fg, .slice go gv.length cg, .slice ko tk.length ck] 33)).cell? ⟨g, 20, none⟩ = some (.int .i64 f.nx) := d8
    replace d9 : (w.alloc (.cells #[.string key, .int .i64 width, .slice (some ⟨g, 0, none⟩) 2 ce, .slice fo fl.length cf, .string fg, .slice go gv.length cg, .slice ko tk.length ck] 33)).cell? ⟨g, 21, none⟩ = some (.slice q2 f.hs.length q3) := d9
    replace d10 : (w.alloc (.cells #[.string key, .int .i64 width, .slice (some ⟨g, 0, none⟩) 2 ce, .slice fo fl.length cf, .string fg, .slice go gv.length cg, .slice ko tk.length ck] 33)).cell? ⟨g, 22, none⟩ = some (.string f.o) := d10
    replace d11 : (w.alloc (.cells #[.string key, .int .i64 width, .slice (some ⟨g, 0, none⟩) 2 ce, .slice fo fl.length cf, .string fg, .slice go gv.length cg, .slice ko tk.length ck] 33)).cell? ⟨g, 23, none⟩ = some (.slice q4 f.rs.length q5) := d11
    by_cases h1 : e.num = 1
    · rw [h1] at KE
      by_cases h2 : f.num = 2
      · rw [h2] at KF
        cases V1 with
        | false =>
          go_enter Try.func31, Try.ntmps31
          go_wp2_with (first
            | (go_at_call_of 45 (Value.bool e.up); refine (KE.out _ H1.out).mono ?_; rintro x w1 ⟨rfl, hb1⟩; (have k0 := (hb1.cell (p := ⟨g, 12, none⟩) hgn).trans d0); (have k1 := (hb1.cell (p := ⟨g, 13, none⟩) hgn).trans d1); (have k2 := (hb1.cell (p := ⟨g, 14, none⟩) hgn).trans d2); (have k3 := (hb1.cell (p := ⟨g, 15, none⟩) hgn).trans d3); (have k4 := (hb1.cell (p := ⟨g, 16, none⟩) hgn).trans d4); (have k5 := (hb1.cell (p := ⟨g, 17, none⟩) hgn).trans d5); (have k6 := (hb1.cell (p := ⟨g, 18, none⟩) hgn).trans d6); (have k7 := (hb1.cell (p := ⟨g, 19, none⟩) hgn).trans d7); (have k8 := (hb1.cell (p := ⟨g, 20, none⟩) hgn).trans d8); (have k9 := (hb1.cell (p := ⟨g, 21, none⟩) hgn).trans d9); (have k10 := (hb1.cell (p := ⟨g, 22, none⟩) hgn).trans d10); (have k11 := (hb1.cell (p := ⟨g, 23, none⟩) hgn).trans d11); (have k12 := hb1.cell (p := ⟨w.heap.size, 2, none⟩) (by simp)); simp [go_sem] at k12)
            | (go_at_call_of 45 (Value.bool f.up); refine (KF.out _ (H2.out.keep hb1)).mono ?_; rintro x w2 ⟨rfl, hb2⟩)
            | fail)
          go_ret
          first
            | exact ⟨ret_b (by rw [HO.out]; simp [h1, h2]), kb (kb B0.out hb1 (Nat.le_refl _)) hb2 (Nat.le_refl _)⟩
            | exact ⟨ret_b (by rw [HO.out]; simp), kb B0.out hb1 (Nat.le_refl _)⟩
            | exact ⟨ret_b (by rw [HO.out, decide_eq_false h2]; simp), B0.out⟩
            | exact ⟨ret_b (by rw [HO.out, decide_eq_false h1]; simp), B0.out⟩
            | fail
        | true =>
          cases V2 with
          | false =>
            go_enter Try.func31, Try.ntmps31
            go_wp2_with (first
              | (go_at_call_of 45 (Value.bool e.up); refine (KE.out _ H1.out).mono ?_; rintro x w1 ⟨rfl, hb1⟩; (have k0 := (hb1.cell (p := ⟨g, 12, none⟩) hgn).trans d0); (have k1 := (hb1.cell (p := ⟨g, 13, none⟩) hgn).trans d1); (have k2 := (hb1.cell (p := ⟨g, 14, none⟩) hgn).trans d2); (have k3 := (hb1.cell (p := ⟨g, 15, none⟩) hgn).trans d3); (have k4 := (hb1.cell (p := ⟨g, 16, none⟩) hgn).trans d4); (have k5 := (hb1.cell (p := ⟨g, 17, none⟩) hgn).trans d5); (have k6 := (hb1.cell (p := ⟨g, 18, none⟩) hgn).trans d6); (have k7 := (hb1.cell (p := ⟨g, 19, none⟩) hgn).trans d7); (have k8 := (hb1.cell (p := ⟨g, 20, none⟩) hgn).trans d8); (have k9 := (hb1.cell (p := ⟨g, 21, none⟩) hgn).trans d9); (have k10 := (hb1.cell (p := ⟨g, 22, none⟩) hgn).trans d10); (have k11 := (hb1.cell (p := ⟨g, 23, none⟩) hgn).trans d11); (have k12 := hb1.cell (p := ⟨w.heap.size, 2, none⟩) (by simp)); simp [go_sem] at k12)
              | (go_at_call_of 45 (Value.bool f.up); refine (KF.out _ (H2.out.keep hb1)).mono ?_; rintro x w2 ⟨rfl, hb2⟩)
              | fail)
            go_ret
            first
              | exact ⟨ret_b (by rw [HO.out]; simp [h1, h2]), kb (kb B0.out hb1 (Nat.le_refl _)) hb2 (Nat.le_refl _)⟩
              | exact ⟨ret_b (by rw [HO.out]; simp), kb B0.out hb1 (Nat.le_refl _)⟩
              | exact ⟨ret_b (by rw [HO.out, decide_eq_false h2]; simp), B0.out⟩
              | exact ⟨ret_b (by rw [HO.out, decide_eq_false h1]; simp), B0.out⟩
              | fail
          | true =>
            go_enter Try.func31, Try.ntmps31
            go_wp2_with (first
              | (go_at_call_of 45 (Value.bool e.up); refine (KE.out _ H1.out).mono ?_; rintro x w1 ⟨rfl, hb1⟩; (have k0 := (hb1.cell (p := ⟨g, 12, none⟩) hgn).trans d0); (have k1 := (hb1.cell (p := ⟨g, 13, none⟩) hgn).trans d1); (have k2 := (hb1.cell (p := ⟨g, 14, none⟩) hgn).trans d2); (have k3 := (hb1.cell (p := ⟨g, 15, none⟩) hgn).trans d3); (have k4 := (hb1.cell (p := ⟨g, 16, none⟩) hgn).trans d4); (have k5 := (hb1.cell (p := ⟨g, 17, none⟩) hgn).trans d5); (have k6 := (hb1.cell (p := ⟨g, 18, none⟩) hgn).trans d6); (have k7 := (hb1.cell (p := ⟨g, 19, none⟩) hgn).trans d7); (have k8 := (hb1.cell (p := ⟨g, 20, none⟩) hgn).trans d8); (have k9 := (hb1.cell (p := ⟨g, 21, none⟩) hgn).trans d9); (have k10 := (hb1.cell (p := ⟨g, 22, none⟩) hgn).trans d10); (have k11 := (hb1.cell (p := ⟨g, 23, none⟩) hgn).trans d11); (have k12 := hb1.cell (p := ⟨w.heap.size, 2, none⟩) (by simp)); simp [go_sem] at k12)
              | (go_at_call_of 45 (Value.bool f.up); refine (KF.out _ (H2.out.keep hb1)).mono ?_; rintro x w2 ⟨rfl, hb2⟩)
              | fail)
            go_ret
            first
              | exact ⟨ret_b (by rw [HO.out]; simp [h1, h2]), kb (kb B0.out hb1 (Nat.le_refl _)) hb2 (Nat.le_refl _)⟩
              | exact ⟨ret_b (by rw [HO.out]; simp), kb B0.out hb1 (Nat.le_refl _)⟩
              | exact ⟨ret_b (by rw [HO.out, decide_eq_false h2]; simp), B0.out⟩
              | exact ⟨ret_b (by rw [HO.out, decide_eq_false h1]; simp), B0.out⟩
              | fail
      · go_enter Try.func31, Try.ntmps31
        go_wp2_with (first
          | (go_at_call_of 45 (Value.bool e.up); refine (KE.out _ H1.out).mono ?_; rintro x w1 ⟨rfl, hb1⟩; (have k0 := (hb1.cell (p := ⟨g, 12, none⟩) hgn).trans d0); (have k1 := (hb1.cell (p := ⟨g, 13, none⟩) hgn).trans d1); (have k2 := (hb1.cell (p := ⟨g, 14, none⟩) hgn).trans d2); (have k3 := (hb1.cell (p := ⟨g, 15, none⟩) hgn).trans d3); (have k4 := (hb1.cell (p := ⟨g, 16, none⟩) hgn).trans d4); (have k5 := (hb1.cell (p := ⟨g, 17, none⟩) hgn).trans d5); (have k6 := (hb1.cell (p := ⟨g, 18, none⟩) hgn).trans d6); (have k7 := (hb1.cell (p := ⟨g, 19, none⟩) hgn).trans d7); (have k8 := (hb1.cell (p := ⟨g, 20, none⟩) hgn).trans d8); (have k9 := (hb1.cell (p := ⟨g, 21, none⟩) hgn).trans d9); (have k10 := (hb1.cell (p := ⟨g, 22, none⟩) hgn).trans d10); (have k11 := (hb1.cell (p := ⟨g, 23, none⟩) hgn).trans d11); (have k12 := hb1.cell (p := ⟨w.heap.size, 2, none⟩) (by simp)); simp [go_sem] at k12)
          | (go_at_call_of 45 (Value.bool f.up); refine (KF.out _ (H2.out.keep hb1)).mono ?_; rintro x w2 ⟨rfl, hb2⟩)
          | fail)
        go_ret
        first
          | exact ⟨ret_b (by rw [HO.out]; simp [h1, h2]), kb (kb B0.out hb1 (Nat.le_refl _)) hb2 (Nat.le_refl _)⟩
          | exact ⟨ret_b (by rw [HO.out]; simp), kb B0.out hb1 (Nat.le_refl _)⟩
          | exact ⟨ret_b (by rw [HO.out, decide_eq_false h2]; simp), B0.out⟩
          | exact ⟨ret_b (by rw [HO.out, decide_eq_false h1]; simp), B0.out⟩
          | fail
    · go_enter Try.func31, Try.ntmps31
      go_wp2_with (first
        | (go_at_call_of 45 (Value.bool e.up); refine (KE.out _ H1.out).mono ?_; rintro x w1 ⟨rfl, hb1⟩; (have k0 := (hb1.cell (p := ⟨g, 12, none⟩) hgn).trans d0); (have k1 := (hb1.cell (p := ⟨g, 13, none⟩) hgn).trans d1); (have k2 := (hb1.cell (p := ⟨g, 14, none⟩) hgn).trans d2); (have k3 := (hb1.cell (p := ⟨g, 15, none⟩) hgn).trans d3); (have k4 := (hb1.cell (p := ⟨g, 16, none⟩) hgn).trans d4); (have k5 := (hb1.cell (p := ⟨g, 17, none⟩) hgn).trans d5); (have k6 := (hb1.cell (p := ⟨g, 18, none⟩) hgn).trans d6); (have k7 := (hb1.cell (p := ⟨g, 19, none⟩) hgn).trans d7); (have k8 := (hb1.cell (p := ⟨g, 20, none⟩) hgn).trans d8); (have k9 := (hb1.cell (p := ⟨g, 21, none⟩) hgn).trans d9); (have k10 := (hb1.cell (p := ⟨g, 22, none⟩) hgn).trans d10); (have k11 := (hb1.cell (p := ⟨g, 23, none⟩) hgn).trans d11); (have k12 := hb1.cell (p := ⟨w.heap.size, 2, none⟩) (by simp)); simp [go_sem] at k12)
        | (go_at_call_of 45 (Value.bool f.up); refine (KF.out _ (H2.out.keep hb1)).mono ?_; rintro x w2 ⟨rfl, hb2⟩)
        | fail)
      go_ret
      first
        | exact ⟨ret_b (by rw [HO.out]; simp [h1, h2]), kb (kb B0.out hb1 (Nat.le_refl _)) hb2 (Nat.le_refl _)⟩
        | exact ⟨ret_b (by rw [HO.out]; simp), kb B0.out hb1 (Nat.le_refl _)⟩
        | exact ⟨ret_b (by rw [HO.out, decide_eq_false h2]; simp), B0.out⟩
        | exact ⟨ret_b (by rw [HO.out, decide_eq_false h1]; simp), B0.out⟩
        | fail
  · rw [endsOk_len hl]
    clear hr hm
    go_enter Try.func31, Try.ntmps31
    go_wp2
    go_ret
    exact ⟨rfl, B0.out⟩
theorem hasValidFlight_any (key : ByteArray) (width : Int) (eo : Option Addr) (ce : Nat) (es : List Ev) (fo : Option Addr) (cf : Nat) (fl : List Pc) (fg : ByteArray) (go : Option Addr) (cg : Nat) (gv : List Rc) (ko : Option Addr) (ck : Nat) (tk : List Rc) (w : World) (hm : Sw 1048576 key es fl fg gv tk) (hr : Rwo w eo es fo fl go gv ko tk) :
    Calls Try.prog 32 #[.agg #[.string key, .int .i64 width, .slice eo es.length ce, .slice fo fl.length cf, .string fg, .slice go gv.length cg, .slice ko tk.length ck]] w fun e w' => e = .returned (.bool (decide (fl.length ≤ 1000) && pcsOk fl)) ∧ Below w.heap.size w w' := by
  have B0 : Hid (Below w.heap.size w (w.alloc (.cells #[.string key, .int .i64 width, .slice eo es.length ce, .slice fo fl.length cf, .string fg, .slice go gv.length cg, .slice ko tk.length ck] 33))) := (Below.refl _ _).alloc (Nat.le_refl _) _
  have R0 : Hid (Rs (w.alloc (.cells #[.string key, .int .i64 width, .slice eo es.length ce, .slice fo fl.length cf, .string fg, .slice go gv.length cg, .slice ko tk.length ck] 33)) fo fl.length (pcs fl)) := hr.flight.keep B0.out
  have HZ : Hid (∀ i (h : i < fl.length), fl[i].fits 1048576) := hm.flight
  have hf := hm.f
  clear hr hm
  obtain ⟨V, hV⟩ : ∃ V, V = pcsOk fl := ⟨_, rfl⟩
  have KA : Hid (∀ u : World, Rs u fo fl.length (pcs fl) → Calls Try.prog 46 #[.slice fo fl.length cf, .func (.func 47) #[] #[]] u fun x u' => x = .returned (.bool V) ∧ Below u.heap.size u u') := fun u h => by rw [hV]; exact allOfParcel_any fo cf fl u hf HZ.out h
  rw [← hV]
  clear hV
  by_cases h : fl.length ≤ 1000
  · go_enter Try.func32, Try.ntmps32
    go_wp2_with (first | (go_at_call 46; refine (KA.out _ R0.out).mono ?_; rintro x w1 ⟨rfl, hb1⟩) | fail)
    go_ret
    exact ⟨ret_b (by first | rfl | (rw [decide_eq_true h]; simp)), kb B0.out hb1 (Nat.le_refl _)⟩
  · go_enter Try.func32, Try.ntmps32
    go_wp2
    go_ret
    exact ⟨ret_b (by first | rfl | (rw [decide_eq_false h]; simp)), B0.out⟩
theorem hasValidHistory_any (key : ByteArray) (width : Int) (eo : Option Addr) (ce : Nat) (es : List Ev) (fo : Option Addr) (cf : Nat) (fl : List Pc) (fg : ByteArray) (go : Option Addr) (cg : Nat) (gv : List Rc) (ko : Option Addr) (ck : Nat) (tk : List Rc) (w : World) (hm : Sw 1048576 key es fl fg gv tk) (hr : Rwo w eo es fo fl go gv ko tk) :
    Calls Try.prog 33 #[.agg #[.string key, .int .i64 width, .slice eo es.length ce, .slice fo fl.length cf, .string fg, .slice go gv.length cg, .slice ko tk.length ck]] w fun e w' => e = .returned (.bool (decide (gv.length + tk.length ≤ 400) && rcsOk gv && rcsOk tk)) ∧ Below w.heap.size w w' := by
  have B0 : Hid (Below w.heap.size w (w.alloc (.cells #[.string key, .int .i64 width, .slice eo es.length ce, .slice fo fl.length cf, .string fg, .slice go gv.length cg, .slice ko tk.length ck] 33))) := (Below.refl _ _).alloc (Nat.le_refl _) _
  have R0 : Hid (Rs (w.alloc (.cells #[.string key, .int .i64 width, .slice eo es.length ce, .slice fo fl.length cf, .string fg, .slice go gv.length cg, .slice ko tk.length ck] 33)) go gv.length (rcs gv)) := hr.given.keep B0.out
  have R1 : Hid (Rs (w.alloc (.cells #[.string key, .int .i64 width, .slice eo es.length ce, .slice fo fl.length cf, .string fg, .slice go gv.length cg, .slice ko tk.length ck] 33)) ko tk.length (rcs tk)) := hr.taken.keep B0.out
  have HZ : Hid (∀ i (h : i < gv.length), gv[i].fits 1048576) := hm.given
  have HZ2 : Hid (∀ i (h : i < tk.length), tk[i].fits 1048576) := hm.taken
  have hf := hm.g
  have ht := hm.t
  clear hr hm
  obtain ⟨V, hV⟩ : ∃ V, V = rcsOk gv := ⟨_, rfl⟩
  obtain ⟨V2, hV2⟩ : ∃ V, V = rcsOk tk := ⟨_, rfl⟩
  have KA : Hid (∀ u : World, Rs u go gv.length (rcs gv) → Calls Try.prog 48 #[.slice go gv.length cg, .func (.func 49) #[] #[]] u fun x u' => x = .returned (.bool V) ∧ Below u.heap.size u u') := fun u h => by rw [hV]; exact allOfRecord_any go cg gv u hf HZ.out h
  have KB : Hid (∀ u : World, Rs u ko tk.length (rcs tk) → Calls Try.prog 48 #[.slice ko tk.length ck, .func (.func 49) #[] #[]] u fun x u' => x = .returned (.bool V2) ∧ Below u.heap.size u u') := fun u h => by rw [hV2]; exact allOfRecord_any ko ck tk u ht HZ2.out h
  rw [← hV, ← hV2]
  clear hV hV2
  by_cases h : gv.length + tk.length ≤ 400
  · cases V with
    | true =>
      go_enter Try.func33, Try.ntmps33
      go_wp2_with (first | (go_at_call_of 48 (Value.slice go gv.length cg); refine (KA.out _ R0.out).mono ?_; rintro x w1 ⟨rfl, hb1⟩; (have k6 := hb1.cell (p := ⟨w.heap.size, 6, none⟩) (by simp)); simp [go_sem] at k6) | (go_at_call_of 48 (Value.slice ko tk.length ck); refine (KB.out _ (R1.out.keep hb1)).mono ?_; rintro x w2 ⟨rfl, hb2⟩) | fail)
      go_ret
      exact ⟨ret_b (by first | rfl | (rw [decide_eq_true h]; simp)), kb (kb B0.out hb1 (Nat.le_refl _)) hb2 (Nat.le_refl _)⟩
    | false =>
      go_enter Try.func33, Try.ntmps33
      go_wp2_with (first | (go_at_call_of 48 (Value.slice go gv.length cg); refine (KA.out _ R0.out).mono ?_; rintro x w1 ⟨rfl, hb1⟩) | fail)
      go_ret
      exact ⟨ret_b (by simp), kb B0.out hb1 (Nat.le_refl _)⟩
  · go_enter Try.func33, Try.ntmps33
    go_wp2
    go_ret
    exact ⟨ret_b (by first | rfl | (rw [decide_eq_false h]; simp)), B0.out⟩
set_option maxHeartbeats 2000000 in
theorem implValidWorld_any (key : ByteArray) (width : Int) (eo : Option Addr) (ce : Nat) (es : List Ev) (fo : Option Addr) (cf : Nat) (fl : List Pc) (fg : ByteArray) (go : Option Addr) (cg : Nat) (gv : List Rc) (ko : Option Addr) (ck : Nat) (tk : List Rc) (w : World) (hm : Sw 1048576 key es fl fg gv tk) (hr : Rwo w eo es fo fl go gv ko tk) :
    Calls Try.prog 16 #[.agg #[.string key, .int .i64 width, .slice eo es.length ce, .slice fo fl.length cf, .string fg, .slice go gv.length cg, .slice ko tk.length ck]] w fun e w' => e = .returned (.bool (woOk key width es fl gv tk)) ∧ Below w.heap.size w w' := by
  have B0 : Hid (Below w.heap.size w (w.alloc (.cells #[.string key, .int .i64 width, .slice eo es.length ce, .slice fo fl.length cf, .string fg, .slice go gv.length cg, .slice ko tk.length ck] 33))) := (Below.refl _ _).alloc (Nat.le_refl _) _
  have X0 : Hid (Bx (w.alloc (.cells #[.string key, .int .i64 width, .slice eo es.length ce, .slice fo fl.length cf, .string fg, .slice go gv.length cg, .slice ko tk.length ck] 33)) w.heap.size 33 #[.string key, .int .i64 width, .slice eo es.length ce, .slice fo fl.length cf, .string fg, .slice go gv.length cg, .slice ko tk.length ck]) := Bx.new w _ _
  have R0 : Hid (Rwo (w.alloc (.cells #[.string key, .int .i64 width, .slice eo es.length ce, .slice fo fl.length cf, .string fg, .slice go gv.length cg, .slice ko tk.length ck] 33)) eo es fo fl go gv ko tk) := hr.keep B0.out
  obtain ⟨V1, hV1⟩ : ∃ V, V = tag.sealOk key.size width := ⟨_, rfl⟩
  obtain ⟨V2, hV2⟩ : ∃ V, V = endsOk es := ⟨_, rfl⟩
  obtain ⟨V3, hV3⟩ : ∃ V, V = (decide (fl.length ≤ 1000) && pcsOk fl) := ⟨_, rfl⟩
  obtain ⟨V4, hV4⟩ : ∃ V, V = (decide (gv.length + tk.length ≤ 400) && rcsOk gv && rcsOk tk) := ⟨_, rfl⟩
  have K1 : Hid (∀ u : World, Calls Try.prog 30 #[.string key, .int .i64 width] u fun x u' => x = .returned (.bool V1) ∧ u = u') := fun u => by rw [hV1]; exact tag.isSeal_any key width u
  have K2 : Hid (∀ u : World, Rwo u eo es fo fl go gv ko tk → Calls Try.prog 31 #[.agg #[.string key, .int .i64 width, .slice eo es.length ce, .slice fo fl.length cf, .string fg, .slice go gv.length cg, .slice ko tk.length ck]] u fun x u' => x = .returned (.bool V2) ∧ Below u.heap.size u u') := fun u h => by rw [hV2]; exact hasValidEnds_any key width eo ce es fo cf fl fg go cg gv ko ck tk u hm h
  have K3 : Hid (∀ u : World, Rwo u eo es fo fl go gv ko tk → Calls Try.prog 32 #[.agg #[.string key, .int .i64 width, .slice eo es.length ce, .slice fo fl.length cf, .string fg, .slice go gv.length cg, .slice ko tk.length ck]] u fun x u' => x = .returned (.bool V3) ∧ Below u.heap.size u u') := fun u h => by rw [hV3]; exact hasValidFlight_any key width eo ce es fo cf fl fg go cg gv ko ck tk u hm h
  have K4 : Hid (∀ u : World, Rwo u eo es fo fl go gv ko tk → Calls Try.prog 33 #[.agg #[.string key, .int .i64 width, .slice eo es.length ce, .slice fo fl.length cf, .string fg, .slice go gv.length cg, .slice ko tk.length ck]] u fun x u' => x = .returned (.bool V4) ∧ Below u.heap.size u u') := fun u h => by rw [hV4]; exact hasValidHistory_any key width eo ce es fo cf fl fg go cg gv ko ck tk u hm h
  have HO : Hid (woOk key width es fl gv tk = (V1 && V2 && V3 && V4)) := (by rw [hV1, hV2, hV3, hV4]; unfold woOk; cases tag.sealOk key.size width <;> cases endsOk es <;> cases decide (fl.length ≤ 1000) <;> cases decide (gv.length + tk.length ≤ 400) <;> cases pcsOk fl <;> cases rcsOk gv <;> cases rcsOk tk <;> rfl : woOk key width es fl gv tk = (V1 && V2 && V3 && V4))
  rw [HO.out]
  clear hV1 hV2 hV3 hV4 hm hr HO
  cases V1
  · go_enter Try.func16, Try.ntmps16
    go_wp2_with (first | (go_at_call 30; refine (K1.out _).mono ?_; rintro x w' ⟨rfl, rfl⟩) | fail)
    go_ret
    exact ⟨ret_b (by simp), B0.out⟩
  cases V2
  · go_enter Try.func16, Try.ntmps16
    go_wp2_with (first | (go_at_call 30; refine (K1.out _).mono ?_; rintro x w' ⟨rfl, rfl⟩) | (go_at_call 31; refine (K2.out _ R0.out).mono ?_; rintro x w1 ⟨rfl, hb1⟩; (have X1 := X0.out.keep hb1); (have RR1 := R0.out.keep hb1); (have x0 := X1.cell 0); (have x1 := X1.cell 1); (have x2 := X1.cell 2); (have x3 := X1.cell 3); (have x4 := X1.cell 4); (have x5 := X1.cell 5); (have x6 := X1.cell 6); simp at x0 x1 x2 x3 x4 x5 x6) | fail)
    go_ret
    exact ⟨ret_b (by simp), kb B0.out hb1 (Nat.le_refl _)⟩
  cases V3
  · go_enter Try.func16, Try.ntmps16
    go_wp2_with (first | (go_at_call 30; refine (K1.out _).mono ?_; rintro x w' ⟨rfl, rfl⟩) | (go_at_call 31; refine (K2.out _ R0.out).mono ?_; rintro x w1 ⟨rfl, hb1⟩; (have X1 := X0.out.keep hb1); (have RR1 := R0.out.keep hb1); (have x0 := X1.cell 0); (have x1 := X1.cell 1); (have x2 := X1.cell 2); (have x3 := X1.cell 3); (have x4 := X1.cell 4); (have x5 := X1.cell 5); (have x6 := X1.cell 6); simp at x0 x1 x2 x3 x4 x5 x6) | (go_at_call 32; refine (K3.out _ RR1).mono ?_; rintro x w2 ⟨rfl, hb2⟩; (have X2 := X1.keep hb2); (have RR2 := RR1.keep hb2); clear x0 x1 x2 x3 x4 x5 x6; (have x0 := X2.cell 0); (have x1 := X2.cell 1); (have x2 := X2.cell 2); (have x3 := X2.cell 3); (have x4 := X2.cell 4); (have x5 := X2.cell 5); (have x6 := X2.cell 6); simp at x0 x1 x2 x3 x4 x5 x6) | fail)
    go_ret
    exact ⟨ret_b (by simp), kb (kb B0.out hb1 (Nat.le_refl _)) hb2 (Nat.le_refl _)⟩
  go_enter Try.func16, Try.ntmps16
  go_wp2_with (first | (go_at_call 30; refine (K1.out _).mono ?_; rintro x w' ⟨rfl, rfl⟩) | (go_at_call 31; refine (K2.out _ R0.out).mono ?_; rintro x w1 ⟨rfl, hb1⟩; (have X1 := X0.out.keep hb1); (have RR1 := R0.out.keep hb1); (have x0 := X1.cell 0); (have x1 := X1.cell 1); (have x2 := X1.cell 2); (have x3 := X1.cell 3); (have x4 := X1.cell 4); (have x5 := X1.cell 5); (have x6 := X1.cell 6); simp at x0 x1 x2 x3 x4 x5 x6) | (go_at_call 32; refine (K3.out _ RR1).mono ?_; rintro x w2 ⟨rfl, hb2⟩; (have X2 := X1.keep hb2); (have RR2 := RR1.keep hb2); clear x0 x1 x2 x3 x4 x5 x6; (have x0 := X2.cell 0); (have x1 := X2.cell 1); (have x2 := X2.cell 2); (have x3 := X2.cell 3); (have x4 := X2.cell 4); (have x5 := X2.cell 5); (have x6 := X2.cell 6); simp at x0 x1 x2 x3 x4 x5 x6) | (go_at_call 33; refine (K4.out _ RR2).mono ?_; rintro x w3 ⟨rfl, hb3⟩; (have X3 := X2.keep hb3); (have RR3 := RR2.keep hb3); clear x0 x1 x2 x3 x4 x5 x6; (have x0 := X3.cell 0); (have x1 := X3.cell 1); (have x2 := X3.cell 2); (have x3 := X3.cell 3); (have x4 := X3.cell 4); (have x5 := X3.cell 5); (have x6 := X3.cell 6); simp at x0 x1 x2 x3 x4 x5 x6) | fail)
  go_ret
  exact ⟨ret_b (by simp), kb (kb (kb B0.out hb1 (Nat.le_refl _)) hb2 (Nat.le_refl _)) hb3 (Nat.le_refl _)⟩
end Go.Proofs.Ytmliinglojmojab.mk

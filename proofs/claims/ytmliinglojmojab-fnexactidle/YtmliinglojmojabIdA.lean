/-
  IDLE WORLDS: spec.Idle.
-/
import Derived.Test.YtmliinglojmojabValY
import Derived.Test.YtmliinglojmojabBase
namespace Go.Proofs.Ytmliinglojmojab.mk
open Go.RowKit
set_option linter.unusedVariables false

def doneE (e : En) : Bool := decide (e.xs.length = 0) && decide (e.hs.length = 0) && decide (e.o.size = 0) && decide (e.rs.length = 0)
def restE (x y : En) : Bool := x.up && decide (x.peer = y.life) && doneE x
def idleOk (es : List Ev) : Bool := match es with
  | [x, y] => restE x.e y.e && restE y.e x.e
  | _ => false
theorem idleOk_two {x y : Ev} : idleOk [x, y] = (restE x.e y.e && restE y.e x.e) := rfl
theorem woOk_ends {key : ByteArray} {width : Int} {es : List Ev} {fl : List Pc} {gv tk : List Rc} (h : woOk key width es fl gv tk = true) : es.length = 2 := by
  apply Classical.byContradiction
  intro h2
  rw [woOk_no (.inr (.inr (.inr (.inl (endsOk_len h2)))))] at h
  cases h
set_option maxRecDepth 100000 in
set_option maxHeartbeats 8000000 in
theorem specIdle_two (key : ByteArray) (width : Int) (g ce : Nat) (fo : Option Addr) (cf : Nat) (fl : List Pc) (fg : ByteArray) (go : Option Addr) (cg : Nat) (gv : List Rc) (ko : Option Addr) (ck : Nat) (tk : List Rc)
    (anum : Int) (aup : Bool) (alife apeer asince : Int) (aowes : Bool) (ab : Int) (axs : List It) (anx : Int) (ahs : List Hd) (ao : ByteArray) (ars : List ByteArray) (p0 : Option Addr) (p1 : Nat) (p2 : Option Addr) (p3 : Nat) (p4 : Option Addr) (p5 : Nat)
    (cnum : Int) (cup : Bool) (clife cpeer csince : Int) (cowes : Bool) (cb : Int) (cxs : List It) (cnx : Int) (chs : List Hd) (co : ByteArray) (crs : List ByteArray) (q0 : Option Addr) (q1 : Nat) (q2 : Option Addr) (q3 : Nat) (q4 : Option Addr) (q5 : Nat)
    (w : World) (hz : axs.length ≤ 1048576 ∧ ahs.length ≤ 1048576 ∧ ars.length ≤ 1048576 ∧ ao.size ≤ 1048576 ∧ cxs.length ≤ 1048576 ∧ chs.length ≤ 1048576 ∧ crs.length ≤ 1048576 ∧ co.size ≤ 1048576)
    (hg : g < w.heap.size) (hc : w.cell? ⟨g, 0, none⟩ = some (.int .i64 anum) ∧ w.cell? ⟨g, 1, none⟩ = some (.bool aup) ∧ w.cell? ⟨g, 2, none⟩ = some (.int .i64 alife) ∧ w.cell? ⟨g, 3, none⟩ = some (.int .i64 apeer) ∧ w.cell? ⟨g, 4, none⟩ = some (.int .i64 asince) ∧ w.cell? ⟨g, 5, none⟩ = some (.bool aowes) ∧ w.cell? ⟨g, 6, none⟩ = some (.int .i64 ab) ∧ w.cell? ⟨g, 7, none⟩ = some (.slice p0 axs.length p1) ∧ w.cell? ⟨g, 8, none⟩ = some (.int .i64 anx) ∧ w.cell? ⟨g, 9, none⟩ = some (.slice p2 ahs.length p3) ∧ w.cell? ⟨g, 10, none⟩ = some (.string ao) ∧ w.cell? ⟨g, 11, none⟩ = some (.slice p4 ars.length p5) ∧ w.cell? ⟨g, 12, none⟩ = some (.int .i64 cnum) ∧ w.cell? ⟨g, 13, none⟩ = some (.bool cup) ∧ w.cell? ⟨g, 14, none⟩ = some (.int .i64 clife) ∧ w.cell? ⟨g, 15, none⟩ = some (.int .i64 cpeer) ∧ w.cell? ⟨g, 16, none⟩ = some (.int .i64 csince) ∧ w.cell? ⟨g, 17, none⟩ = some (.bool cowes) ∧ w.cell? ⟨g, 18, none⟩ = some (.int .i64 cb) ∧ w.cell? ⟨g, 19, none⟩ = some (.slice q0 cxs.length q1) ∧ w.cell? ⟨g, 20, none⟩ = some (.int .i64 cnx) ∧ w.cell? ⟨g, 21, none⟩ = some (.slice q2 chs.length q3) ∧ w.cell? ⟨g, 22, none⟩ = some (.string co) ∧ w.cell? ⟨g, 23, none⟩ = some (.slice q4 crs.length q5))
    (hv : ∀ u : World, Below w.heap.size w u → Calls Try.prog 12 #[.agg #[.string key, .int .i64 width, .slice (some ⟨g, 0, none⟩) 2 ce, .slice fo fl.length cf, .string fg, .slice go gv.length cg, .slice ko tk.length ck]] u fun e u' => e = .returned (.bool true) ∧ Below u.heap.size u u') (A : Bool) (hA : A = (restE ⟨anum, aup, alife, apeer, asince, aowes, ab, axs, anx, ahs, ao, ars⟩ ⟨cnum, cup, clife, cpeer, csince, cowes, cb, cxs, cnx, chs, co, crs⟩ && restE ⟨cnum, cup, clife, cpeer, csince, cowes, cb, cxs, cnx, chs, co, crs⟩ ⟨anum, aup, alife, apeer, asince, aowes, ab, axs, anx, ahs, ao, ars⟩)) :
    Calls Try.prog 5 #[.agg #[.string key, .int .i64 width, .slice (some ⟨g, 0, none⟩) 2 ce, .slice fo fl.length cf, .string fg, .slice go gv.length cg, .slice ko tk.length ck]] w fun e w' => e = .returned (.bool A) ∧ Below w.heap.size w w' := by
  have B0 : Hid (Below w.heap.size w (w.alloc (.cells #[.string key, .int .i64 width, .slice (some ⟨g, 0, none⟩) 2 ce, .slice fo fl.length cf, .string fg, .slice go gv.length cg, .slice ko tk.length ck] 33))) := (Below.refl _ _).alloc (Nat.le_refl _) _
  have X0 : Hid (Bx (w.alloc (.cells #[.string key, .int .i64 width, .slice (some ⟨g, 0, none⟩) 2 ce, .slice fo fl.length cf, .string fg, .slice go gv.length cg, .slice ko tk.length ck] 33)) w.heap.size 33 #[.string key, .int .i64 width, .slice (some ⟨g, 0, none⟩) 2 ce, .slice fo fl.length cf, .string fg, .slice go gv.length cg, .slice ko tk.length ck]) := Bx.new w _ _
  have HV : Hid (∀ u : World, Below w.heap.size w u → Calls Try.prog 12 #[.agg #[.string key, .int .i64 width, .slice (some ⟨g, 0, none⟩) 2 ce, .slice fo fl.length cf, .string fg, .slice go gv.length cg, .slice ko tk.length ck]] u fun e u' => e = .returned (.bool true) ∧ Below u.heap.size u u') := hv
  have HCc : Hid (w.cell? ⟨g, 0, none⟩ = some (.int .i64 anum) ∧ w.cell? ⟨g, 1, none⟩ = some (.bool aup) ∧ w.cell? ⟨g, 2, none⟩ = some (.int .i64 alife) ∧ w.cell? ⟨g, 3, none⟩ = some (.int .i64 apeer) ∧ w.cell? ⟨g, 4, none⟩ = some (.int .i64 asince) ∧ w.cell? ⟨g, 5, none⟩ = some (.bool aowes) ∧ w.cell? ⟨g, 6, none⟩ = some (.int .i64 ab) ∧ w.cell? ⟨g, 7, none⟩ = some (.slice p0 axs.length p1) ∧ w.cell? ⟨g, 8, none⟩ = some (.int .i64 anx) ∧ w.cell? ⟨g, 9, none⟩ = some (.slice p2 ahs.length p3) ∧ w.cell? ⟨g, 10, none⟩ = some (.string ao) ∧ w.cell? ⟨g, 11, none⟩ = some (.slice p4 ars.length p5) ∧ w.cell? ⟨g, 12, none⟩ = some (.int .i64 cnum) ∧ w.cell? ⟨g, 13, none⟩ = some (.bool cup) ∧ w.cell? ⟨g, 14, none⟩ = some (.int .i64 clife) ∧ w.cell? ⟨g, 15, none⟩ = some (.int .i64 cpeer) ∧ w.cell? ⟨g, 16, none⟩ = some (.int .i64 csince) ∧ w.cell? ⟨g, 17, none⟩ = some (.bool cowes) ∧ w.cell? ⟨g, 18, none⟩ = some (.int .i64 cb) ∧ w.cell? ⟨g, 19, none⟩ = some (.slice q0 cxs.length q1) ∧ w.cell? ⟨g, 20, none⟩ = some (.int .i64 cnx) ∧ w.cell? ⟨g, 21, none⟩ = some (.slice q2 chs.length q3) ∧ w.cell? ⟨g, 22, none⟩ = some (.string co) ∧ w.cell? ⟨g, 23, none⟩ = some (.slice q4 crs.length q5)) := hc
  have HO : Hid (A = (restE ⟨anum, aup, alife, apeer, asince, aowes, ab, axs, anx, ahs, ao, ars⟩ ⟨cnum, cup, clife, cpeer, csince, cowes, cb, cxs, cnx, chs, co, crs⟩ && restE ⟨cnum, cup, clife, cpeer, csince, cowes, cb, cxs, cnx, chs, co, crs⟩ ⟨anum, aup, alife, apeer, asince, aowes, ab, axs, anx, ahs, ao, ars⟩)) := hA
  clear hv hc hA
  have hw1 : IntKind.i64.wrap 1 = 1 := rfl
  have hw0 : IntKind.i64.wrap 0 = 0 := rfl
  go_enter Try.func5, Try.ntmps5
  go_wp2_with (first
    | (go_at_call 12; refine (HV.out _ B0.out).mono ?_; rintro x w1 ⟨rfl, hb1⟩)
    | fail)
  have X1 := X0.out.keep hb1
  have Bw1 : Hid (Below (w.heap.size + 1) (w.alloc (.cells #[.string key, .int .i64 width, .slice (some ⟨g, 0, none⟩) 2 ce, .slice fo fl.length cf, .string fg, .slice go gv.length cg, .slice ko tk.length ck] 33)) w1) := (by simpa using hb1 : Below (w.heap.size + 1) (w.alloc (.cells #[.string key, .int .i64 width, .slice (some ⟨g, 0, none⟩) 2 ce, .slice fo fl.length cf, .string fg, .slice go gv.length cg, .slice ko tk.length ck] 33)) w1)
  go_loopw [3] (fun i wr => ∃ k : Nat, k ≤ 2 ∧ i = .int .i64 k ∧ (0 < k → restE ⟨anum, aup, alife, apeer, asince, aowes, ab, axs, anx, ahs, ao, ars⟩ ⟨cnum, cup, clife, cpeer, csince, cowes, cb, cxs, cnx, chs, co, crs⟩ = true) ∧ (1 < k → restE ⟨cnum, cup, clife, cpeer, csince, cowes, cb, cxs, cnx, chs, co, crs⟩ ⟨anum, aup, alife, apeer, asince, aowes, ab, axs, anx, ahs, ao, ars⟩ = true) ∧ Below (w.heap.size + 1) (w.alloc (.cells #[.string key, .int .i64 width, .slice (some ⟨g, 0, none⟩) 2 ce, .slice fo fl.length cf, .string fg, .slice go gv.length cg, .slice ko tk.length ck] 33)) wr) (fun i _ => 2 - (intOf i).toNat)
  case atStart => exact ⟨0, Nat.zero_le _, rfl, fun h => absurd h (by omega), fun h => absurd h (by omega), Bw1.out⟩
  case round =>
    clear X1 hb1 Bw1
    obtain ⟨k, hk, rfl, r0, r1, hbel⟩ := hrel
    have hr0 : Hid (0 < k → restE ⟨anum, aup, alife, apeer, asince, aowes, ab, axs, anx, ahs, ao, ars⟩ ⟨cnum, cup, clife, cpeer, csince, cowes, cb, cxs, cnx, chs, co, crs⟩ = true) := r0
    have hr1 : Hid (1 < k → restE ⟨cnum, cup, clife, cpeer, csince, cowes, cb, cxs, cnx, chs, co, crs⟩ ⟨anum, aup, alife, apeer, asince, aowes, ab, axs, anx, ahs, ao, ars⟩ = true) := r1
    clear r0 r1
    have X1 : Bx wr w.heap.size 33 #[.string key, .int .i64 width, .slice (some ⟨g, 0, none⟩) 2 ce, .slice fo fl.length cf, .string fg, .slice go gv.length cg, .slice ko tk.length ck] := X0.out.keep (by simpa using hbel)
    have hbel0 : Below w.heap.size w wr := B0.out.trans (hbel.mono (by omega))
    have hws : w.heap.size < wr.heap.size := X1.lt
    have x0 := X1.cell 0; have x1 := X1.cell 1; have x2 := X1.cell 2; have x3 := X1.cell 3; have x4 := X1.cell 4; have x5 := X1.cell 5; have x6 := X1.cell 6
    simp at x0 x1 x2 x3 x4 x5 x6
    obtain ⟨e0, e1, e2, e3, e4, e5, e6, e7, e8, e9, e10, e11, e12, e13, e14, e15, e16, e17, e18, e19, e20, e21, e22, e23⟩ := HCc.out
    replace e0 := (hbel0.cell (p := ⟨g, 0, none⟩) hg).trans e0
    replace e1 := (hbel0.cell (p := ⟨g, 1, none⟩) hg).trans e1
    replace e2 := (hbel0.cell (p := ⟨g, 2, none⟩) hg).trans e2
    replace e3 := (hbel0.cell (p := ⟨g, 3, none⟩) hg).trans e3
    replace e4 := (hbel0.cell (p := ⟨g, 4, none⟩) hg).trans e4
    replace e5 := (hbel0.cell (p := ⟨g, 5, none⟩) hg).trans e5
    replace e6 := (hbel0.cell (p := ⟨g, 6, none⟩) hg).trans e6
    replace e7 := (hbel0.cell (p := ⟨g, 7, none⟩) hg).trans e7
    replace e8 := (hbel0.cell (p := ⟨g, 8, none⟩) hg).trans e8
    replace e9 := (hbel0.cell (p := ⟨g, 9, none⟩) hg).trans e9
    replace e10 := (hbel0.cell (p := ⟨g, 10, none⟩) hg).trans e10
    replace e11 := (hbel0.cell (p := ⟨g, 11, none⟩) hg).trans e11
    replace e12 := (hbel0.cell (p := ⟨g, 12, none⟩) hg).trans e12
    replace e13 := (hbel0.cell (p := ⟨g, 13, none⟩) hg).trans e13
    replace e14 := (hbel0.cell (p := ⟨g, 14, none⟩) hg).trans e14
    replace e15 := (hbel0.cell (p := ⟨g, 15, none⟩) hg).trans e15
    replace e16 := (hbel0.cell (p := ⟨g, 16, none⟩) hg).trans e16
    replace e17 := (hbel0.cell (p := ⟨g, 17, none⟩) hg).trans e17
    replace e18 := (hbel0.cell (p := ⟨g, 18, none⟩) hg).trans e18
    replace e19 := (hbel0.cell (p := ⟨g, 19, none⟩) hg).trans e19
    replace e20 := (hbel0.cell (p := ⟨g, 20, none⟩) hg).trans e20
    replace e21 := (hbel0.cell (p := ⟨g, 21, none⟩) hg).trans e21
    replace e22 := (hbel0.cell (p := ⟨g, 22, none⟩) hg).trans e22
    replace e23 := (hbel0.cell (p := ⟨g, 23, none⟩) hg).trans e23
    rcases Nat.lt_or_ge k 2 with hlt | hge
    · rcases (show k = 0 ∨ k = 1 by omega) with hk1 | hk1
      · obtain rfl : k = 0 := by omega
        have hk0 : (((0 : Nat)) : Int) = 0 := rfl
        rw [hk0]
        clear hlt hk hk0
        go_wp2
        obtain ⟨W1, hW1⟩ : ∃ W1, wr.alloc (.cells #[.int .i64 anum, .bool aup, .int .i64 alife, .int .i64 apeer, .int .i64 asince, .bool aowes, .int .i64 ab, .slice p0 axs.length p1, .int .i64 anx, .slice p2 ahs.length p3, .string ao, .slice p4 ars.length p5] 48) = W1 := ⟨_, rfl⟩
        have AW : Below wr.heap.size wr W1 := by rw [← hW1]; exact (Below.refl _ _).alloc (Nat.le_refl _) _
        have T0 := cell_keep x0 AW
        have T1 := cell_keep x1 AW
        have T2 := cell_keep x2 AW
        have T3 := cell_keep x3 AW
        have T4 := cell_keep x4 AW
        have T5 := cell_keep x5 AW
        have T6 := cell_keep x6 AW
        have H0 : W1.cell? ⟨wr.heap.size, 0, none⟩ = some (.int .i64 anum) := by rw [← hW1]; simp [go_sem]
        have H1 : W1.cell? ⟨wr.heap.size, 1, none⟩ = some (.bool aup) := by rw [← hW1]; simp [go_sem]
        have H2 : W1.cell? ⟨wr.heap.size, 2, none⟩ = some (.int .i64 alife) := by rw [← hW1]; simp [go_sem]
        have H3 : W1.cell? ⟨wr.heap.size, 3, none⟩ = some (.int .i64 apeer) := by rw [← hW1]; simp [go_sem]
        have H4 : W1.cell? ⟨wr.heap.size, 4, none⟩ = some (.int .i64 asince) := by rw [← hW1]; simp [go_sem]
        have H5 : W1.cell? ⟨wr.heap.size, 5, none⟩ = some (.bool aowes) := by rw [← hW1]; simp [go_sem]
        have H6 : W1.cell? ⟨wr.heap.size, 6, none⟩ = some (.int .i64 ab) := by rw [← hW1]; simp [go_sem]
        have H7 : W1.cell? ⟨wr.heap.size, 7, none⟩ = some (.slice p0 axs.length p1) := by rw [← hW1]; simp [go_sem]
        have H8 : W1.cell? ⟨wr.heap.size, 8, none⟩ = some (.int .i64 anx) := by rw [← hW1]; simp [go_sem]
        have H9 : W1.cell? ⟨wr.heap.size, 9, none⟩ = some (.slice p2 ahs.length p3) := by rw [← hW1]; simp [go_sem]
        have H10 : W1.cell? ⟨wr.heap.size, 10, none⟩ = some (.string ao) := by rw [← hW1]; simp [go_sem]
        have H11 : W1.cell? ⟨wr.heap.size, 11, none⟩ = some (.slice p4 ars.length p5) := by rw [← hW1]; simp [go_sem]
        have L0 := cell_keep e14 AW
        have L1 := L0
        have BW : Below w.heap.size w W1 := kb hbel0 AW (by omega)
        have BV := hbel.trans (AW.mono (by omega))
        rw [hW1]
        clear hW1 AW x0 x1 x2 x3 x4 x5 x6 e0 e1 e2 e3 e4 e5 e6 e7 e8 e9 e10 e11 e12 e13 e14 e15 e16 e17 e18 e19 e20 e21 e22 e23 X1
        cases h1 : aup with
        | false =>
          rw [h1] at H1
          refine wp_region_held_drew (S := (fun w' => Below W1.heap.size W1 w')) (by kernel_rfl) ?_ (fun hHeld => ?_)
          · exact (Below.refl _ _).drew
          refine tkF 0 (some 17) ?_
          refine tkE 1 (some 18) ?_ ?_ ?_
          rotate_left
          · (intro w hSw; (have hT0 := cell_keep T0 hSw); (have hT1 := cell_keep T1 hSw); (have hT2 := cell_keep T2 hSw); (have hT3 := cell_keep T3 hSw); (have hT4 := cell_keep T4 hSw); (have hT5 := cell_keep T5 hSw); (have hT6 := cell_keep T6 hSw); (have hH0 := cell_keep H0 hSw); (have hH1 := cell_keep H1 hSw); (have hH2 := cell_keep H2 hSw); (have hH3 := cell_keep H3 hSw); (have hH4 := cell_keep H4 hSw); (have hH5 := cell_keep H5 hSw); (have hH6 := cell_keep H6 hSw); (have hH7 := cell_keep H7 hSw); (have hH8 := cell_keep H8 hSw); (have hH9 := cell_keep H9 hSw); (have hH10 := cell_keep H10 hSw); (have hH11 := cell_keep H11 hSw); (have hL0 := cell_keep L0 hSw); (have hL1 := cell_keep L1 hSw); go_simp <;> with_reducible rfl)
          refine tkF 2 (some 19) ?_
          refine tkF 3 (some 20) ?_
          refine tkS 4 (some 21) ?_
          refine tkS 5 (some 22) ?_
          refine tkS 6 (some 23) ?_
          refine tkS 7 (some 24) ?_
          refine tkS 8 (some 25) ?_
          refine tkS 9 (some 26) ?_
          refine tkS 10 (some 27) ?_
          refine tkS 11 (some 28) ?_
          refine tkS 12 (some 29) ?_
          refine tkS 13 (some 30) ?_
          refine tkF 14 (some 31) ?_
          refine tkF 15 (some 32) ?_
          refine tkS 16 (some 33) ?_
          refine tkS 17 (some 34) ?_
          refine tkS 18 (some 35) ?_
          refine tkS 19 (some 36) ?_
          refine tkS 20 (some 37) ?_
          refine tkF 21 (some 38) ?_
          refine tkF 22 (some 39) ?_
          refine tkS 23 (some 40) ?_
          refine tkS 24 (some 41) ?_
          refine tkS 25 (some 42) ?_
          refine tkS 26 (some 43) ?_
          refine tkS 27 (some 44) ?_
          refine tkF 28 (some 45) ?_
          refine tkF 29 (some 46) ?_
          refine tkS 30 (some 47) ?_
          refine tkS 31 (some 48) ?_
          refine tkS 32 (some 49) ?_
          refine tkS 33 (some 50) ?_
          refine tkF 34 (some 51) ?_
          refine tkF 35 (some 52) ?_
          refine tkS 36 (some 53) ?_
          refine tkS 37 (some 54) ?_
          refine tkS 38 (some 55) ?_
          refine tkS 39 (some 56) ?_
          refine tkS 40 (some 57) ?_
          refine tkF 41 (some 58) ?_
          refine wpAnyH_done (by kernel_rfl) ?_ _
          go_wp2
          go_ret
          exact ⟨ret_b (by rw [HO.out]; simp [restE, doneE, h1]), kb BW (by assumption) (Nat.le_refl _)⟩
        | true =>
          rw [h1] at H1
          by_cases h2 : apeer = clife
          case neg =>
            refine wp_region_held_drew (S := (fun w' => Below W1.heap.size W1 w')) (by kernel_rfl) ?_ (fun hHeld => ?_)
            · exact (Below.refl _ _).drew
            refine tkF 0 (some 17) ?_
            refine tkE 1 (some 18) ?_ ?_ ?_
            rotate_left
            · (intro w hSw; (have hT0 := cell_keep T0 hSw); (have hT1 := cell_keep T1 hSw); (have hT2 := cell_keep T2 hSw); (have hT3 := cell_keep T3 hSw); (have hT4 := cell_keep T4 hSw); (have hT5 := cell_keep T5 hSw); (have hT6 := cell_keep T6 hSw); (have hH0 := cell_keep H0 hSw); (have hH1 := cell_keep H1 hSw); (have hH2 := cell_keep H2 hSw); (have hH3 := cell_keep H3 hSw); (have hH4 := cell_keep H4 hSw); (have hH5 := cell_keep H5 hSw); (have hH6 := cell_keep H6 hSw); (have hH7 := cell_keep H7 hSw); (have hH8 := cell_keep H8 hSw); (have hH9 := cell_keep H9 hSw); (have hH10 := cell_keep H10 hSw); (have hH11 := cell_keep H11 hSw); (have hL0 := cell_keep L0 hSw); (have hL1 := cell_keep L1 hSw); go_simp <;> with_reducible rfl)
            refine tkF 2 (some 19) ?_
            refine tkF 3 (some 20) ?_
            refine tkF 4 (some 21) ?_
            refine tkE 5 (some 22) ?_ ?_ ?_
            rotate_left
            · (intro w hSw; (have hT0 := cell_keep T0 hSw); (have hT1 := cell_keep T1 hSw); (have hT2 := cell_keep T2 hSw); (have hT3 := cell_keep T3 hSw); (have hT4 := cell_keep T4 hSw); (have hT5 := cell_keep T5 hSw); (have hT6 := cell_keep T6 hSw); (have hH0 := cell_keep H0 hSw); (have hH1 := cell_keep H1 hSw); (have hH2 := cell_keep H2 hSw); (have hH3 := cell_keep H3 hSw); (have hH4 := cell_keep H4 hSw); (have hH5 := cell_keep H5 hSw); (have hH6 := cell_keep H6 hSw); (have hH7 := cell_keep H7 hSw); (have hH8 := cell_keep H8 hSw); (have hH9 := cell_keep H9 hSw); (have hH10 := cell_keep H10 hSw); (have hH11 := cell_keep H11 hSw); (have hL0 := cell_keep L0 hSw); (have hL1 := cell_keep L1 hSw); go_simp <;> with_reducible rfl)
            refine tkF 6 (some 23) ?_
            refine tkE 7 (some 24) ?_ ?_ ?_
            rotate_left
            · (intro w hSw; (have hT0 := cell_keep T0 hSw); (have hT1 := cell_keep T1 hSw); (have hT2 := cell_keep T2 hSw); (have hT3 := cell_keep T3 hSw); (have hT4 := cell_keep T4 hSw); (have hT5 := cell_keep T5 hSw); (have hT6 := cell_keep T6 hSw); (have hH0 := cell_keep H0 hSw); (have hH1 := cell_keep H1 hSw); (have hH2 := cell_keep H2 hSw); (have hH3 := cell_keep H3 hSw); (have hH4 := cell_keep H4 hSw); (have hH5 := cell_keep H5 hSw); (have hH6 := cell_keep H6 hSw); (have hH7 := cell_keep H7 hSw); (have hH8 := cell_keep H8 hSw); (have hH9 := cell_keep H9 hSw); (have hH10 := cell_keep H10 hSw); (have hH11 := cell_keep H11 hSw); (have hL0 := cell_keep L0 hSw); (have hL1 := cell_keep L1 hSw); go_simp <;> with_reducible rfl)
            refine tkF 8 (some 25) ?_
            refine tkF 9 (some 26) ?_
            refine tkE 10 (some 27) ?_ ?_ ?_
            rotate_left
            · (intro w hSw; go_simp; (first | with_reducible rfl | (rw [hw1, if_pos (by decide)]; show Result.ok (Next.value (.pointer (some ⟨g, 12, none⟩))) w = _; with_reducible rfl) | (rw [hw0, if_pos (by decide)]; show Result.ok (Next.value (.pointer (some ⟨g, 0, none⟩))) w = _; with_reducible rfl) | fail))
            refine tkF 11 (some 28) ?_
            refine tkE 12 (some 29) ?_ ?_ ?_
            rotate_left
            · (intro w hSw; (have hT0 := cell_keep T0 hSw); (have hT1 := cell_keep T1 hSw); (have hT2 := cell_keep T2 hSw); (have hT3 := cell_keep T3 hSw); (have hT4 := cell_keep T4 hSw); (have hT5 := cell_keep T5 hSw); (have hT6 := cell_keep T6 hSw); (have hH0 := cell_keep H0 hSw); (have hH1 := cell_keep H1 hSw); (have hH2 := cell_keep H2 hSw); (have hH3 := cell_keep H3 hSw); (have hH4 := cell_keep H4 hSw); (have hH5 := cell_keep H5 hSw); (have hH6 := cell_keep H6 hSw); (have hH7 := cell_keep H7 hSw); (have hH8 := cell_keep H8 hSw); (have hH9 := cell_keep H9 hSw); (have hH10 := cell_keep H10 hSw); (have hH11 := cell_keep H11 hSw); (have hL0 := cell_keep L0 hSw); (have hL1 := cell_keep L1 hSw); go_simp <;> with_reducible rfl)
            refine takeD (i := 13) (d := some 30) (v := .bool true) rfl rfl (by kernel_rfl) (by kernel_rfl) (by kernel_rfl) (fun _ _ _ h => h) (Or.inl ⟨by rfl, (by intro w hSw; first | (go_simp; done) | (go_simp; first | rfl | omega | assumption | rw [decide_eq_true h2] | simp [h2] | (simp; omega)))⟩) (by assumption) ?_
            simp only [Act.put, List.setIfInBounds_toArray, List.set_cons_zero, List.set_cons_succ]
            refine tkF 14 (some 31) ?_
            refine tkF 15 (some 32) ?_
            refine tkS 16 (some 33) ?_
            refine tkS 17 (some 34) ?_
            refine tkS 18 (some 35) ?_
            refine tkS 19 (some 36) ?_
            refine tkS 20 (some 37) ?_
            refine tkF 21 (some 38) ?_
            refine tkF 22 (some 39) ?_
            refine tkS 23 (some 40) ?_
            refine tkS 24 (some 41) ?_
            refine tkS 25 (some 42) ?_
            refine tkS 26 (some 43) ?_
            refine tkS 27 (some 44) ?_
            refine tkF 28 (some 45) ?_
            refine tkF 29 (some 46) ?_
            refine tkS 30 (some 47) ?_
            refine tkS 31 (some 48) ?_
            refine tkS 32 (some 49) ?_
            refine tkS 33 (some 50) ?_
            refine tkF 34 (some 51) ?_
            refine tkF 35 (some 52) ?_
            refine tkS 36 (some 53) ?_
            refine tkS 37 (some 54) ?_
            refine tkS 38 (some 55) ?_
            refine tkS 39 (some 56) ?_
            refine tkS 40 (some 57) ?_
            refine tkF 41 (some 58) ?_
            refine wpAnyH_done (by kernel_rfl) ?_ _
            go_wp2
            go_ret
            exact ⟨ret_b (by rw [HO.out]; simp [restE, doneE, h2]), kb BW (by assumption) (Nat.le_refl _)⟩
          rw [h2] at H3
          by_cases h3 : axs.length = 0
          case neg =>
            have h3' : (0 : Int) < axs.length := by omega
            refine wp_region_held_drew (S := (fun w' => Below W1.heap.size W1 w')) (by kernel_rfl) ?_ (fun hHeld => ?_)
            · exact (Below.refl _ _).drew
            refine tkF 0 (some 17) ?_
            refine tkE 1 (some 18) ?_ ?_ ?_
            rotate_left
            · (intro w hSw; (have hT0 := cell_keep T0 hSw); (have hT1 := cell_keep T1 hSw); (have hT2 := cell_keep T2 hSw); (have hT3 := cell_keep T3 hSw); (have hT4 := cell_keep T4 hSw); (have hT5 := cell_keep T5 hSw); (have hT6 := cell_keep T6 hSw); (have hH0 := cell_keep H0 hSw); (have hH1 := cell_keep H1 hSw); (have hH2 := cell_keep H2 hSw); (have hH3 := cell_keep H3 hSw); (have hH4 := cell_keep H4 hSw); (have hH5 := cell_keep H5 hSw); (have hH6 := cell_keep H6 hSw); (have hH7 := cell_keep H7 hSw); (have hH8 := cell_keep H8 hSw); (have hH9 := cell_keep H9 hSw); (have hH10 := cell_keep H10 hSw); (have hH11 := cell_keep H11 hSw); (have hL0 := cell_keep L0 hSw); (have hL1 := cell_keep L1 hSw); go_simp <;> with_reducible rfl)
            refine tkF 2 (some 19) ?_
            refine tkF 3 (some 20) ?_
            refine tkF 4 (some 21) ?_
            refine tkE 5 (some 22) ?_ ?_ ?_
            rotate_left
            · (intro w hSw; (have hT0 := cell_keep T0 hSw); (have hT1 := cell_keep T1 hSw); (have hT2 := cell_keep T2 hSw); (have hT3 := cell_keep T3 hSw); (have hT4 := cell_keep T4 hSw); (have hT5 := cell_keep T5 hSw); (have hT6 := cell_keep T6 hSw); (have hH0 := cell_keep H0 hSw); (have hH1 := cell_keep H1 hSw); (have hH2 := cell_keep H2 hSw); (have hH3 := cell_keep H3 hSw); (have hH4 := cell_keep H4 hSw); (have hH5 := cell_keep H5 hSw); (have hH6 := cell_keep H6 hSw); (have hH7 := cell_keep H7 hSw); (have hH8 := cell_keep H8 hSw); (have hH9 := cell_keep H9 hSw); (have hH10 := cell_keep H10 hSw); (have hH11 := cell_keep H11 hSw); (have hL0 := cell_keep L0 hSw); (have hL1 := cell_keep L1 hSw); go_simp <;> with_reducible rfl)
            refine tkF 6 (some 23) ?_
            refine tkE 7 (some 24) ?_ ?_ ?_
            rotate_left
            · (intro w hSw; (have hT0 := cell_keep T0 hSw); (have hT1 := cell_keep T1 hSw); (have hT2 := cell_keep T2 hSw); (have hT3 := cell_keep T3 hSw); (have hT4 := cell_keep T4 hSw); (have hT5 := cell_keep T5 hSw); (have hT6 := cell_keep T6 hSw); (have hH0 := cell_keep H0 hSw); (have hH1 := cell_keep H1 hSw); (have hH2 := cell_keep H2 hSw); (have hH3 := cell_keep H3 hSw); (have hH4 := cell_keep H4 hSw); (have hH5 := cell_keep H5 hSw); (have hH6 := cell_keep H6 hSw); (have hH7 := cell_keep H7 hSw); (have hH8 := cell_keep H8 hSw); (have hH9 := cell_keep H9 hSw); (have hH10 := cell_keep H10 hSw); (have hH11 := cell_keep H11 hSw); (have hL0 := cell_keep L0 hSw); (have hL1 := cell_keep L1 hSw); go_simp <;> with_reducible rfl)
            refine tkF 8 (some 25) ?_
            refine tkF 9 (some 26) ?_
            refine tkE 10 (some 27) ?_ ?_ ?_
            rotate_left
            · (intro w hSw; go_simp; (first | with_reducible rfl | (rw [hw1, if_pos (by decide)]; show Result.ok (Next.value (.pointer (some ⟨g, 12, none⟩))) w = _; with_reducible rfl) | (rw [hw0, if_pos (by decide)]; show Result.ok (Next.value (.pointer (some ⟨g, 0, none⟩))) w = _; with_reducible rfl) | fail))
            refine tkF 11 (some 28) ?_
            refine tkE 12 (some 29) ?_ ?_ ?_
            rotate_left
            · (intro w hSw; (have hT0 := cell_keep T0 hSw); (have hT1 := cell_keep T1 hSw); (have hT2 := cell_keep T2 hSw); (have hT3 := cell_keep T3 hSw); (have hT4 := cell_keep T4 hSw); (have hT5 := cell_keep T5 hSw); (have hT6 := cell_keep T6 hSw); (have hH0 := cell_keep H0 hSw); (have hH1 := cell_keep H1 hSw); (have hH2 := cell_keep H2 hSw); (have hH3 := cell_keep H3 hSw); (have hH4 := cell_keep H4 hSw); (have hH5 := cell_keep H5 hSw); (have hH6 := cell_keep H6 hSw); (have hH7 := cell_keep H7 hSw); (have hH8 := cell_keep H8 hSw); (have hH9 := cell_keep H9 hSw); (have hH10 := cell_keep H10 hSw); (have hH11 := cell_keep H11 hSw); (have hL0 := cell_keep L0 hSw); (have hL1 := cell_keep L1 hSw); go_simp <;> with_reducible rfl)
            refine takeD (i := 13) (d := some 30) (v := .bool false) rfl rfl (by kernel_rfl) (by kernel_rfl) (by kernel_rfl) (fun _ _ _ h => h) (Or.inl ⟨by rfl, (by intro w hSw; first | (go_simp; done) | (go_simp; first | rfl | simp))⟩) (by assumption) ?_
            simp only [Act.put, List.setIfInBounds_toArray, List.set_cons_zero, List.set_cons_succ]
            refine tkF 14 (some 31) ?_
            refine tkF 15 (some 32) ?_
            refine tkF 16 (some 33) ?_
            refine tkF 17 (some 34) ?_
            refine tkE 18 (some 35) ?_ ?_ ?_
            rotate_left
            · (intro w hSw; (have hT0 := cell_keep T0 hSw); (have hT1 := cell_keep T1 hSw); (have hT2 := cell_keep T2 hSw); (have hT3 := cell_keep T3 hSw); (have hT4 := cell_keep T4 hSw); (have hT5 := cell_keep T5 hSw); (have hT6 := cell_keep T6 hSw); (have hH0 := cell_keep H0 hSw); (have hH1 := cell_keep H1 hSw); (have hH2 := cell_keep H2 hSw); (have hH3 := cell_keep H3 hSw); (have hH4 := cell_keep H4 hSw); (have hH5 := cell_keep H5 hSw); (have hH6 := cell_keep H6 hSw); (have hH7 := cell_keep H7 hSw); (have hH8 := cell_keep H8 hSw); (have hH9 := cell_keep H9 hSw); (have hH10 := cell_keep H10 hSw); (have hH11 := cell_keep H11 hSw); (have hL0 := cell_keep L0 hSw); (have hL1 := cell_keep L1 hSw); go_simp <;> with_reducible rfl)
            refine tkF 19 (some 36) ?_
            refine takeD (i := 20) (d := some 37) (v := .bool true) rfl rfl (by kernel_rfl) (by kernel_rfl) (by kernel_rfl) (fun _ _ _ h => h) (Or.inl ⟨by rfl, (by intro w hSw; first | (go_simp; done) | (go_simp; first | rfl | omega | assumption | rw [decide_eq_true h3'] | simp [h3'] | (simp; omega)))⟩) (by assumption) ?_
            simp only [Act.put, List.setIfInBounds_toArray, List.set_cons_zero, List.set_cons_succ]
            refine tkF 21 (some 38) ?_
            refine tkF 22 (some 39) ?_
            refine tkS 23 (some 40) ?_
            refine tkS 24 (some 41) ?_
            refine tkS 25 (some 42) ?_
            refine tkS 26 (some 43) ?_
            refine tkS 27 (some 44) ?_
            refine tkF 28 (some 45) ?_
            refine tkF 29 (some 46) ?_
            refine tkS 30 (some 47) ?_
            refine tkS 31 (some 48) ?_
            refine tkS 32 (some 49) ?_
            refine tkS 33 (some 50) ?_
            refine tkF 34 (some 51) ?_
            refine tkF 35 (some 52) ?_
            refine tkS 36 (some 53) ?_
            refine tkS 37 (some 54) ?_
            refine tkS 38 (some 55) ?_
            refine tkS 39 (some 56) ?_
            refine tkS 40 (some 57) ?_
            refine tkF 41 (some 58) ?_
            refine wpAnyH_done (by kernel_rfl) ?_ _
            go_wp2
            go_ret
            exact ⟨ret_b (by rw [HO.out]; simp [restE, doneE, h3]), kb BW (by assumption) (Nat.le_refl _)⟩
          rw [h3] at H7
          by_cases h4 : ahs.length = 0
          case neg =>
            have h4' : (0 : Int) < ahs.length := by omega
            refine wp_region_held_drew (S := (fun w' => Below W1.heap.size W1 w')) (by kernel_rfl) ?_ (fun hHeld => ?_)
            · exact (Below.refl _ _).drew
            refine tkF 0 (some 17) ?_
            refine tkE 1 (some 18) ?_ ?_ ?_
            rotate_left
            · (intro w hSw; (have hT0 := cell_keep T0 hSw); (have hT1 := cell_keep T1 hSw); (have hT2 := cell_keep T2 hSw); (have hT3 := cell_keep T3 hSw); (have hT4 := cell_keep T4 hSw); (have hT5 := cell_keep T5 hSw); (have hT6 := cell_keep T6 hSw); (have hH0 := cell_keep H0 hSw); (have hH1 := cell_keep H1 hSw); (have hH2 := cell_keep H2 hSw); (have hH3 := cell_keep H3 hSw); (have hH4 := cell_keep H4 hSw); (have hH5 := cell_keep H5 hSw); (have hH6 := cell_keep H6 hSw); (have hH7 := cell_keep H7 hSw); (have hH8 := cell_keep H8 hSw); (have hH9 := cell_keep H9 hSw); (have hH10 := cell_keep H10 hSw); (have hH11 := cell_keep H11 hSw); (have hL0 := cell_keep L0 hSw); (have hL1 := cell_keep L1 hSw); go_simp <;> with_reducible rfl)
            refine tkF 2 (some 19) ?_
            refine tkF 3 (some 20) ?_
            refine tkF 4 (some 21) ?_
            refine tkE 5 (some 22) ?_ ?_ ?_
            rotate_left
            · (intro w hSw; (have hT0 := cell_keep T0 hSw); (have hT1 := cell_keep T1 hSw); (have hT2 := cell_keep T2 hSw); (have hT3 := cell_keep T3 hSw); (have hT4 := cell_keep T4 hSw); (have hT5 := cell_keep T5 hSw); (have hT6 := cell_keep T6 hSw); (have hH0 := cell_keep H0 hSw); (have hH1 := cell_keep H1 hSw); (have hH2 := cell_keep H2 hSw); (have hH3 := cell_keep H3 hSw); (have hH4 := cell_keep H4 hSw); (have hH5 := cell_keep H5 hSw); (have hH6 := cell_keep H6 hSw); (have hH7 := cell_keep H7 hSw); (have hH8 := cell_keep H8 hSw); (have hH9 := cell_keep H9 hSw); (have hH10 := cell_keep H10 hSw); (have hH11 := cell_keep H11 hSw); (have hL0 := cell_keep L0 hSw); (have hL1 := cell_keep L1 hSw); go_simp <;> with_reducible rfl)
            refine tkF 6 (some 23) ?_
            refine tkE 7 (some 24) ?_ ?_ ?_
            rotate_left
            · (intro w hSw; (have hT0 := cell_keep T0 hSw); (have hT1 := cell_keep T1 hSw); (have hT2 := cell_keep T2 hSw); (have hT3 := cell_keep T3 hSw); (have hT4 := cell_keep T4 hSw); (have hT5 := cell_keep T5 hSw); (have hT6 := cell_keep T6 hSw); (have hH0 := cell_keep H0 hSw); (have hH1 := cell_keep H1 hSw); (have hH2 := cell_keep H2 hSw); (have hH3 := cell_keep H3 hSw); (have hH4 := cell_keep H4 hSw); (have hH5 := cell_keep H5 hSw); (have hH6 := cell_keep H6 hSw); (have hH7 := cell_keep H7 hSw); (have hH8 := cell_keep H8 hSw); (have hH9 := cell_keep H9 hSw); (have hH10 := cell_keep H10 hSw); (have hH11 := cell_keep H11 hSw); (have hL0 := cell_keep L0 hSw); (have hL1 := cell_keep L1 hSw); go_simp <;> with_reducible rfl)
            refine tkF 8 (some 25) ?_
            refine tkF 9 (some 26) ?_
            refine tkE 10 (some 27) ?_ ?_ ?_
            rotate_left
            · (intro w hSw; go_simp; (first | with_reducible rfl | (rw [hw1, if_pos (by decide)]; show Result.ok (Next.value (.pointer (some ⟨g, 12, none⟩))) w = _; with_reducible rfl) | (rw [hw0, if_pos (by decide)]; show Result.ok (Next.value (.pointer (some ⟨g, 0, none⟩))) w = _; with_reducible rfl) | fail))
            refine tkF 11 (some 28) ?_
            refine tkE 12 (some 29) ?_ ?_ ?_
            rotate_left
            · (intro w hSw; (have hT0 := cell_keep T0 hSw); (have hT1 := cell_keep T1 hSw); (have hT2 := cell_keep T2 hSw); (have hT3 := cell_keep T3 hSw); (have hT4 := cell_keep T4 hSw); (have hT5 := cell_keep T5 hSw); (have hT6 := cell_keep T6 hSw); (have hH0 := cell_keep H0 hSw); (have hH1 := cell_keep H1 hSw); (have hH2 := cell_keep H2 hSw); (have hH3 := cell_keep H3 hSw); (have hH4 := cell_keep H4 hSw); (have hH5 := cell_keep H5 hSw); (have hH6 := cell_keep H6 hSw); (have hH7 := cell_keep H7 hSw); (have hH8 := cell_keep H8 hSw); (have hH9 := cell_keep H9 hSw); (have hH10 := cell_keep H10 hSw); (have hH11 := cell_keep H11 hSw); (have hL0 := cell_keep L0 hSw); (have hL1 := cell_keep L1 hSw); go_simp <;> with_reducible rfl)
            refine takeD (i := 13) (d := some 30) (v := .bool false) rfl rfl (by kernel_rfl) (by kernel_rfl) (by kernel_rfl) (fun _ _ _ h => h) (Or.inl ⟨by rfl, (by intro w hSw; first | (go_simp; done) | (go_simp; first | rfl | simp))⟩) (by assumption) ?_
            simp only [Act.put, List.setIfInBounds_toArray, List.set_cons_zero, List.set_cons_succ]
            refine tkF 14 (some 31) ?_
            refine tkF 15 (some 32) ?_
            refine tkF 16 (some 33) ?_
            refine tkF 17 (some 34) ?_
            refine tkE 18 (some 35) ?_ ?_ ?_
            rotate_left
            · (intro w hSw; (have hT0 := cell_keep T0 hSw); (have hT1 := cell_keep T1 hSw); (have hT2 := cell_keep T2 hSw); (have hT3 := cell_keep T3 hSw); (have hT4 := cell_keep T4 hSw); (have hT5 := cell_keep T5 hSw); (have hT6 := cell_keep T6 hSw); (have hH0 := cell_keep H0 hSw); (have hH1 := cell_keep H1 hSw); (have hH2 := cell_keep H2 hSw); (have hH3 := cell_keep H3 hSw); (have hH4 := cell_keep H4 hSw); (have hH5 := cell_keep H5 hSw); (have hH6 := cell_keep H6 hSw); (have hH7 := cell_keep H7 hSw); (have hH8 := cell_keep H8 hSw); (have hH9 := cell_keep H9 hSw); (have hH10 := cell_keep H10 hSw); (have hH11 := cell_keep H11 hSw); (have hL0 := cell_keep L0 hSw); (have hL1 := cell_keep L1 hSw); go_simp <;> with_reducible rfl)
            refine tkF 19 (some 36) ?_
            refine takeD (i := 20) (d := some 37) (v := .bool false) rfl rfl (by kernel_rfl) (by kernel_rfl) (by kernel_rfl) (fun _ _ _ h => h) (Or.inl ⟨by rfl, (by intro w hSw; first | (go_simp; done) | (go_simp; first | rfl | simp))⟩) (by assumption) ?_
            simp only [Act.put, List.setIfInBounds_toArray, List.set_cons_zero, List.set_cons_succ]
            refine tkF 21 (some 38) ?_
            refine tkF 22 (some 39) ?_
            refine tkF 23 (some 40) ?_
            refine tkF 24 (some 41) ?_
            refine tkE 25 (some 42) ?_ ?_ ?_
            rotate_left
            · (intro w hSw; (have hT0 := cell_keep T0 hSw); (have hT1 := cell_keep T1 hSw); (have hT2 := cell_keep T2 hSw); (have hT3 := cell_keep T3 hSw); (have hT4 := cell_keep T4 hSw); (have hT5 := cell_keep T5 hSw); (have hT6 := cell_keep T6 hSw); (have hH0 := cell_keep H0 hSw); (have hH1 := cell_keep H1 hSw); (have hH2 := cell_keep H2 hSw); (have hH3 := cell_keep H3 hSw); (have hH4 := cell_keep H4 hSw); (have hH5 := cell_keep H5 hSw); (have hH6 := cell_keep H6 hSw); (have hH7 := cell_keep H7 hSw); (have hH8 := cell_keep H8 hSw); (have hH9 := cell_keep H9 hSw); (have hH10 := cell_keep H10 hSw); (have hH11 := cell_keep H11 hSw); (have hL0 := cell_keep L0 hSw); (have hL1 := cell_keep L1 hSw); go_simp <;> with_reducible rfl)
            refine tkF 26 (some 43) ?_
            refine takeD (i := 27) (d := some 44) (v := .bool true) rfl rfl (by kernel_rfl) (by kernel_rfl) (by kernel_rfl) (fun _ _ _ h => h) (Or.inl ⟨by rfl, (by intro w hSw; first | (go_simp; done) | (go_simp; first | rfl | omega | assumption | rw [decide_eq_true h4'] | simp [h4'] | (simp; omega)))⟩) (by assumption) ?_
            simp only [Act.put, List.setIfInBounds_toArray, List.set_cons_zero, List.set_cons_succ]
            refine tkF 28 (some 45) ?_
            refine tkF 29 (some 46) ?_
            refine tkS 30 (some 47) ?_
            refine tkS 31 (some 48) ?_
            refine tkS 32 (some 49) ?_
            refine tkS 33 (some 50) ?_
            refine tkF 34 (some 51) ?_
            refine tkF 35 (some 52) ?_
            refine tkS 36 (some 53) ?_
            refine tkS 37 (some 54) ?_
            refine tkS 38 (some 55) ?_
            refine tkS 39 (some 56) ?_
            refine tkS 40 (some 57) ?_
            refine tkF 41 (some 58) ?_
            refine wpAnyH_done (by kernel_rfl) ?_ _
            go_wp2
            go_ret
            exact ⟨ret_b (by rw [HO.out]; simp [restE, doneE, h4]), kb BW (by assumption) (Nat.le_refl _)⟩
          rw [h4] at H9
          by_cases h5 : ao.size = 0
          case neg =>
            have h5' : ¬ ao.toList = [] := not_nil h5
            refine wp_region_held_drew (S := (fun w' => Below W1.heap.size W1 w')) (by kernel_rfl) ?_ (fun hHeld => ?_)
            · exact (Below.refl _ _).drew
            refine tkF 0 (some 17) ?_
            refine tkE 1 (some 18) ?_ ?_ ?_
            rotate_left
            · (intro w hSw; (have hT0 := cell_keep T0 hSw); (have hT1 := cell_keep T1 hSw); (have hT2 := cell_keep T2 hSw); (have hT3 := cell_keep T3 hSw); (have hT4 := cell_keep T4 hSw); (have hT5 := cell_keep T5 hSw); (have hT6 := cell_keep T6 hSw); (have hH0 := cell_keep H0 hSw); (have hH1 := cell_keep H1 hSw); (have hH2 := cell_keep H2 hSw); (have hH3 := cell_keep H3 hSw); (have hH4 := cell_keep H4 hSw); (have hH5 := cell_keep H5 hSw); (have hH6 := cell_keep H6 hSw); (have hH7 := cell_keep H7 hSw); (have hH8 := cell_keep H8 hSw); (have hH9 := cell_keep H9 hSw); (have hH10 := cell_keep H10 hSw); (have hH11 := cell_keep H11 hSw); (have hL0 := cell_keep L0 hSw); (have hL1 := cell_keep L1 hSw); go_simp <;> with_reducible rfl)
            refine tkF 2 (some 19) ?_
            refine tkF 3 (some 20) ?_
            refine tkF 4 (some 21) ?_
            refine tkE 5 (some 22) ?_ ?_ ?_
            rotate_left
            · (intro w hSw; (have hT0 := cell_keep T0 hSw); (have hT1 := cell_keep T1 hSw); (have hT2 := cell_keep T2 hSw); (have hT3 := cell_keep T3 hSw); (have hT4 := cell_keep T4 hSw); (have hT5 := cell_keep T5 hSw); (have hT6 := cell_keep T6 hSw); (have hH0 := cell_keep H0 hSw); (have hH1 := cell_keep H1 hSw); (have hH2 := cell_keep H2 hSw); (have hH3 := cell_keep H3 hSw); (have hH4 := cell_keep H4 hSw); (have hH5 := cell_keep H5 hSw); (have hH6 := cell_keep H6 hSw); (have hH7 := cell_keep H7 hSw); (have hH8 := cell_keep H8 hSw); (have hH9 := cell_keep H9 hSw); (have hH10 := cell_keep H10 hSw); (have hH11 := cell_keep H11 hSw); (have hL0 := cell_keep L0 hSw); (have hL1 := cell_keep L1 hSw); go_simp <;> with_reducible rfl)
            refine tkF 6 (some 23) ?_
            refine tkE 7 (some 24) ?_ ?_ ?_
            rotate_left
            · (intro w hSw; (have hT0 := cell_keep T0 hSw); (have hT1 := cell_keep T1 hSw); (have hT2 := cell_keep T2 hSw); (have hT3 := cell_keep T3 hSw); (have hT4 := cell_keep T4 hSw); (have hT5 := cell_keep T5 hSw); (have hT6 := cell_keep T6 hSw); (have hH0 := cell_keep H0 hSw); (have hH1 := cell_keep H1 hSw); (have hH2 := cell_keep H2 hSw); (have hH3 := cell_keep H3 hSw); (have hH4 := cell_keep H4 hSw); (have hH5 := cell_keep H5 hSw); (have hH6 := cell_keep H6 hSw); (have hH7 := cell_keep H7 hSw); (have hH8 := cell_keep H8 hSw); (have hH9 := cell_keep H9 hSw); (have hH10 := cell_keep H10 hSw); (have hH11 := cell_keep H11 hSw); (have hL0 := cell_keep L0 hSw); (have hL1 := cell_keep L1 hSw); go_simp <;> with_reducible rfl)
            refine tkF 8 (some 25) ?_
            refine tkF 9 (some 26) ?_
            refine tkE 10 (some 27) ?_ ?_ ?_
            rotate_left
            · (intro w hSw; go_simp; (first | with_reducible rfl | (rw [hw1, if_pos (by decide)]; show Result.ok (Next.value (.pointer (some ⟨g, 12, none⟩))) w = _; with_reducible rfl) | (rw [hw0, if_pos (by decide)]; show Result.ok (Next.value (.pointer (some ⟨g, 0, none⟩))) w = _; with_reducible rfl) | fail))
            refine tkF 11 (some 28) ?_
            refine tkE 12 (some 29) ?_ ?_ ?_
            rotate_left
            · (intro w hSw; (have hT0 := cell_keep T0 hSw); (have hT1 := cell_keep T1 hSw); (have hT2 := cell_keep T2 hSw); (have hT3 := cell_keep T3 hSw); (have hT4 := cell_keep T4 hSw); (have hT5 := cell_keep T5 hSw); (have hT6 := cell_keep T6 hSw); (have hH0 := cell_keep H0 hSw); (have hH1 := cell_keep H1 hSw); (have hH2 := cell_keep H2 hSw); (have hH3 := cell_keep H3 hSw); (have hH4 := cell_keep H4 hSw); (have hH5 := cell_keep H5 hSw); (have hH6 := cell_keep H6 hSw); (have hH7 := cell_keep H7 hSw); (have hH8 := cell_keep H8 hSw); (have hH9 := cell_keep H9 hSw); (have hH10 := cell_keep H10 hSw); (have hH11 := cell_keep H11 hSw); (have hL0 := cell_keep L0 hSw); (have hL1 := cell_keep L1 hSw); go_simp <;> with_reducible rfl)
            refine takeD (i := 13) (d := some 30) (v := .bool false) rfl rfl (by kernel_rfl) (by kernel_rfl) (by kernel_rfl) (fun _ _ _ h => h) (Or.inl ⟨by rfl, (by intro w hSw; first | (go_simp; done) | (go_simp; first | rfl | simp))⟩) (by assumption) ?_
            simp only [Act.put, List.setIfInBounds_toArray, List.set_cons_zero, List.set_cons_succ]
            refine tkF 14 (some 31) ?_
            refine tkF 15 (some 32) ?_
            refine tkF 16 (some 33) ?_
            refine tkF 17 (some 34) ?_
            refine tkE 18 (some 35) ?_ ?_ ?_
            rotate_left
            · (intro w hSw; (have hT0 := cell_keep T0 hSw); (have hT1 := cell_keep T1 hSw); (have hT2 := cell_keep T2 hSw); (have hT3 := cell_keep T3 hSw); (have hT4 := cell_keep T4 hSw); (have hT5 := cell_keep T5 hSw); (have hT6 := cell_keep T6 hSw); (have hH0 := cell_keep H0 hSw); (have hH1 := cell_keep H1 hSw); (have hH2 := cell_keep H2 hSw); (have hH3 := cell_keep H3 hSw); (have hH4 := cell_keep H4 hSw); (have hH5 := cell_keep H5 hSw); (have hH6 := cell_keep H6 hSw); (have hH7 := cell_keep H7 hSw); (have hH8 := cell_keep H8 hSw); (have hH9 := cell_keep H9 hSw); (have hH10 := cell_keep H10 hSw); (have hH11 := cell_keep H11 hSw); (have hL0 := cell_keep L0 hSw); (have hL1 := cell_keep L1 hSw); go_simp <;> with_reducible rfl)
            refine tkF 19 (some 36) ?_
            refine takeD (i := 20) (d := some 37) (v := .bool false) rfl rfl (by kernel_rfl) (by kernel_rfl) (by kernel_rfl) (fun _ _ _ h => h) (Or.inl ⟨by rfl, (by intro w hSw; first | (go_simp; done) | (go_simp; first | rfl | simp))⟩) (by assumption) ?_
            simp only [Act.put, List.setIfInBounds_toArray, List.set_cons_zero, List.set_cons_succ]
            refine tkF 21 (some 38) ?_
            refine tkF 22 (some 39) ?_
            refine tkF 23 (some 40) ?_
            refine tkF 24 (some 41) ?_
            refine tkE 25 (some 42) ?_ ?_ ?_
            rotate_left
            · (intro w hSw; (have hT0 := cell_keep T0 hSw); (have hT1 := cell_keep T1 hSw); (have hT2 := cell_keep T2 hSw); (have hT3 := cell_keep T3 hSw); (have hT4 := cell_keep T4 hSw); (have hT5 := cell_keep T5 hSw); (have hT6 := cell_keep T6 hSw); (have hH0 := cell_keep H0 hSw); (have hH1 := cell_keep H1 hSw); (have hH2 := cell_keep H2 hSw); (have hH3 := cell_keep H3 hSw); (have hH4 := cell_keep H4 hSw); (have hH5 := cell_keep H5 hSw); (have hH6 := cell_keep H6 hSw); (have hH7 := cell_keep H7 hSw); (have hH8 := cell_keep H8 hSw); (have hH9 := cell_keep H9 hSw); (have hH10 := cell_keep H10 hSw); (have hH11 := cell_keep H11 hSw); (have hL0 := cell_keep L0 hSw); (have hL1 := cell_keep L1 hSw); go_simp <;> with_reducible rfl)
            refine tkF 26 (some 43) ?_
            refine takeD (i := 27) (d := some 44) (v := .bool false) rfl rfl (by kernel_rfl) (by kernel_rfl) (by kernel_rfl) (fun _ _ _ h => h) (Or.inl ⟨by rfl, (by intro w hSw; first | (go_simp; done) | (go_simp; first | rfl | simp))⟩) (by assumption) ?_
            simp only [Act.put, List.setIfInBounds_toArray, List.set_cons_zero, List.set_cons_succ]
            refine tkF 28 (some 45) ?_
            refine tkF 29 (some 46) ?_
            refine tkF 30 (some 47) ?_
            refine tkF 31 (some 48) ?_
            refine tkE 32 (some 49) ?_ ?_ ?_
            rotate_left
            · (intro w hSw; (have hT0 := cell_keep T0 hSw); (have hT1 := cell_keep T1 hSw); (have hT2 := cell_keep T2 hSw); (have hT3 := cell_keep T3 hSw); (have hT4 := cell_keep T4 hSw); (have hT5 := cell_keep T5 hSw); (have hT6 := cell_keep T6 hSw); (have hH0 := cell_keep H0 hSw); (have hH1 := cell_keep H1 hSw); (have hH2 := cell_keep H2 hSw); (have hH3 := cell_keep H3 hSw); (have hH4 := cell_keep H4 hSw); (have hH5 := cell_keep H5 hSw); (have hH6 := cell_keep H6 hSw); (have hH7 := cell_keep H7 hSw); (have hH8 := cell_keep H8 hSw); (have hH9 := cell_keep H9 hSw); (have hH10 := cell_keep H10 hSw); (have hH11 := cell_keep H11 hSw); (have hL0 := cell_keep L0 hSw); (have hL1 := cell_keep L1 hSw); go_simp <;> with_reducible rfl)
            refine takeD (i := 33) (d := some 50) (v := .bool true) rfl rfl (by kernel_rfl) (by kernel_rfl) (by kernel_rfl) (fun _ _ _ h => h) (Or.inl ⟨by rfl, (by intro w hSw; first | (go_simp; done) | (go_simp; first | rfl | omega | assumption | rw [decide_eq_true h5'] | simp [h5'] | (simp; omega)))⟩) (by assumption) ?_
            simp only [Act.put, List.setIfInBounds_toArray, List.set_cons_zero, List.set_cons_succ]
            refine tkF 34 (some 51) ?_
            refine tkF 35 (some 52) ?_
            refine tkS 36 (some 53) ?_
            refine tkS 37 (some 54) ?_
            refine tkS 38 (some 55) ?_
            refine tkS 39 (some 56) ?_
            refine tkS 40 (some 57) ?_
            refine tkF 41 (some 58) ?_
            refine wpAnyH_done (by kernel_rfl) ?_ _
            go_wp2
            go_ret
            exact ⟨ret_b (by rw [HO.out]; simp [restE, doneE, h5]), kb BW (by assumption) (Nat.le_refl _)⟩
          rw [str_nil h5] at H10
          by_cases h6 : ars.length = 0
          case neg =>
            have h6' : (0 : Int) < ars.length := by omega
            refine wp_region_held_drew (S := (fun w' => Below W1.heap.size W1 w')) (by kernel_rfl) ?_ (fun hHeld => ?_)
            · exact (Below.refl _ _).drew
            refine tkF 0 (some 17) ?_
            refine tkE 1 (some 18) ?_ ?_ ?_
            rotate_left
            · (intro w hSw; (have hT0 := cell_keep T0 hSw); (have hT1 := cell_keep T1 hSw); (have hT2 := cell_keep T2 hSw); (have hT3 := cell_keep T3 hSw); (have hT4 := cell_keep T4 hSw); (have hT5 := cell_keep T5 hSw); (have hT6 := cell_keep T6 hSw); (have hH0 := cell_keep H0 hSw); (have hH1 := cell_keep H1 hSw); (have hH2 := cell_keep H2 hSw); (have hH3 := cell_keep H3 hSw); (have hH4 := cell_keep H4 hSw); (have hH5 := cell_keep H5 hSw); (have hH6 := cell_keep H6 hSw); (have hH7 := cell_keep H7 hSw); (have hH8 := cell_keep H8 hSw); (have hH9 := cell_keep H9 hSw); (have hH10 := cell_keep H10 hSw); (have hH11 := cell_keep H11 hSw); (have hL0 := cell_keep L0 hSw); (have hL1 := cell_keep L1 hSw); go_simp <;> with_reducible rfl)
            refine tkF 2 (some 19) ?_
            refine tkF 3 (some 20) ?_
            refine tkF 4 (some 21) ?_
            refine tkE 5 (some 22) ?_ ?_ ?_
            rotate_left
            · (intro w hSw; (have hT0 := cell_keep T0 hSw); (have hT1 := cell_keep T1 hSw); (have hT2 := cell_keep T2 hSw); (have hT3 := cell_keep T3 hSw); (have hT4 := cell_keep T4 hSw); (have hT5 := cell_keep T5 hSw); (have hT6 := cell_keep T6 hSw); (have hH0 := cell_keep H0 hSw); (have hH1 := cell_keep H1 hSw); (have hH2 := cell_keep H2 hSw); (have hH3 := cell_keep H3 hSw); (have hH4 := cell_keep H4 hSw); (have hH5 := cell_keep H5 hSw); (have hH6 := cell_keep H6 hSw); (have hH7 := cell_keep H7 hSw); (have hH8 := cell_keep H8 hSw); (have hH9 := cell_keep H9 hSw); (have hH10 := cell_keep H10 hSw); (have hH11 := cell_keep H11 hSw); (have hL0 := cell_keep L0 hSw); (have hL1 := cell_keep L1 hSw); go_simp <;> with_reducible rfl)
            refine tkF 6 (some 23) ?_
            refine tkE 7 (some 24) ?_ ?_ ?_
            rotate_left
            · (intro w hSw; (have hT0 := cell_keep T0 hSw); (have hT1 := cell_keep T1 hSw); (have hT2 := cell_keep T2 hSw); (have hT3 := cell_keep T3 hSw); (have hT4 := cell_keep T4 hSw); (have hT5 := cell_keep T5 hSw); (have hT6 := cell_keep T6 hSw); (have hH0 := cell_keep H0 hSw); (have hH1 := cell_keep H1 hSw); (have hH2 := cell_keep H2 hSw); (have hH3 := cell_keep H3 hSw); (have hH4 := cell_keep H4 hSw); (have hH5 := cell_keep H5 hSw); (have hH6 := cell_keep H6 hSw); (have hH7 := cell_keep H7 hSw); (have hH8 := cell_keep H8 hSw); (have hH9 := cell_keep H9 hSw); (have hH10 := cell_keep H10 hSw); (have hH11 := cell_keep H11 hSw); (have hL0 := cell_keep L0 hSw); (have hL1 := cell_keep L1 hSw); go_simp <;> with_reducible rfl)
            refine tkF 8 (some 25) ?_
            refine tkF 9 (some 26) ?_
            refine tkE 10 (some 27) ?_ ?_ ?_
            rotate_left
            · (intro w hSw; go_simp; (first | with_reducible rfl | (rw [hw1, if_pos (by decide)]; show Result.ok (Next.value (.pointer (some ⟨g, 12, none⟩))) w = _; with_reducible rfl) | (rw [hw0, if_pos (by decide)]; show Result.ok (Next.value (.pointer (some ⟨g, 0, none⟩))) w = _; with_reducible rfl) | fail))
            refine tkF 11 (some 28) ?_
            refine tkE 12 (some 29) ?_ ?_ ?_
            rotate_left
            · (intro w hSw; (have hT0 := cell_keep T0 hSw); (have hT1 := cell_keep T1 hSw); (have hT2 := cell_keep T2 hSw); (have hT3 := cell_keep T3 hSw); (have hT4 := cell_keep T4 hSw); (have hT5 := cell_keep T5 hSw); (have hT6 := cell_keep T6 hSw); (have hH0 := cell_keep H0 hSw); (have hH1 := cell_keep H1 hSw); (have hH2 := cell_keep H2 hSw); (have hH3 := cell_keep H3 hSw); (have hH4 := cell_keep H4 hSw); (have hH5 := cell_keep H5 hSw); (have hH6 := cell_keep H6 hSw); (have hH7 := cell_keep H7 hSw); (have hH8 := cell_keep H8 hSw); (have hH9 := cell_keep H9 hSw); (have hH10 := cell_keep H10 hSw); (have hH11 := cell_keep H11 hSw); (have hL0 := cell_keep L0 hSw); (have hL1 := cell_keep L1 hSw); go_simp <;> with_reducible rfl)
            refine takeD (i := 13) (d := some 30) (v := .bool false) rfl rfl (by kernel_rfl) (by kernel_rfl) (by kernel_rfl) (fun _ _ _ h => h) (Or.inl ⟨by rfl, (by intro w hSw; first | (go_simp; done) | (go_simp; first | rfl | simp))⟩) (by assumption) ?_
            simp only [Act.put, List.setIfInBounds_toArray, List.set_cons_zero, List.set_cons_succ]
            refine tkF 14 (some 31) ?_
            refine tkF 15 (some 32) ?_
            refine tkF 16 (some 33) ?_
            refine tkF 17 (some 34) ?_
            refine tkE 18 (some 35) ?_ ?_ ?_
            rotate_left
            · (intro w hSw; (have hT0 := cell_keep T0 hSw); (have hT1 := cell_keep T1 hSw); (have hT2 := cell_keep T2 hSw); (have hT3 := cell_keep T3 hSw); (have hT4 := cell_keep T4 hSw); (have hT5 := cell_keep T5 hSw); (have hT6 := cell_keep T6 hSw); (have hH0 := cell_keep H0 hSw); (have hH1 := cell_keep H1 hSw); (have hH2 := cell_keep H2 hSw); (have hH3 := cell_keep H3 hSw); (have hH4 := cell_keep H4 hSw); (have hH5 := cell_keep H5 hSw); (have hH6 := cell_keep H6 hSw); (have hH7 := cell_keep H7 hSw); (have hH8 := cell_keep H8 hSw); (have hH9 := cell_keep H9 hSw); (have hH10 := cell_keep H10 hSw); (have hH11 := cell_keep H11 hSw); (have hL0 := cell_keep L0 hSw); (have hL1 := cell_keep L1 hSw); go_simp <;> with_reducible rfl)
            refine tkF 19 (some 36) ?_
            refine takeD (i := 20) (d := some 37) (v := .bool false) rfl rfl (by kernel_rfl) (by kernel_rfl) (by kernel_rfl) (fun _ _ _ h => h) (Or.inl ⟨by rfl, (by intro w hSw; first | (go_simp; done) | (go_simp; first | rfl | simp))⟩) (by assumption) ?_
            simp only [Act.put, List.setIfInBounds_toArray, List.set_cons_zero, List.set_cons_succ]
            refine tkF 21 (some 38) ?_
            refine tkF 22 (some 39) ?_
            refine tkF 23 (some 40) ?_
            refine tkF 24 (some 41) ?_
            refine tkE 25 (some 42) ?_ ?_ ?_
            rotate_left
            · (intro w hSw; (have hT0 := cell_keep T0 hSw); (have hT1 := cell_keep T1 hSw); (have hT2 := cell_keep T2 hSw); (have hT3 := cell_keep T3 hSw); (have hT4 := cell_keep T4 hSw); (have hT5 := cell_keep T5 hSw); (have hT6 := cell_keep T6 hSw); (have hH0 := cell_keep H0 hSw); (have hH1 := cell_keep H1 hSw); (have hH2 := cell_keep H2 hSw); (have hH3 := cell_keep H3 hSw); (have hH4 := cell_keep H4 hSw); (have hH5 := cell_keep H5 hSw); (have hH6 := cell_keep H6 hSw); (have hH7 := cell_keep H7 hSw); (have hH8 := cell_keep H8 hSw); (have hH9 := cell_keep H9 hSw); (have hH10 := cell_keep H10 hSw); (have hH11 := cell_keep H11 hSw); (have hL0 := cell_keep L0 hSw); (have hL1 := cell_keep L1 hSw); go_simp <;> with_reducible rfl)
            refine tkF 26 (some 43) ?_
            refine takeD (i := 27) (d := some 44) (v := .bool false) rfl rfl (by kernel_rfl) (by kernel_rfl) (by kernel_rfl) (fun _ _ _ h => h) (Or.inl ⟨by rfl, (by intro w hSw; first | (go_simp; done) | (go_simp; first | rfl | simp))⟩) (by assumption) ?_
            simp only [Act.put, List.setIfInBounds_toArray, List.set_cons_zero, List.set_cons_succ]
            refine tkF 28 (some 45) ?_
            refine tkF 29 (some 46) ?_
            refine tkF 30 (some 47) ?_
            refine tkF 31 (some 48) ?_
            refine tkE 32 (some 49) ?_ ?_ ?_
            rotate_left
            · (intro w hSw; (have hT0 := cell_keep T0 hSw); (have hT1 := cell_keep T1 hSw); (have hT2 := cell_keep T2 hSw); (have hT3 := cell_keep T3 hSw); (have hT4 := cell_keep T4 hSw); (have hT5 := cell_keep T5 hSw); (have hT6 := cell_keep T6 hSw); (have hH0 := cell_keep H0 hSw); (have hH1 := cell_keep H1 hSw); (have hH2 := cell_keep H2 hSw); (have hH3 := cell_keep H3 hSw); (have hH4 := cell_keep H4 hSw); (have hH5 := cell_keep H5 hSw); (have hH6 := cell_keep H6 hSw); (have hH7 := cell_keep H7 hSw); (have hH8 := cell_keep H8 hSw); (have hH9 := cell_keep H9 hSw); (have hH10 := cell_keep H10 hSw); (have hH11 := cell_keep H11 hSw); (have hL0 := cell_keep L0 hSw); (have hL1 := cell_keep L1 hSw); go_simp <;> with_reducible rfl)
            refine takeD (i := 33) (d := some 50) (v := .bool false) rfl rfl (by kernel_rfl) (by kernel_rfl) (by kernel_rfl) (fun _ _ _ h => h) (Or.inl ⟨by rfl, (by intro w hSw; first | (go_simp; done) | (go_simp; first | rfl | simp))⟩) (by assumption) ?_
            simp only [Act.put, List.setIfInBounds_toArray, List.set_cons_zero, List.set_cons_succ]
            refine tkF 34 (some 51) ?_
            refine tkF 35 (some 52) ?_
            refine tkF 36 (some 53) ?_
            refine tkF 37 (some 54) ?_
            refine tkE 38 (some 55) ?_ ?_ ?_
            rotate_left
            · (intro w hSw; (have hT0 := cell_keep T0 hSw); (have hT1 := cell_keep T1 hSw); (have hT2 := cell_keep T2 hSw); (have hT3 := cell_keep T3 hSw); (have hT4 := cell_keep T4 hSw); (have hT5 := cell_keep T5 hSw); (have hT6 := cell_keep T6 hSw); (have hH0 := cell_keep H0 hSw); (have hH1 := cell_keep H1 hSw); (have hH2 := cell_keep H2 hSw); (have hH3 := cell_keep H3 hSw); (have hH4 := cell_keep H4 hSw); (have hH5 := cell_keep H5 hSw); (have hH6 := cell_keep H6 hSw); (have hH7 := cell_keep H7 hSw); (have hH8 := cell_keep H8 hSw); (have hH9 := cell_keep H9 hSw); (have hH10 := cell_keep H10 hSw); (have hH11 := cell_keep H11 hSw); (have hL0 := cell_keep L0 hSw); (have hL1 := cell_keep L1 hSw); go_simp <;> with_reducible rfl)
            refine tkF 39 (some 56) ?_
            refine takeD (i := 40) (d := some 57) (v := .bool true) rfl rfl (by kernel_rfl) (by kernel_rfl) (by kernel_rfl) (fun _ _ _ h => h) (Or.inl ⟨by rfl, (by intro w hSw; first | (go_simp; done) | (go_simp; first | rfl | omega | assumption | rw [decide_eq_true h6'] | simp [h6'] | (simp; omega)))⟩) (by assumption) ?_
            simp only [Act.put, List.setIfInBounds_toArray, List.set_cons_zero, List.set_cons_succ]
            refine tkF 41 (some 58) ?_
            refine wpAnyH_done (by kernel_rfl) ?_ _
            go_wp2
            go_ret
            exact ⟨ret_b (by rw [HO.out]; simp [restE, doneE, h6]), kb BW (by assumption) (Nat.le_refl _)⟩
          rw [h6] at H11
          refine wp_region_held_drew (S := (fun w' => Below W1.heap.size W1 w')) (by kernel_rfl) ?_ (fun hHeld => ?_)
          · exact (Below.refl _ _).drew
          refine tkF 0 (some 17) ?_
          refine tkE 1 (some 18) ?_ ?_ ?_
          rotate_left
          · (intro w hSw; (have hT0 := cell_keep T0 hSw); (have hT1 := cell_keep T1 hSw); (have hT2 := cell_keep T2 hSw); (have hT3 := cell_keep T3 hSw); (have hT4 := cell_keep T4 hSw); (have hT5 := cell_keep T5 hSw); (have hT6 := cell_keep T6 hSw); (have hH0 := cell_keep H0 hSw); (have hH1 := cell_keep H1 hSw); (have hH2 := cell_keep H2 hSw); (have hH3 := cell_keep H3 hSw); (have hH4 := cell_keep H4 hSw); (have hH5 := cell_keep H5 hSw); (have hH6 := cell_keep H6 hSw); (have hH7 := cell_keep H7 hSw); (have hH8 := cell_keep H8 hSw); (have hH9 := cell_keep H9 hSw); (have hH10 := cell_keep H10 hSw); (have hH11 := cell_keep H11 hSw); (have hL0 := cell_keep L0 hSw); (have hL1 := cell_keep L1 hSw); go_simp <;> with_reducible rfl)
          refine tkF 2 (some 19) ?_
          refine tkF 3 (some 20) ?_
          refine tkF 4 (some 21) ?_
          refine tkE 5 (some 22) ?_ ?_ ?_
          rotate_left
          · (intro w hSw; (have hT0 := cell_keep T0 hSw); (have hT1 := cell_keep T1 hSw); (have hT2 := cell_keep T2 hSw); (have hT3 := cell_keep T3 hSw); (have hT4 := cell_keep T4 hSw); (have hT5 := cell_keep T5 hSw); (have hT6 := cell_keep T6 hSw); (have hH0 := cell_keep H0 hSw); (have hH1 := cell_keep H1 hSw); (have hH2 := cell_keep H2 hSw); (have hH3 := cell_keep H3 hSw); (have hH4 := cell_keep H4 hSw); (have hH5 := cell_keep H5 hSw); (have hH6 := cell_keep H6 hSw); (have hH7 := cell_keep H7 hSw); (have hH8 := cell_keep H8 hSw); (have hH9 := cell_keep H9 hSw); (have hH10 := cell_keep H10 hSw); (have hH11 := cell_keep H11 hSw); (have hL0 := cell_keep L0 hSw); (have hL1 := cell_keep L1 hSw); go_simp <;> with_reducible rfl)
          refine tkF 6 (some 23) ?_
          refine tkE 7 (some 24) ?_ ?_ ?_
          rotate_left
          · (intro w hSw; (have hT0 := cell_keep T0 hSw); (have hT1 := cell_keep T1 hSw); (have hT2 := cell_keep T2 hSw); (have hT3 := cell_keep T3 hSw); (have hT4 := cell_keep T4 hSw); (have hT5 := cell_keep T5 hSw); (have hT6 := cell_keep T6 hSw); (have hH0 := cell_keep H0 hSw); (have hH1 := cell_keep H1 hSw); (have hH2 := cell_keep H2 hSw); (have hH3 := cell_keep H3 hSw); (have hH4 := cell_keep H4 hSw); (have hH5 := cell_keep H5 hSw); (have hH6 := cell_keep H6 hSw); (have hH7 := cell_keep H7 hSw); (have hH8 := cell_keep H8 hSw); (have hH9 := cell_keep H9 hSw); (have hH10 := cell_keep H10 hSw); (have hH11 := cell_keep H11 hSw); (have hL0 := cell_keep L0 hSw); (have hL1 := cell_keep L1 hSw); go_simp <;> with_reducible rfl)
          refine tkF 8 (some 25) ?_
          refine tkF 9 (some 26) ?_
          refine tkE 10 (some 27) ?_ ?_ ?_
          rotate_left
          · (intro w hSw; go_simp; (first | with_reducible rfl | (rw [hw1, if_pos (by decide)]; show Result.ok (Next.value (.pointer (some ⟨g, 12, none⟩))) w = _; with_reducible rfl) | (rw [hw0, if_pos (by decide)]; show Result.ok (Next.value (.pointer (some ⟨g, 0, none⟩))) w = _; with_reducible rfl) | fail))
          refine tkF 11 (some 28) ?_
          refine tkE 12 (some 29) ?_ ?_ ?_
          rotate_left
          · (intro w hSw; (have hT0 := cell_keep T0 hSw); (have hT1 := cell_keep T1 hSw); (have hT2 := cell_keep T2 hSw); (have hT3 := cell_keep T3 hSw); (have hT4 := cell_keep T4 hSw); (have hT5 := cell_keep T5 hSw); (have hT6 := cell_keep T6 hSw); (have hH0 := cell_keep H0 hSw); (have hH1 := cell_keep H1 hSw); (have hH2 := cell_keep H2 hSw); (have hH3 := cell_keep H3 hSw); (have hH4 := cell_keep H4 hSw); (have hH5 := cell_keep H5 hSw); (have hH6 := cell_keep H6 hSw); (have hH7 := cell_keep H7 hSw); (have hH8 := cell_keep H8 hSw); (have hH9 := cell_keep H9 hSw); (have hH10 := cell_keep H10 hSw); (have hH11 := cell_keep H11 hSw); (have hL0 := cell_keep L0 hSw); (have hL1 := cell_keep L1 hSw); go_simp <;> with_reducible rfl)
          refine takeD (i := 13) (d := some 30) (v := .bool false) rfl rfl (by kernel_rfl) (by kernel_rfl) (by kernel_rfl) (fun _ _ _ h => h) (Or.inl ⟨by rfl, (by intro w hSw; first | (go_simp; done) | (go_simp; first | rfl | simp))⟩) (by assumption) ?_
          simp only [Act.put, List.setIfInBounds_toArray, List.set_cons_zero, List.set_cons_succ]
          refine tkF 14 (some 31) ?_
          refine tkF 15 (some 32) ?_
          refine tkF 16 (some 33) ?_
          refine tkF 17 (some 34) ?_
          refine tkE 18 (some 35) ?_ ?_ ?_
          rotate_left
          · (intro w hSw; (have hT0 := cell_keep T0 hSw); (have hT1 := cell_keep T1 hSw); (have hT2 := cell_keep T2 hSw); (have hT3 := cell_keep T3 hSw); (have hT4 := cell_keep T4 hSw); (have hT5 := cell_keep T5 hSw); (have hT6 := cell_keep T6 hSw); (have hH0 := cell_keep H0 hSw); (have hH1 := cell_keep H1 hSw); (have hH2 := cell_keep H2 hSw); (have hH3 := cell_keep H3 hSw); (have hH4 := cell_keep H4 hSw); (have hH5 := cell_keep H5 hSw); (have hH6 := cell_keep H6 hSw); (have hH7 := cell_keep H7 hSw); (have hH8 := cell_keep H8 hSw); (have hH9 := cell_keep H9 hSw); (have hH10 := cell_keep H10 hSw); (have hH11 := cell_keep H11 hSw); (have hL0 := cell_keep L0 hSw); (have hL1 := cell_keep L1 hSw); go_simp <;> with_reducible rfl)
          refine tkF 19 (some 36) ?_
          refine takeD (i := 20) (d := some 37) (v := .bool false) rfl rfl (by kernel_rfl) (by kernel_rfl) (by kernel_rfl) (fun _ _ _ h => h) (Or.inl ⟨by rfl, (by intro w hSw; first | (go_simp; done) | (go_simp; first | rfl | simp))⟩) (by assumption) ?_
          simp only [Act.put, List.setIfInBounds_toArray, List.set_cons_zero, List.set_cons_succ]
          refine tkF 21 (some 38) ?_
          refine tkF 22 (some 39) ?_
          refine tkF 23 (some 40) ?_
          refine tkF 24 (some 41) ?_
          refine tkE 25 (some 42) ?_ ?_ ?_
          rotate_left
          · (intro w hSw; (have hT0 := cell_keep T0 hSw); (have hT1 := cell_keep T1 hSw); (have hT2 := cell_keep T2 hSw); (have hT3 := cell_keep T3 hSw); (have hT4 := cell_keep T4 hSw); (have hT5 := cell_keep T5 hSw); (have hT6 := cell_keep T6 hSw); (have hH0 := cell_keep H0 hSw); (have hH1 := cell_keep H1 hSw); (have hH2 := cell_keep H2 hSw); (have hH3 := cell_keep H3 hSw); (have hH4 := cell_keep H4 hSw); (have hH5 := cell_keep H5 hSw); (have hH6 := cell_keep H6 hSw); (have hH7 := cell_keep H7 hSw); (have hH8 := cell_keep H8 hSw); (have hH9 := cell_keep H9 hSw); (have hH10 := cell_keep H10 hSw); (have hH11 := cell_keep H11 hSw); (have hL0 := cell_keep L0 hSw); (have hL1 := cell_keep L1 hSw); go_simp <;> with_reducible rfl)
          refine tkF 26 (some 43) ?_
          refine takeD (i := 27) (d := some 44) (v := .bool false) rfl rfl (by kernel_rfl) (by kernel_rfl) (by kernel_rfl) (fun _ _ _ h => h) (Or.inl ⟨by rfl, (by intro w hSw; first | (go_simp; done) | (go_simp; first | rfl | simp))⟩) (by assumption) ?_
          simp only [Act.put, List.setIfInBounds_toArray, List.set_cons_zero, List.set_cons_succ]
          refine tkF 28 (some 45) ?_
          refine tkF 29 (some 46) ?_
          refine tkF 30 (some 47) ?_
          refine tkF 31 (some 48) ?_
          refine tkE 32 (some 49) ?_ ?_ ?_
          rotate_left
          · (intro w hSw; (have hT0 := cell_keep T0 hSw); (have hT1 := cell_keep T1 hSw); (have hT2 := cell_keep T2 hSw); (have hT3 := cell_keep T3 hSw); (have hT4 := cell_keep T4 hSw); (have hT5 := cell_keep T5 hSw); (have hT6 := cell_keep T6 hSw); (have hH0 := cell_keep H0 hSw); (have hH1 := cell_keep H1 hSw); (have hH2 := cell_keep H2 hSw); (have hH3 := cell_keep H3 hSw); (have hH4 := cell_keep H4 hSw); (have hH5 := cell_keep H5 hSw); (have hH6 := cell_keep H6 hSw); (have hH7 := cell_keep H7 hSw); (have hH8 := cell_keep H8 hSw); (have hH9 := cell_keep H9 hSw); (have hH10 := cell_keep H10 hSw); (have hH11 := cell_keep H11 hSw); (have hL0 := cell_keep L0 hSw); (have hL1 := cell_keep L1 hSw); go_simp <;> with_reducible rfl)
          refine takeD (i := 33) (d := some 50) (v := .bool false) rfl rfl (by kernel_rfl) (by kernel_rfl) (by kernel_rfl) (fun _ _ _ h => h) (Or.inl ⟨by rfl, (by intro w hSw; first | (go_simp; done) | (go_simp; first | rfl | simp))⟩) (by assumption) ?_
          simp only [Act.put, List.setIfInBounds_toArray, List.set_cons_zero, List.set_cons_succ]
          refine tkF 34 (some 51) ?_
          refine tkF 35 (some 52) ?_
          refine tkF 36 (some 53) ?_
          refine tkF 37 (some 54) ?_
          refine tkE 38 (some 55) ?_ ?_ ?_
          rotate_left
          · (intro w hSw; (have hT0 := cell_keep T0 hSw); (have hT1 := cell_keep T1 hSw); (have hT2 := cell_keep T2 hSw); (have hT3 := cell_keep T3 hSw); (have hT4 := cell_keep T4 hSw); (have hT5 := cell_keep T5 hSw); (have hT6 := cell_keep T6 hSw); (have hH0 := cell_keep H0 hSw); (have hH1 := cell_keep H1 hSw); (have hH2 := cell_keep H2 hSw); (have hH3 := cell_keep H3 hSw); (have hH4 := cell_keep H4 hSw); (have hH5 := cell_keep H5 hSw); (have hH6 := cell_keep H6 hSw); (have hH7 := cell_keep H7 hSw); (have hH8 := cell_keep H8 hSw); (have hH9 := cell_keep H9 hSw); (have hH10 := cell_keep H10 hSw); (have hH11 := cell_keep H11 hSw); (have hL0 := cell_keep L0 hSw); (have hL1 := cell_keep L1 hSw); go_simp <;> with_reducible rfl)
          refine tkF 39 (some 56) ?_
          refine takeD (i := 40) (d := some 57) (v := .bool false) rfl rfl (by kernel_rfl) (by kernel_rfl) (by kernel_rfl) (fun _ _ _ h => h) (Or.inl ⟨by rfl, (by intro w hSw; first | (go_simp; done) | (go_simp; first | rfl | simp))⟩) (by assumption) ?_
          simp only [Act.put, List.setIfInBounds_toArray, List.set_cons_zero, List.set_cons_succ]
          refine tkF 41 (some 58) ?_
          refine wpAnyH_done (by kernel_rfl) ?_ _
          have HP : Hid (restE ⟨anum, aup, alife, apeer, asince, aowes, ab, axs, anx, ahs, ao, ars⟩ ⟨cnum, cup, clife, cpeer, csince, cowes, cb, cxs, cnx, chs, co, crs⟩ = true) := (by simp [restE, doneE, h1, h2, h3, h4, h5, h6] : restE ⟨anum, aup, alife, apeer, asince, aowes, ab, axs, anx, ahs, ao, ars⟩ ⟨cnum, cup, clife, cpeer, csince, cowes, cb, cxs, cnx, chs, co, crs⟩ = true)
          have bs1 : w.heap.size + 1 ≤ W1.heap.size := by have := BV.size; simp at this; omega
          go_wp2
          go_roundw
          case rel => exact ⟨1, by omega, rfl, fun _ => HP.out, fun h => absurd h (by omega), BV.trans (Below.mono (by assumption) bs1)⟩
          case measure => simp [intOf]
      · obtain rfl : k = 1 := by omega
        have hk0 : (((1 : Nat)) : Int) = 1 := rfl
        rw [hk0]
        clear hlt hk hk0
        go_wp2
        obtain ⟨W1, hW1⟩ : ∃ W1, wr.alloc (.cells #[.int .i64 cnum, .bool cup, .int .i64 clife, .int .i64 cpeer, .int .i64 csince, .bool cowes, .int .i64 cb, .slice q0 cxs.length q1, .int .i64 cnx, .slice q2 chs.length q3, .string co, .slice q4 crs.length q5] 48) = W1 := ⟨_, rfl⟩
        have AW : Below wr.heap.size wr W1 := by rw [← hW1]; exact (Below.refl _ _).alloc (Nat.le_refl _) _
        have T0 := cell_keep x0 AW
        have T1 := cell_keep x1 AW
        have T2 := cell_keep x2 AW
        have T3 := cell_keep x3 AW
        have T4 := cell_keep x4 AW
        have T5 := cell_keep x5 AW
        have T6 := cell_keep x6 AW
        have H0 : W1.cell? ⟨wr.heap.size, 0, none⟩ = some (.int .i64 cnum) := by rw [← hW1]; simp [go_sem]
        have H1 : W1.cell? ⟨wr.heap.size, 1, none⟩ = some (.bool cup) := by rw [← hW1]; simp [go_sem]
        have H2 : W1.cell? ⟨wr.heap.size, 2, none⟩ = some (.int .i64 clife) := by rw [← hW1]; simp [go_sem]
        have H3 : W1.cell? ⟨wr.heap.size, 3, none⟩ = some (.int .i64 cpeer) := by rw [← hW1]; simp [go_sem]
        have H4 : W1.cell? ⟨wr.heap.size, 4, none⟩ = some (.int .i64 csince) := by rw [← hW1]; simp [go_sem]
        have H5 : W1.cell? ⟨wr.heap.size, 5, none⟩ = some (.bool cowes) := by rw [← hW1]; simp [go_sem]
        have H6 : W1.cell? ⟨wr.heap.size, 6, none⟩ = some (.int .i64 cb) := by rw [← hW1]; simp [go_sem]
        have H7 : W1.cell? ⟨wr.heap.size, 7, none⟩ = some (.slice q0 cxs.length q1) := by rw [← hW1]; simp [go_sem]
        have H8 : W1.cell? ⟨wr.heap.size, 8, none⟩ = some (.int .i64 cnx) := by rw [← hW1]; simp [go_sem]
        have H9 : W1.cell? ⟨wr.heap.size, 9, none⟩ = some (.slice q2 chs.length q3) := by rw [← hW1]; simp [go_sem]
        have H10 : W1.cell? ⟨wr.heap.size, 10, none⟩ = some (.string co) := by rw [← hW1]; simp [go_sem]
        have H11 : W1.cell? ⟨wr.heap.size, 11, none⟩ = some (.slice q4 crs.length q5) := by rw [← hW1]; simp [go_sem]
        have L0 := cell_keep e2 AW
        have L1 := L0
        have BW : Below w.heap.size w W1 := kb hbel0 AW (by omega)
        have BV := hbel.trans (AW.mono (by omega))
        rw [hW1]
        clear hW1 AW x0 x1 x2 x3 x4 x5 x6 e0 e1 e2 e3 e4 e5 e6 e7 e8 e9 e10 e11 e12 e13 e14 e15 e16 e17 e18 e19 e20 e21 e22 e23 X1
        cases h1 : cup with
        | false =>
          rw [h1] at H1
          refine wp_region_held_drew (S := (fun w' => Below W1.heap.size W1 w')) (by kernel_rfl) ?_ (fun hHeld => ?_)
          · exact (Below.refl _ _).drew
          refine tkF 0 (some 17) ?_
          refine tkE 1 (some 18) ?_ ?_ ?_
          rotate_left
          · (intro w hSw; (have hT0 := cell_keep T0 hSw); (have hT1 := cell_keep T1 hSw); (have hT2 := cell_keep T2 hSw); (have hT3 := cell_keep T3 hSw); (have hT4 := cell_keep T4 hSw); (have hT5 := cell_keep T5 hSw); (have hT6 := cell_keep T6 hSw); (have hH0 := cell_keep H0 hSw); (have hH1 := cell_keep H1 hSw); (have hH2 := cell_keep H2 hSw); (have hH3 := cell_keep H3 hSw); (have hH4 := cell_keep H4 hSw); (have hH5 := cell_keep H5 hSw); (have hH6 := cell_keep H6 hSw); (have hH7 := cell_keep H7 hSw); (have hH8 := cell_keep H8 hSw); (have hH9 := cell_keep H9 hSw); (have hH10 := cell_keep H10 hSw); (have hH11 := cell_keep H11 hSw); (have hL0 := cell_keep L0 hSw); (have hL1 := cell_keep L1 hSw); go_simp <;> with_reducible rfl)
          refine tkF 2 (some 19) ?_
          refine tkF 3 (some 20) ?_
          refine tkS 4 (some 21) ?_
          refine tkS 5 (some 22) ?_
          refine tkS 6 (some 23) ?_
          refine tkS 7 (some 24) ?_
          refine tkS 8 (some 25) ?_
          refine tkS 9 (some 26) ?_
          refine tkS 10 (some 27) ?_
          refine tkS 11 (some 28) ?_
          refine tkS 12 (some 29) ?_
          refine tkS 13 (some 30) ?_
          refine tkF 14 (some 31) ?_
          refine tkF 15 (some 32) ?_
          refine tkS 16 (some 33) ?_
          refine tkS 17 (some 34) ?_
          refine tkS 18 (some 35) ?_
          refine tkS 19 (some 36) ?_
          refine tkS 20 (some 37) ?_
          refine tkF 21 (some 38) ?_
          refine tkF 22 (some 39) ?_
          refine tkS 23 (some 40) ?_
          refine tkS 24 (some 41) ?_
          refine tkS 25 (some 42) ?_
          refine tkS 26 (some 43) ?_
          refine tkS 27 (some 44) ?_
          refine tkF 28 (some 45) ?_
          refine tkF 29 (some 46) ?_
          refine tkS 30 (some 47) ?_
          refine tkS 31 (some 48) ?_
          refine tkS 32 (some 49) ?_
          refine tkS 33 (some 50) ?_
          refine tkF 34 (some 51) ?_
          refine tkF 35 (some 52) ?_
          refine tkS 36 (some 53) ?_
          refine tkS 37 (some 54) ?_
          refine tkS 38 (some 55) ?_
          refine tkS 39 (some 56) ?_
          refine tkS 40 (some 57) ?_
          refine tkF 41 (some 58) ?_
          refine wpAnyH_done (by kernel_rfl) ?_ _
          go_wp2
          go_ret
          exact ⟨ret_b (by rw [HO.out]; simp [restE, doneE, h1]), kb BW (by assumption) (Nat.le_refl _)⟩
        | true =>
          rw [h1] at H1
          by_cases h2 : cpeer = alife
          case neg =>
            refine wp_region_held_drew (S := (fun w' => Below W1.heap.size W1 w')) (by kernel_rfl) ?_ (fun hHeld => ?_)
            · exact (Below.refl _ _).drew
            refine tkF 0 (some 17) ?_
            refine tkE 1 (some 18) ?_ ?_ ?_
            rotate_left
            · (intro w hSw; (have hT0 := cell_keep T0 hSw); (have hT1 := cell_keep T1 hSw); (have hT2 := cell_keep T2 hSw); (have hT3 := cell_keep T3 hSw); (have hT4 := cell_keep T4 hSw); (have hT5 := cell_keep T5 hSw); (have hT6 := cell_keep T6 hSw); (have hH0 := cell_keep H0 hSw); (have hH1 := cell_keep H1 hSw); (have hH2 := cell_keep H2 hSw); (have hH3 := cell_keep H3 hSw); (have hH4 := cell_keep H4 hSw); (have hH5 := cell_keep H5 hSw); (have hH6 := cell_keep H6 hSw); (have hH7 := cell_keep H7 hSw); (have hH8 := cell_keep H8 hSw); (have hH9 := cell_keep H9 hSw); (have hH10 := cell_keep H10 hSw); (have hH11 := cell_keep H11 hSw); (have hL0 := cell_keep L0 hSw); (have hL1 := cell_keep L1 hSw); go_simp <;> with_reducible rfl)
            refine tkF 2 (some 19) ?_
            refine tkF 3 (some 20) ?_
            refine tkF 4 (some 21) ?_
            refine tkE 5 (some 22) ?_ ?_ ?_
            rotate_left
            · (intro w hSw; (have hT0 := cell_keep T0 hSw); (have hT1 := cell_keep T1 hSw); (have hT2 := cell_keep T2 hSw); (have hT3 := cell_keep T3 hSw); (have hT4 := cell_keep T4 hSw); (have hT5 := cell_keep T5 hSw); (have hT6 := cell_keep T6 hSw); (have hH0 := cell_keep H0 hSw); (have hH1 := cell_keep H1 hSw); (have hH2 := cell_keep H2 hSw); (have hH3 := cell_keep H3 hSw); (have hH4 := cell_keep H4 hSw); (have hH5 := cell_keep H5 hSw); (have hH6 := cell_keep H6 hSw); (have hH7 := cell_keep H7 hSw); (have hH8 := cell_keep H8 hSw); (have hH9 := cell_keep H9 hSw); (have hH10 := cell_keep H10 hSw); (have hH11 := cell_keep H11 hSw); (have hL0 := cell_keep L0 hSw); (have hL1 := cell_keep L1 hSw); go_simp <;> with_reducible rfl)
            refine tkF 6 (some 23) ?_
            refine tkE 7 (some 24) ?_ ?_ ?_
            rotate_left
            · (intro w hSw; (have hT0 := cell_keep T0 hSw); (have hT1 := cell_keep T1 hSw); (have hT2 := cell_keep T2 hSw); (have hT3 := cell_keep T3 hSw); (have hT4 := cell_keep T4 hSw); (have hT5 := cell_keep T5 hSw); (have hT6 := cell_keep T6 hSw); (have hH0 := cell_keep H0 hSw); (have hH1 := cell_keep H1 hSw); (have hH2 := cell_keep H2 hSw); (have hH3 := cell_keep H3 hSw); (have hH4 := cell_keep H4 hSw); (have hH5 := cell_keep H5 hSw); (have hH6 := cell_keep H6 hSw); (have hH7 := cell_keep H7 hSw); (have hH8 := cell_keep H8 hSw); (have hH9 := cell_keep H9 hSw); (have hH10 := cell_keep H10 hSw); (have hH11 := cell_keep H11 hSw); (have hL0 := cell_keep L0 hSw); (have hL1 := cell_keep L1 hSw); go_simp <;> with_reducible rfl)
            refine tkF 8 (some 25) ?_
            refine tkF 9 (some 26) ?_
            refine tkE 10 (some 27) ?_ ?_ ?_
            rotate_left
            · (intro w hSw; go_simp; (first | with_reducible rfl | (rw [hw1, if_pos (by decide)]; show Result.ok (Next.value (.pointer (some ⟨g, 12, none⟩))) w = _; with_reducible rfl) | (rw [hw0, if_pos (by decide)]; show Result.ok (Next.value (.pointer (some ⟨g, 0, none⟩))) w = _; with_reducible rfl) | fail))
            refine tkF 11 (some 28) ?_
            refine tkE 12 (some 29) ?_ ?_ ?_
            rotate_left
            · (intro w hSw; (have hT0 := cell_keep T0 hSw); (have hT1 := cell_keep T1 hSw); (have hT2 := cell_keep T2 hSw); (have hT3 := cell_keep T3 hSw); (have hT4 := cell_keep T4 hSw); (have hT5 := cell_keep T5 hSw); (have hT6 := cell_keep T6 hSw); (have hH0 := cell_keep H0 hSw); (have hH1 := cell_keep H1 hSw); (have hH2 := cell_keep H2 hSw); (have hH3 := cell_keep H3 hSw); (have hH4 := cell_keep H4 hSw); (have hH5 := cell_keep H5 hSw); (have hH6 := cell_keep H6 hSw); (have hH7 := cell_keep H7 hSw); (have hH8 := cell_keep H8 hSw); (have hH9 := cell_keep H9 hSw); (have hH10 := cell_keep H10 hSw); (have hH11 := cell_keep H11 hSw); (have hL0 := cell_keep L0 hSw); (have hL1 := cell_keep L1 hSw); go_simp <;> with_reducible rfl)
            refine takeD (i := 13) (d := some 30) (v := .bool true) rfl rfl (by kernel_rfl) (by kernel_rfl) (by kernel_rfl) (fun _ _ _ h => h) (Or.inl ⟨by rfl, (by intro w hSw; first | (go_simp; done) | (go_simp; first | rfl | omega | assumption | rw [decide_eq_true h2] | simp [h2] | (simp; omega)))⟩) (by assumption) ?_
            simp only [Act.put, List.setIfInBounds_toArray, List.set_cons_zero, List.set_cons_succ]
            refine tkF 14 (some 31) ?_
            refine tkF 15 (some 32) ?_
            refine tkS 16 (some 33) ?_
            refine tkS 17 (some 34) ?_
            refine tkS 18 (some 35) ?_
            refine tkS 19 (some 36) ?_
            refine tkS 20 (some 37) ?_
            refine tkF 21 (some 38) ?_
            refine tkF 22 (some 39) ?_
            refine tkS 23 (some 40) ?_
            refine tkS 24 (some 41) ?_
            refine tkS 25 (some 42) ?_
            refine tkS 26 (some 43) ?_
            refine tkS 27 (some 44) ?_
            refine tkF 28 (some 45) ?_
            refine tkF 29 (some 46) ?_
            refine tkS 30 (some 47) ?_
            refine tkS 31 (some 48) ?_
            refine tkS 32 (some 49) ?_
            refine tkS 33 (some 50) ?_
            refine tkF 34 (some 51) ?_
            refine tkF 35 (some 52) ?_
            refine tkS 36 (some 53) ?_
            refine tkS 37 (some 54) ?_
            refine tkS 38 (some 55) ?_
            refine tkS 39 (some 56) ?_
            refine tkS 40 (some 57) ?_
            refine tkF 41 (some 58) ?_
            refine wpAnyH_done (by kernel_rfl) ?_ _
            go_wp2
            go_ret
            exact ⟨ret_b (by rw [HO.out]; simp [restE, doneE, h2]), kb BW (by assumption) (Nat.le_refl _)⟩
          rw [h2] at H3
          by_cases h3 : cxs.length = 0
          case neg =>
            have h3' : (0 : Int) < cxs.length := by omega
            refine wp_region_held_drew (S := (fun w' => Below W1.heap.size W1 w')) (by kernel_rfl) ?_ (fun hHeld => ?_)
            · exact (Below.refl _ _).drew
            refine tkF 0 (some 17) ?_
            refine tkE 1 (some 18) ?_ ?_ ?_
            rotate_left
            · (intro w hSw; (have hT0 := cell_keep T0 hSw); (have hT1 := cell_keep T1 hSw); (have hT2 := cell_keep T2 hSw); (have hT3 := cell_keep T3 hSw); (have hT4 := cell_keep T4 hSw); (have hT5 := cell_keep T5 hSw); (have hT6 := cell_keep T6 hSw); (have hH0 := cell_keep H0 hSw); (have hH1 := cell_keep H1 hSw); (have hH2 := cell_keep H2 hSw); (have hH3 := cell_keep H3 hSw); (have hH4 := cell_keep H4 hSw); (have hH5 := cell_keep H5 hSw); (have hH6 := cell_keep H6 hSw); (have hH7 := cell_keep H7 hSw); (have hH8 := cell_keep H8 hSw); (have hH9 := cell_keep H9 hSw); (have hH10 := cell_keep H10 hSw); (have hH11 := cell_keep H11 hSw); (have hL0 := cell_keep L0 hSw); (have hL1 := cell_keep L1 hSw); go_simp <;> with_reducible rfl)
            refine tkF 2 (some 19) ?_
            refine tkF 3 (some 20) ?_
            refine tkF 4 (some 21) ?_
            refine tkE 5 (some 22) ?_ ?_ ?_
            rotate_left
            · (intro w hSw; (have hT0 := cell_keep T0 hSw); (have hT1 := cell_keep T1 hSw); (have hT2 := cell_keep T2 hSw); (have hT3 := cell_keep T3 hSw); (have hT4 := cell_keep T4 hSw); (have hT5 := cell_keep T5 hSw); (have hT6 := cell_keep T6 hSw); (have hH0 := cell_keep H0 hSw); (have hH1 := cell_keep H1 hSw); (have hH2 := cell_keep H2 hSw); (have hH3 := cell_keep H3 hSw); (have hH4 := cell_keep H4 hSw); (have hH5 := cell_keep H5 hSw); (have hH6 := cell_keep H6 hSw); (have hH7 := cell_keep H7 hSw); (have hH8 := cell_keep H8 hSw); (have hH9 := cell_keep H9 hSw); (have hH10 := cell_keep H10 hSw); (have hH11 := cell_keep H11 hSw); (have hL0 := cell_keep L0 hSw); (have hL1 := cell_keep L1 hSw); go_simp <;> with_reducible rfl)
            refine tkF 6 (some 23) ?_
            refine tkE 7 (some 24) ?_ ?_ ?_
            rotate_left
            · (intro w hSw; (have hT0 := cell_keep T0 hSw); (have hT1 := cell_keep T1 hSw); (have hT2 := cell_keep T2 hSw); (have hT3 := cell_keep T3 hSw); (have hT4 := cell_keep T4 hSw); (have hT5 := cell_keep T5 hSw); (have hT6 := cell_keep T6 hSw); (have hH0 := cell_keep H0 hSw); (have hH1 := cell_keep H1 hSw); (have hH2 := cell_keep H2 hSw); (have hH3 := cell_keep H3 hSw); (have hH4 := cell_keep H4 hSw); (have hH5 := cell_keep H5 hSw); (have hH6 := cell_keep H6 hSw); (have hH7 := cell_keep H7 hSw); (have hH8 := cell_keep H8 hSw); (have hH9 := cell_keep H9 hSw); (have hH10 := cell_keep H10 hSw); (have hH11 := cell_keep H11 hSw); (have hL0 := cell_keep L0 hSw); (have hL1 := cell_keep L1 hSw); go_simp <;> with_reducible rfl)
            refine tkF 8 (some 25) ?_
            refine tkF 9 (some 26) ?_
            refine tkE 10 (some 27) ?_ ?_ ?_
            rotate_left
            · (intro w hSw; go_simp; (first | with_reducible rfl | (rw [hw1, if_pos (by decide)]; show Result.ok (Next.value (.pointer (some ⟨g, 12, none⟩))) w = _; with_reducible rfl) | (rw [hw0, if_pos (by decide)]; show Result.ok (Next.value (.pointer (some ⟨g, 0, none⟩))) w = _; with_reducible rfl) | fail))
            refine tkF 11 (some 28) ?_
            refine tkE 12 (some 29) ?_ ?_ ?_
            rotate_left
            · (intro w hSw; (have hT0 := cell_keep T0 hSw); (have hT1 := cell_keep T1 hSw); (have hT2 := cell_keep T2 hSw); (have hT3 := cell_keep T3 hSw); (have hT4 := cell_keep T4 hSw); (have hT5 := cell_keep T5 hSw); (have hT6 := cell_keep T6 hSw); (have hH0 := cell_keep H0 hSw); (have hH1 := cell_keep H1 hSw); (have hH2 := cell_keep H2 hSw); (have hH3 := cell_keep H3 hSw); (have hH4 := cell_keep H4 hSw); (have hH5 := cell_keep H5 hSw); (have hH6 := cell_keep H6 hSw); (have hH7 := cell_keep H7 hSw); (have hH8 := cell_keep H8 hSw); (have hH9 := cell_keep H9 hSw); (have hH10 := cell_keep H10 hSw); (have hH11 := cell_keep H11 hSw); (have hL0 := cell_keep L0 hSw); (have hL1 := cell_keep L1 hSw); go_simp <;> with_reducible rfl)
            refine takeD (i := 13) (d := some 30) (v := .bool false) rfl rfl (by kernel_rfl) (by kernel_rfl) (by kernel_rfl) (fun _ _ _ h => h) (Or.inl ⟨by rfl, (by intro w hSw; first | (go_simp; done) | (go_simp; first | rfl | simp))⟩) (by assumption) ?_
            simp only [Act.put, List.setIfInBounds_toArray, List.set_cons_zero, List.set_cons_succ]
            refine tkF 14 (some 31) ?_
            refine tkF 15 (some 32) ?_
            refine tkF 16 (some 33) ?_
            refine tkF 17 (some 34) ?_
            refine tkE 18 (some 35) ?_ ?_ ?_
            rotate_left
            · (intro w hSw; (have hT0 := cell_keep T0 hSw); (have hT1 := cell_keep T1 hSw); (have hT2 := cell_keep T2 hSw); (have hT3 := cell_keep T3 hSw); (have hT4 := cell_keep T4 hSw); (have hT5 := cell_keep T5 hSw); (have hT6 := cell_keep T6 hSw); (have hH0 := cell_keep H0 hSw); (have hH1 := cell_keep H1 hSw); (have hH2 := cell_keep H2 hSw); (have hH3 := cell_keep H3 hSw); (have hH4 := cell_keep H4 hSw); (have hH5 := cell_keep H5 hSw); (have hH6 := cell_keep H6 hSw); (have hH7 := cell_keep H7 hSw); (have hH8 := cell_keep H8 hSw); (have hH9 := cell_keep H9 hSw); (have hH10 := cell_keep H10 hSw); (have hH11 := cell_keep H11 hSw); (have hL0 := cell_keep L0 hSw); (have hL1 := cell_keep L1 hSw); go_simp <;> with_reducible rfl)
            refine tkF 19 (some 36) ?_
            refine takeD (i := 20) (d := some 37) (v := .bool true) rfl rfl (by kernel_rfl) (by kernel_rfl) (by kernel_rfl) (fun _ _ _ h => h) (Or.inl ⟨by rfl, (by intro w hSw; first | (go_simp; done) | (go_simp; first | rfl | omega | assumption | rw [decide_eq_true h3'] | simp [h3'] | (simp; omega)))⟩) (by assumption) ?_
            simp only [Act.put, List.setIfInBounds_toArray, List.set_cons_zero, List.set_cons_succ]
            refine tkF 21 (some 38) ?_
            refine tkF 22 (some 39) ?_
            refine tkS 23 (some 40) ?_
            refine tkS 24 (some 41) ?_
            refine tkS 25 (some 42) ?_
            refine tkS 26 (some 43) ?_
            refine tkS 27 (some 44) ?_
            refine tkF 28 (some 45) ?_
            refine tkF 29 (some 46) ?_
            refine tkS 30 (some 47) ?_
            refine tkS 31 (some 48) ?_
            refine tkS 32 (some 49) ?_
            refine tkS 33 (some 50) ?_
            refine tkF 34 (some 51) ?_
            refine tkF 35 (some 52) ?_
            refine tkS 36 (some 53) ?_
            refine tkS 37 (some 54) ?_
            refine tkS 38 (some 55) ?_
            refine tkS 39 (some 56) ?_
            refine tkS 40 (some 57) ?_
            refine tkF 41 (some 58) ?_
            refine wpAnyH_done (by kernel_rfl) ?_ _
            go_wp2
            go_ret
            exact ⟨ret_b (by rw [HO.out]; simp [restE, doneE, h3]), kb BW (by assumption) (Nat.le_refl _)⟩
          rw [h3] at H7
          by_cases h4 : chs.length = 0
          case neg =>
            have h4' : (0 : Int) < chs.length := by omega
            refine wp_region_held_drew (S := (fun w' => Below W1.heap.size W1 w')) (by kernel_rfl) ?_ (fun hHeld => ?_)
            · exact (Below.refl _ _).drew
            refine tkF 0 (some 17) ?_
            refine tkE 1 (some 18) ?_ ?_ ?_
            rotate_left
            · (intro w hSw; (have hT0 := cell_keep T0 hSw); (have hT1 := cell_keep T1 hSw); (have hT2 := cell_keep T2 hSw); (have hT3 := cell_keep T3 hSw); (have hT4 := cell_keep T4 hSw); (have hT5 := cell_keep T5 hSw); (have hT6 := cell_keep T6 hSw); (have hH0 := cell_keep H0 hSw); (have hH1 := cell_keep H1 hSw); (have hH2 := cell_keep H2 hSw); (have hH3 := cell_keep H3 hSw); (have hH4 := cell_keep H4 hSw); (have hH5 := cell_keep H5 hSw); (have hH6 := cell_keep H6 hSw); (have hH7 := cell_keep H7 hSw); (have hH8 := cell_keep H8 hSw); (have hH9 := cell_keep H9 hSw); (have hH10 := cell_keep H10 hSw); (have hH11 := cell_keep H11 hSw); (have hL0 := cell_keep L0 hSw); (have hL1 := cell_keep L1 hSw); go_simp <;> with_reducible rfl)
            refine tkF 2 (some 19) ?_
            refine tkF 3 (some 20) ?_
            refine tkF 4 (some 21) ?_
            refine tkE 5 (some 22) ?_ ?_ ?_
            rotate_left
            · (intro w hSw; (have hT0 := cell_keep T0 hSw); (have hT1 := cell_keep T1 hSw); (have hT2 := cell_keep T2 hSw); (have hT3 := cell_keep T3 hSw); (have hT4 := cell_keep T4 hSw); (have hT5 := cell_keep T5 hSw); (have hT6 := cell_keep T6 hSw); (have hH0 := cell_keep H0 hSw); (have hH1 := cell_keep H1 hSw); (have hH2 := cell_keep H2 hSw); (have hH3 := cell_keep H3 hSw); (have hH4 := cell_keep H4 hSw); (have hH5 := cell_keep H5 hSw); (have hH6 := cell_keep H6 hSw); (have hH7 := cell_keep H7 hSw); (have hH8 := cell_keep H8 hSw); (have hH9 := cell_keep H9 hSw); (have hH10 := cell_keep H10 hSw); (have hH11 := cell_keep H11 hSw); (have hL0 := cell_keep L0 hSw); (have hL1 := cell_keep L1 hSw); go_simp <;> with_reducible rfl)
            refine tkF 6 (some 23) ?_
            refine tkE 7 (some 24) ?_ ?_ ?_
            rotate_left
            · (intro w hSw; (have hT0 := cell_keep T0 hSw); (have hT1 := cell_keep T1 hSw); (have hT2 := cell_keep T2 hSw); (have hT3 := cell_keep T3 hSw); (have hT4 := cell_keep T4 hSw); (have hT5 := cell_keep T5 hSw); (have hT6 := cell_keep T6 hSw); (have hH0 := cell_keep H0 hSw); (have hH1 := cell_keep H1 hSw); (have hH2 := cell_keep H2 hSw); (have hH3 := cell_keep H3 hSw); (have hH4 := cell_keep H4 hSw); (have hH5 := cell_keep H5 hSw); (have hH6 := cell_keep H6 hSw); (have hH7 := cell_keep H7 hSw); (have hH8 := cell_keep H8 hSw); (have hH9 := cell_keep H9 hSw); (have hH10 := cell_keep H10 hSw); (have hH11 := cell_keep H11 hSw); (have hL0 := cell_keep L0 hSw); (have hL1 := cell_keep L1 hSw); go_simp <;> with_reducible rfl)
            refine tkF 8 (some 25) ?_
            refine tkF 9 (some 26) ?_
            refine tkE 10 (some 27) ?_ ?_ ?_
            rotate_left
            · (intro w hSw; go_simp; (first | with_reducible rfl | (rw [hw1, if_pos (by decide)]; show Result.ok (Next.value (.pointer (some ⟨g, 12, none⟩))) w = _; with_reducible rfl) | (rw [hw0, if_pos (by decide)]; show Result.ok (Next.value (.pointer (some ⟨g, 0, none⟩))) w = _; with_reducible rfl) | fail))
            refine tkF 11 (some 28) ?_
            refine tkE 12 (some 29) ?_ ?_ ?_
            rotate_left
            · (intro w hSw; (have hT0 := cell_keep T0 hSw); (have hT1 := cell_keep T1 hSw); (have hT2 := cell_keep T2 hSw); (have hT3 := cell_keep T3 hSw); (have hT4 := cell_keep T4 hSw); (have hT5 := cell_keep T5 hSw); (have hT6 := cell_keep T6 hSw); (have hH0 := cell_keep H0 hSw); (have hH1 := cell_keep H1 hSw); (have hH2 := cell_keep H2 hSw); (have hH3 := cell_keep H3 hSw); (have hH4 := cell_keep H4 hSw); (have hH5 := cell_keep H5 hSw); (have hH6 := cell_keep H6 hSw); (have hH7 := cell_keep H7 hSw); (have hH8 := cell_keep H8 hSw); (have hH9 := cell_keep H9 hSw); (have hH10 := cell_keep H10 hSw); (have hH11 := cell_keep H11 hSw); (have hL0 := cell_keep L0 hSw); (have hL1 := cell_keep L1 hSw); go_simp <;> with_reducible rfl)
            refine takeD (i := 13) (d := some 30) (v := .bool false) rfl rfl (by kernel_rfl) (by kernel_rfl) (by kernel_rfl) (fun _ _ _ h => h) (Or.inl ⟨by rfl, (by intro w hSw; first | (go_simp; done) | (go_simp; first | rfl | simp))⟩) (by assumption) ?_
            simp only [Act.put, List.setIfInBounds_toArray, List.set_cons_zero, List.set_cons_succ]
            refine tkF 14 (some 31) ?_
            refine tkF 15 (some 32) ?_
            refine tkF 16 (some 33) ?_
            refine tkF 17 (some 34) ?_
            refine tkE 18 (some 35) ?_ ?_ ?_
            rotate_left
            · (intro w hSw; (have hT0 := cell_keep T0 hSw); (have hT1 := cell_keep T1 hSw); (have hT2 := cell_keep T2 hSw); (have hT3 := cell_keep T3 hSw); (have hT4 := cell_keep T4 hSw); (have hT5 := cell_keep T5 hSw); (have hT6 := cell_keep T6 hSw); (have hH0 := cell_keep H0 hSw); (have hH1 := cell_keep H1 hSw); (have hH2 := cell_keep H2 hSw); (have hH3 := cell_keep H3 hSw); (have hH4 := cell_keep H4 hSw); (have hH5 := cell_keep H5 hSw); (have hH6 := cell_keep H6 hSw); (have hH7 := cell_keep H7 hSw); (have hH8 := cell_keep H8 hSw); (have hH9 := cell_keep H9 hSw); (have hH10 := cell_keep H10 hSw); (have hH11 := cell_keep H11 hSw); (have hL0 := cell_keep L0 hSw); (have hL1 := cell_keep L1 hSw); go_simp <;> with_reducible rfl)
            refine tkF 19 (some 36) ?_
            refine takeD (i := 20) (d := some 37) (v := .bool false) rfl rfl (by kernel_rfl) (by kernel_rfl) (by kernel_rfl) (fun _ _ _ h => h) (Or.inl ⟨by rfl, (by intro w hSw; first | (go_simp; done) | (go_simp; first | rfl | simp))⟩) (by assumption) ?_
            simp only [Act.put, List.setIfInBounds_toArray, List.set_cons_zero, List.set_cons_succ]
            refine tkF 21 (some 38) ?_
            refine tkF 22 (some 39) ?_
            refine tkF 23 (some 40) ?_
            refine tkF 24 (some 41) ?_
            refine tkE 25 (some 42) ?_ ?_ ?_
            rotate_left
            · (intro w hSw; (have hT0 := cell_keep T0 hSw); (have hT1 := cell_keep T1 hSw); (have hT2 := cell_keep T2 hSw); (have hT3 := cell_keep T3 hSw); (have hT4 := cell_keep T4 hSw); (have hT5 := cell_keep T5 hSw); (have hT6 := cell_keep T6 hSw); (have hH0 := cell_keep H0 hSw); (have hH1 := cell_keep H1 hSw); (have hH2 := cell_keep H2 hSw); (have hH3 := cell_keep H3 hSw); (have hH4 := cell_keep H4 hSw); (have hH5 := cell_keep H5 hSw); (have hH6 := cell_keep H6 hSw); (have hH7 := cell_keep H7 hSw); (have hH8 := cell_keep H8 hSw); (have hH9 := cell_keep H9 hSw); (have hH10 := cell_keep H10 hSw); (have hH11 := cell_keep H11 hSw); (have hL0 := cell_keep L0 hSw); (have hL1 := cell_keep L1 hSw); go_simp <;> with_reducible rfl)
            refine tkF 26 (some 43) ?_
            refine takeD (i := 27) (d := some 44) (v := .bool true) rfl rfl (by kernel_rfl) (by kernel_rfl) (by kernel_rfl) (fun _ _ _ h => h) (Or.inl ⟨by rfl, (by intro w hSw; first | (go_simp; done) | (go_simp; first | rfl | omega | assumption | rw [decide_eq_true h4'] | simp [h4'] | (simp; omega)))⟩) (by assumption) ?_
            simp only [Act.put, List.setIfInBounds_toArray, List.set_cons_zero, List.set_cons_succ]
            refine tkF 28 (some 45) ?_
            refine tkF 29 (some 46) ?_
            refine tkS 30 (some 47) ?_
            refine tkS 31 (some 48) ?_
            refine tkS 32 (some 49) ?_
            refine tkS 33 (some 50) ?_
            refine tkF 34 (some 51) ?_
            refine tkF 35 (some 52) ?_
            refine tkS 36 (some 53) ?_
            refine tkS 37 (some 54) ?_
            refine tkS 38 (some 55) ?_
            refine tkS 39 (some 56) ?_
            refine tkS 40 (some 57) ?_
            refine tkF 41 (some 58) ?_
            refine wpAnyH_done (by kernel_rfl) ?_ _
            go_wp2
            go_ret
            exact ⟨ret_b (by rw [HO.out]; simp [restE, doneE, h4]), kb BW (by assumption) (Nat.le_refl _)⟩
          rw [h4] at H9
          by_cases h5 : co.size = 0
          case neg =>
            have h5' : ¬ co.toList = [] := not_nil h5
            refine wp_region_held_drew (S := (fun w' => Below W1.heap.size W1 w')) (by kernel_rfl) ?_ (fun hHeld => ?_)
            · exact (Below.refl _ _).drew
            refine tkF 0 (some 17) ?_
            refine tkE 1 (some 18) ?_ ?_ ?_
            rotate_left
            · (intro w hSw; (have hT0 := cell_keep T0 hSw); (have hT1 := cell_keep T1 hSw); (have hT2 := cell_keep T2 hSw); (have hT3 := cell_keep T3 hSw); (have hT4 := cell_keep T4 hSw); (have hT5 := cell_keep T5 hSw); (have hT6 := cell_keep T6 hSw); (have hH0 := cell_keep H0 hSw); (have hH1 := cell_keep H1 hSw); (have hH2 := cell_keep H2 hSw); (have hH3 := cell_keep H3 hSw); (have hH4 := cell_keep H4 hSw); (have hH5 := cell_keep H5 hSw); (have hH6 := cell_keep H6 hSw); (have hH7 := cell_keep H7 hSw); (have hH8 := cell_keep H8 hSw); (have hH9 := cell_keep H9 hSw); (have hH10 := cell_keep H10 hSw); (have hH11 := cell_keep H11 hSw); (have hL0 := cell_keep L0 hSw); (have hL1 := cell_keep L1 hSw); go_simp <;> with_reducible rfl)
            refine tkF 2 (some 19) ?_
            refine tkF 3 (some 20) ?_
            refine tkF 4 (some 21) ?_
            refine tkE 5 (some 22) ?_ ?_ ?_
            rotate_left
            · (intro w hSw; (have hT0 := cell_keep T0 hSw); (have hT1 := cell_keep T1 hSw); (have hT2 := cell_keep T2 hSw); (have hT3 := cell_keep T3 hSw); (have hT4 := cell_keep T4 hSw); (have hT5 := cell_keep T5 hSw); (have hT6 := cell_keep T6 hSw); (have hH0 := cell_keep H0 hSw); (have hH1 := cell_keep H1 hSw); (have hH2 := cell_keep H2 hSw); (have hH3 := cell_keep H3 hSw); (have hH4 := cell_keep H4 hSw); (have hH5 := cell_keep H5 hSw); (have hH6 := cell_keep H6 hSw); (have hH7 := cell_keep H7 hSw); (have hH8 := cell_keep H8 hSw); (have hH9 := cell_keep H9 hSw); (have hH10 := cell_keep H10 hSw); (have hH11 := cell_keep H11 hSw); (have hL0 := cell_keep L0 hSw); (have hL1 := cell_keep L1 hSw); go_simp <;> with_reducible rfl)
            refine tkF 6 (some 23) ?_
            refine tkE 7 (some 24) ?_ ?_ ?_
            rotate_left
            · (intro w hSw; (have hT0 := cell_keep T0 hSw); (have hT1 := cell_keep T1 hSw); (have hT2 := cell_keep T2 hSw); (have hT3 := cell_keep T3 hSw); (have hT4 := cell_keep T4 hSw); (have hT5 := cell_keep T5 hSw); (have hT6 := cell_keep T6 hSw); (have hH0 := cell_keep H0 hSw); (have hH1 := cell_keep H1 hSw); (have hH2 := cell_keep H2 hSw); (have hH3 := cell_keep H3 hSw); (have hH4 := cell_keep H4 hSw); (have hH5 := cell_keep H5 hSw); (have hH6 := cell_keep H6 hSw); (have hH7 := cell_keep H7 hSw); (have hH8 := cell_keep H8 hSw); (have hH9 := cell_keep H9 hSw); (have hH10 := cell_keep H10 hSw); (have hH11 := cell_keep H11 hSw); (have hL0 := cell_keep L0 hSw); (have hL1 := cell_keep L1 hSw); go_simp <;> with_reducible rfl)
            refine tkF 8 (some 25) ?_
            refine tkF 9 (some 26) ?_
            refine tkE 10 (some 27) ?_ ?_ ?_
            rotate_left
            · (intro w hSw; go_simp; (first | with_reducible rfl | (rw [hw1, if_pos (by decide)]; show Result.ok (Next.value (.pointer (some ⟨g, 12, none⟩))) w = _; with_reducible rfl) | (rw [hw0, if_pos (by decide)]; show Result.ok (Next.value (.pointer (some ⟨g, 0, none⟩))) w = _; with_reducible rfl) | fail))
            refine tkF 11 (some 28) ?_
            refine tkE 12 (some 29) ?_ ?_ ?_
            rotate_left
            · (intro w hSw; (have hT0 := cell_keep T0 hSw); (have hT1 := cell_keep T1 hSw); (have hT2 := cell_keep T2 hSw); (have hT3 := cell_keep T3 hSw); (have hT4 := cell_keep T4 hSw); (have hT5 := cell_keep T5 hSw); (have hT6 := cell_keep T6 hSw); (have hH0 := cell_keep H0 hSw); (have hH1 := cell_keep H1 hSw); (have hH2 := cell_keep H2 hSw); (have hH3 := cell_keep H3 hSw); (have hH4 := cell_keep H4 hSw); (have hH5 := cell_keep H5 hSw); (have hH6 := cell_keep H6 hSw); (have hH7 := cell_keep H7 hSw); (have hH8 := cell_keep H8 hSw); (have hH9 := cell_keep H9 hSw); (have hH10 := cell_keep H10 hSw); (have hH11 := cell_keep H11 hSw); (have hL0 := cell_keep L0 hSw); (have hL1 := cell_keep L1 hSw); go_simp <;> with_reducible rfl)
            refine takeD (i := 13) (d := some 30) (v := .bool false) rfl rfl (by kernel_rfl) (by kernel_rfl) (by kernel_rfl) (fun _ _ _ h => h) (Or.inl ⟨by rfl, (by intro w hSw; first | (go_simp; done) | (go_simp; first | rfl | simp))⟩) (by assumption) ?_
            simp only [Act.put, List.setIfInBounds_toArray, List.set_cons_zero, List.set_cons_succ]
            refine tkF 14 (some 31) ?_
            refine tkF 15 (some 32) ?_
            refine tkF 16 (some 33) ?_
            refine tkF 17 (some 34) ?_
            refine tkE 18 (some 35) ?_ ?_ ?_
            rotate_left
            · (intro w hSw; (have hT0 := cell_keep T0 hSw); (have hT1 := cell_keep T1 hSw); (have hT2 := cell_keep T2 hSw); (have hT3 := cell_keep T3 hSw); (have hT4 := cell_keep T4 hSw); (have hT5 := cell_keep T5 hSw); (have hT6 := cell_keep T6 hSw); (have hH0 := cell_keep H0 hSw); (have hH1 := cell_keep H1 hSw); (have hH2 := cell_keep H2 hSw); (have hH3 := cell_keep H3 hSw); (have hH4 := cell_keep H4 hSw); (have hH5 := cell_keep H5 hSw); (have hH6 := cell_keep H6 hSw); (have hH7 := cell_keep H7 hSw); (have hH8 := cell_keep H8 hSw); (have hH9 := cell_keep H9 hSw); (have hH10 := cell_keep H10 hSw); (have hH11 := cell_keep H11 hSw); (have hL0 := cell_keep L0 hSw); (have hL1 := cell_keep L1 hSw); go_simp <;> with_reducible rfl)
            refine tkF 19 (some 36) ?_
            refine takeD (i := 20) (d := some 37) (v := .bool false) rfl rfl (by kernel_rfl) (by kernel_rfl) (by kernel_rfl) (fun _ _ _ h => h) (Or.inl ⟨by rfl, (by intro w hSw; first | (go_simp; done) | (go_simp; first | rfl | simp))⟩) (by assumption) ?_
            simp only [Act.put, List.setIfInBounds_toArray, List.set_cons_zero, List.set_cons_succ]
            refine tkF 21 (some 38) ?_
            refine tkF 22 (some 39) ?_
            refine tkF 23 (some 40) ?_
            refine tkF 24 (some 41) ?_
            refine tkE 25 (some 42) ?_ ?_ ?_
            rotate_left
            · (intro w hSw; (have hT0 := cell_keep T0 hSw); (have hT1 := cell_keep T1 hSw); (have hT2 := cell_keep T2 hSw); (have hT3 := cell_keep T3 hSw); (have hT4 := cell_keep T4 hSw); (have hT5 := cell_keep T5 hSw); (have hT6 := cell_keep T6 hSw); (have hH0 := cell_keep H0 hSw); (have hH1 := cell_keep H1 hSw); (have hH2 := cell_keep H2 hSw); (have hH3 := cell_keep H3 hSw); (have hH4 := cell_keep H4 hSw); (have hH5 := cell_keep H5 hSw); (have hH6 := cell_keep H6 hSw); (have hH7 := cell_keep H7 hSw); (have hH8 := cell_keep H8 hSw); (have hH9 := cell_keep H9 hSw); (have hH10 := cell_keep H10 hSw); (have hH11 := cell_keep H11 hSw); (have hL0 := cell_keep L0 hSw); (have hL1 := cell_keep L1 hSw); go_simp <;> with_reducible rfl)
            refine tkF 26 (some 43) ?_
            refine takeD (i := 27) (d := some 44) (v := .bool false) rfl rfl (by kernel_rfl) (by kernel_rfl) (by kernel_rfl) (fun _ _ _ h => h) (Or.inl ⟨by rfl, (by intro w hSw; first | (go_simp; done) | (go_simp; first | rfl | simp))⟩) (by assumption) ?_
            simp only [Act.put, List.setIfInBounds_toArray, List.set_cons_zero, List.set_cons_succ]
            refine tkF 28 (some 45) ?_
            refine tkF 29 (some 46) ?_
            refine tkF 30 (some 47) ?_
            refine tkF 31 (some 48) ?_
            refine tkE 32 (some 49) ?_ ?_ ?_
            rotate_left
            · (intro w hSw; (have hT0 := cell_keep T0 hSw); (have hT1 := cell_keep T1 hSw); (have hT2 := cell_keep T2 hSw); (have hT3 := cell_keep T3 hSw); (have hT4 := cell_keep T4 hSw); (have hT5 := cell_keep T5 hSw); (have hT6 := cell_keep T6 hSw); (have hH0 := cell_keep H0 hSw); (have hH1 := cell_keep H1 hSw); (have hH2 := cell_keep H2 hSw); (have hH3 := cell_keep H3 hSw); (have hH4 := cell_keep H4 hSw); (have hH5 := cell_keep H5 hSw); (have hH6 := cell_keep H6 hSw); (have hH7 := cell_keep H7 hSw); (have hH8 := cell_keep H8 hSw); (have hH9 := cell_keep H9 hSw); (have hH10 := cell_keep H10 hSw); (have hH11 := cell_keep H11 hSw); (have hL0 := cell_keep L0 hSw); (have hL1 := cell_keep L1 hSw); go_simp <;> with_reducible rfl)
            refine takeD (i := 33) (d := some 50) (v := .bool true) rfl rfl (by kernel_rfl) (by kernel_rfl) (by kernel_rfl) (fun _ _ _ h => h) (Or.inl ⟨by rfl, (by intro w hSw; first | (go_simp; done) | (go_simp; first | rfl | omega | assumption | rw [decide_eq_true h5'] | simp [h5'] | (simp; omega)))⟩) (by assumption) ?_
            simp only [Act.put, List.setIfInBounds_toArray, List.set_cons_zero, List.set_cons_succ]
            refine tkF 34 (some 51) ?_
            refine tkF 35 (some 52) ?_
            refine tkS 36 (some 53) ?_
            refine tkS 37 (some 54) ?_
            refine tkS 38 (some 55) ?_
            refine tkS 39 (some 56) ?_
            refine tkS 40 (some 57) ?_
            refine tkF 41 (some 58) ?_
            refine wpAnyH_done (by kernel_rfl) ?_ _
            go_wp2
            go_ret
            exact ⟨ret_b (by rw [HO.out]; simp [restE, doneE, h5]), kb BW (by assumption) (Nat.le_refl _)⟩
          rw [str_nil h5] at H10
          by_cases h6 : crs.length = 0
          case neg =>
            have h6' : (0 : Int) < crs.length := by omega
            refine wp_region_held_drew (S := (fun w' => Below W1.heap.size W1 w')) (by kernel_rfl) ?_ (fun hHeld => ?_)
            · exact (Below.refl _ _).drew
            refine tkF 0 (some 17) ?_
            refine tkE 1 (some 18) ?_ ?_ ?_
            rotate_left
            · (intro w hSw; (have hT0 := cell_keep T0 hSw); (have hT1 := cell_keep T1 hSw); (have hT2 := cell_keep T2 hSw); (have hT3 := cell_keep T3 hSw); (have hT4 := cell_keep T4 hSw); (have hT5 := cell_keep T5 hSw); (have hT6 := cell_keep T6 hSw); (have hH0 := cell_keep H0 hSw); (have hH1 := cell_keep H1 hSw); (have hH2 := cell_keep H2 hSw); (have hH3 := cell_keep H3 hSw); (have hH4 := cell_keep H4 hSw); (have hH5 := cell_keep H5 hSw); (have hH6 := cell_keep H6 hSw); (have hH7 := cell_keep H7 hSw); (have hH8 := cell_keep H8 hSw); (have hH9 := cell_keep H9 hSw); (have hH10 := cell_keep H10 hSw); (have hH11 := cell_keep H11 hSw); (have hL0 := cell_keep L0 hSw); (have hL1 := cell_keep L1 hSw); go_simp <;> with_reducible rfl)
            refine tkF 2 (some 19) ?_
            refine tkF 3 (some 20) ?_
            refine tkF 4 (some 21) ?_
            refine tkE 5 (some 22) ?_ ?_ ?_
            rotate_left
            · (intro w hSw; (have hT0 := cell_keep T0 hSw); (have hT1 := cell_keep T1 hSw); (have hT2 := cell_keep T2 hSw); (have hT3 := cell_keep T3 hSw); (have hT4 := cell_keep T4 hSw); (have hT5 := cell_keep T5 hSw); (have hT6 := cell_keep T6 hSw); (have hH0 := cell_keep H0 hSw); (have hH1 := cell_keep H1 hSw); (have hH2 := cell_keep H2 hSw); (have hH3 := cell_keep H3 hSw); (have hH4 := cell_keep H4 hSw); (have hH5 := cell_keep H5 hSw); (have hH6 := cell_keep H6 hSw); (have hH7 := cell_keep H7 hSw); (have hH8 := cell_keep H8 hSw); (have hH9 := cell_keep H9 hSw); (have hH10 := cell_keep H10 hSw); (have hH11 := cell_keep H11 hSw); (have hL0 := cell_keep L0 hSw); (have hL1 := cell_keep L1 hSw); go_simp <;> with_reducible rfl)
            refine tkF 6 (some 23) ?_
            refine tkE 7 (some 24) ?_ ?_ ?_
            rotate_left
            · (intro w hSw; (have hT0 := cell_keep T0 hSw); (have hT1 := cell_keep T1 hSw); (have hT2 := cell_keep T2 hSw); (have hT3 := cell_keep T3 hSw); (have hT4 := cell_keep T4 hSw); (have hT5 := cell_keep T5 hSw); (have hT6 := cell_keep T6 hSw); (have hH0 := cell_keep H0 hSw); (have hH1 := cell_keep H1 hSw); (have hH2 := cell_keep H2 hSw); (have hH3 := cell_keep H3 hSw); (have hH4 := cell_keep H4 hSw); (have hH5 := cell_keep H5 hSw); (have hH6 := cell_keep H6 hSw); (have hH7 := cell_keep H7 hSw); (have hH8 := cell_keep H8 hSw); (have hH9 := cell_keep H9 hSw); (have hH10 := cell_keep H10 hSw); (have hH11 := cell_keep H11 hSw); (have hL0 := cell_keep L0 hSw); (have hL1 := cell_keep L1 hSw); go_simp <;> with_reducible rfl)
            refine tkF 8 (some 25) ?_
            refine tkF 9 (some 26) ?_
            refine tkE 10 (some 27) ?_ ?_ ?_
            rotate_left
            · (intro w hSw; go_simp; (first | with_reducible rfl | (rw [hw1, if_pos (by decide)]; show Result.ok (Next.value (.pointer (some ⟨g, 12, none⟩))) w = _; with_reducible rfl) | (rw [hw0, if_pos (by decide)]; show Result.ok (Next.value (.pointer (some ⟨g, 0, none⟩))) w = _; with_reducible rfl) | fail))
            refine tkF 11 (some 28) ?_
            refine tkE 12 (some 29) ?_ ?_ ?_
            rotate_left
            · (intro w hSw; (have hT0 := cell_keep T0 hSw); (have hT1 := cell_keep T1 hSw); (have hT2 := cell_keep T2 hSw); (have hT3 := cell_keep T3 hSw); (have hT4 := cell_keep T4 hSw); (have hT5 := cell_keep T5 hSw); (have hT6 := cell_keep T6 hSw); (have hH0 := cell_keep H0 hSw); (have hH1 := cell_keep H1 hSw); (have hH2 := cell_keep H2 hSw); (have hH3 := cell_keep H3 hSw); (have hH4 := cell_keep H4 hSw); (have hH5 := cell_keep H5 hSw); (have hH6 := cell_keep H6 hSw); (have hH7 := cell_keep H7 hSw); (have hH8 := cell_keep H8 hSw); (have hH9 := cell_keep H9 hSw); (have hH10 := cell_keep H10 hSw); (have hH11 := cell_keep H11 hSw); (have hL0 := cell_keep L0 hSw); (have hL1 := cell_keep L1 hSw); go_simp <;> with_reducible rfl)
            refine takeD (i := 13) (d := some 30) (v := .bool false) rfl rfl (by kernel_rfl) (by kernel_rfl) (by kernel_rfl) (fun _ _ _ h => h) (Or.inl ⟨by rfl, (by intro w hSw; first | (go_simp; done) | (go_simp; first | rfl | simp))⟩) (by assumption) ?_
            simp only [Act.put, List.setIfInBounds_toArray, List.set_cons_zero, List.set_cons_succ]
            refine tkF 14 (some 31) ?_
            refine tkF 15 (some 32) ?_
            refine tkF 16 (some 33) ?_
            refine tkF 17 (some 34) ?_
            refine tkE 18 (some 35) ?_ ?_ ?_
            rotate_left
            · (intro w hSw; (have hT0 := cell_keep T0 hSw); (have hT1 := cell_keep T1 hSw); (have hT2 := cell_keep T2 hSw); (have hT3 := cell_keep T3 hSw); (have hT4 := cell_keep T4 hSw); (have hT5 := cell_keep T5 hSw); (have hT6 := cell_keep T6 hSw); (have hH0 := cell_keep H0 hSw); (have hH1 := cell_keep H1 hSw); (have hH2 := cell_keep H2 hSw); (have hH3 := cell_keep H3 hSw); (have hH4 := cell_keep H4 hSw); (have hH5 := cell_keep H5 hSw); (have hH6 := cell_keep H6 hSw); (have hH7 := cell_keep H7 hSw); (have hH8 := cell_keep H8 hSw); (have hH9 := cell_keep H9 hSw); (have hH10 := cell_keep H10 hSw); (have hH11 := cell_keep H11 hSw); (have hL0 := cell_keep L0 hSw); (have hL1 := cell_keep L1 hSw); go_simp <;> with_reducible rfl)
            refine tkF 19 (some 36) ?_
            refine takeD (i := 20) (d := some 37) (v := .bool false) rfl rfl (by kernel_rfl) (by kernel_rfl) (by kernel_rfl) (fun _ _ _ h => h) (Or.inl ⟨by rfl, (by intro w hSw; first | (go_simp; done) | (go_simp; first | rfl | simp))⟩) (by assumption) ?_
            simp only [Act.put, List.setIfInBounds_toArray, List.set_cons_zero, List.set_cons_succ]
            refine tkF 21 (some 38) ?_
            refine tkF 22 (some 39) ?_
            refine tkF 23 (some 40) ?_
            refine tkF 24 (some 41) ?_
            refine tkE 25 (some 42) ?_ ?_ ?_
            rotate_left
            · (intro w hSw; (have hT0 := cell_keep T0 hSw); (have hT1 := cell_keep T1 hSw); (have hT2 := cell_keep T2 hSw); (have hT3 := cell_keep T3 hSw); (have hT4 := cell_keep T4 hSw); (have hT5 := cell_keep T5 hSw); (have hT6 := cell_keep T6 hSw); (have hH0 := cell_keep H0 hSw); (have hH1 := cell_keep H1 hSw); (have hH2 := cell_keep H2 hSw); (have hH3 := cell_keep H3 hSw); (have hH4 := cell_keep H4 hSw); (have hH5 := cell_keep H5 hSw); (have hH6 := cell_keep H6 hSw); (have hH7 := cell_keep H7 hSw); (have hH8 := cell_keep H8 hSw); (have hH9 := cell_keep H9 hSw); (have hH10 := cell_keep H10 hSw); (have hH11 := cell_keep H11 hSw); (have hL0 := cell_keep L0 hSw); (have hL1 := cell_keep L1 hSw); go_simp <;> with_reducible rfl)
            refine tkF 26 (some 43) ?_
            refine takeD (i := 27) (d := some 44) (v := .bool false) rfl rfl (by kernel_rfl) (by kernel_rfl) (by kernel_rfl) (fun _ _ _ h => h) (Or.inl ⟨by rfl, (by intro w hSw; first | (go_simp; done) | (go_simp; first | rfl | simp))⟩) (by assumption) ?_
            simp only [Act.put, List.setIfInBounds_toArray, List.set_cons_zero, List.set_cons_succ]
            refine tkF 28 (some 45) ?_
            refine tkF 29 (some 46) ?_
            refine tkF 30 (some 47) ?_
            refine tkF 31 (some 48) ?_
            refine tkE 32 (some 49) ?_ ?_ ?_
            rotate_left
            · (intro w hSw; (have hT0 := cell_keep T0 hSw); (have hT1 := cell_keep T1 hSw); (have hT2 := cell_keep T2 hSw); (have hT3 := cell_keep T3 hSw); (have hT4 := cell_keep T4 hSw); (have hT5 := cell_keep T5 hSw); (have hT6 := cell_keep T6 hSw); (have hH0 := cell_keep H0 hSw); (have hH1 := cell_keep H1 hSw); (have hH2 := cell_keep H2 hSw); (have hH3 := cell_keep H3 hSw); (have hH4 := cell_keep H4 hSw); (have hH5 := cell_keep H5 hSw); (have hH6 := cell_keep H6 hSw); (have hH7 := cell_keep H7 hSw); (have hH8 := cell_keep H8 hSw); (have hH9 := cell_keep H9 hSw); (have hH10 := cell_keep H10 hSw); (have hH11 := cell_keep H11 hSw); (have hL0 := cell_keep L0 hSw); (have hL1 := cell_keep L1 hSw); go_simp <;> with_reducible rfl)
            refine takeD (i := 33) (d := some 50) (v := .bool false) rfl rfl (by kernel_rfl) (by kernel_rfl) (by kernel_rfl) (fun _ _ _ h => h) (Or.inl ⟨by rfl, (by intro w hSw; first | (go_simp; done) | (go_simp; first | rfl | simp))⟩) (by assumption) ?_
            simp only [Act.put, List.setIfInBounds_toArray, List.set_cons_zero, List.set_cons_succ]
            refine tkF 34 (some 51) ?_
            refine tkF 35 (some 52) ?_
            refine tkF 36 (some 53) ?_
            refine tkF 37 (some 54) ?_
            refine tkE 38 (some 55) ?_ ?_ ?_
            rotate_left
            · (intro w hSw; (have hT0 := cell_keep T0 hSw); (have hT1 := cell_keep T1 hSw); (have hT2 := cell_keep T2 hSw); (have hT3 := cell_keep T3 hSw); (have hT4 := cell_keep T4 hSw); (have hT5 := cell_keep T5 hSw); (have hT6 := cell_keep T6 hSw); (have hH0 := cell_keep H0 hSw); (have hH1 := cell_keep H1 hSw); (have hH2 := cell_keep H2 hSw); (have hH3 := cell_keep H3 hSw); (have hH4 := cell_keep H4 hSw); (have hH5 := cell_keep H5 hSw); (have hH6 := cell_keep H6 hSw); (have hH7 := cell_keep H7 hSw); (have hH8 := cell_keep H8 hSw); (have hH9 := cell_keep H9 hSw); (have hH10 := cell_keep H10 hSw); (have hH11 := cell_keep H11 hSw); (have hL0 := cell_keep L0 hSw); (have hL1 := cell_keep L1 hSw); go_simp <;> with_reducible rfl)
            refine tkF 39 (some 56) ?_
            refine takeD (i := 40) (d := some 57) (v := .bool true) rfl rfl (by kernel_rfl) (by kernel_rfl) (by kernel_rfl) (fun _ _ _ h => h) (Or.inl ⟨by rfl, (by intro w hSw; first | (go_simp; done) | (go_simp; first | rfl | omega | assumption | rw [decide_eq_true h6'] | simp [h6'] | (simp; omega)))⟩) (by assumption) ?_
            simp only [Act.put, List.setIfInBounds_toArray, List.set_cons_zero, List.set_cons_succ]
            refine tkF 41 (some 58) ?_
            refine wpAnyH_done (by kernel_rfl) ?_ _
            go_wp2
            go_ret
            exact ⟨ret_b (by rw [HO.out]; simp [restE, doneE, h6]), kb BW (by assumption) (Nat.le_refl _)⟩
          rw [h6] at H11
          refine wp_region_held_drew (S := (fun w' => Below W1.heap.size W1 w')) (by kernel_rfl) ?_ (fun hHeld => ?_)
          · exact (Below.refl _ _).drew
          refine tkF 0 (some 17) ?_
          refine tkE 1 (some 18) ?_ ?_ ?_
          rotate_left
          · (intro w hSw; (have hT0 := cell_keep T0 hSw); (have hT1 := cell_keep T1 hSw); (have hT2 := cell_keep T2 hSw); (have hT3 := cell_keep T3 hSw); (have hT4 := cell_keep T4 hSw); (have hT5 := cell_keep T5 hSw); (have hT6 := cell_keep T6 hSw); (have hH0 := cell_keep H0 hSw); (have hH1 := cell_keep H1 hSw); (have hH2 := cell_keep H2 hSw); (have hH3 := cell_keep H3 hSw); (have hH4 := cell_keep H4 hSw); (have hH5 := cell_keep H5 hSw); (have hH6 := cell_keep H6 hSw); (have hH7 := cell_keep H7 hSw); (have hH8 := cell_keep H8 hSw); (have hH9 := cell_keep H9 hSw); (have hH10 := cell_keep H10 hSw); (have hH11 := cell_keep H11 hSw); (have hL0 := cell_keep L0 hSw); (have hL1 := cell_keep L1 hSw); go_simp <;> with_reducible rfl)
          refine tkF 2 (some 19) ?_
          refine tkF 3 (some 20) ?_
          refine tkF 4 (some 21) ?_
          refine tkE 5 (some 22) ?_ ?_ ?_
          rotate_left
          · (intro w hSw; (have hT0 := cell_keep T0 hSw); (have hT1 := cell_keep T1 hSw); (have hT2 := cell_keep T2 hSw); (have hT3 := cell_keep T3 hSw); (have hT4 := cell_keep T4 hSw); (have hT5 := cell_keep T5 hSw); (have hT6 := cell_keep T6 hSw); (have hH0 := cell_keep H0 hSw); (have hH1 := cell_keep H1 hSw); (have hH2 := cell_keep H2 hSw); (have hH3 := cell_keep H3 hSw); (have hH4 := cell_keep H4 hSw); (have hH5 := cell_keep H5 hSw); (have hH6 := cell_keep H6 hSw); (have hH7 := cell_keep H7 hSw); (have hH8 := cell_keep H8 hSw); (have hH9 := cell_keep H9 hSw); (have hH10 := cell_keep H10 hSw); (have hH11 := cell_keep H11 hSw); (have hL0 := cell_keep L0 hSw); (have hL1 := cell_keep L1 hSw); go_simp <;> with_reducible rfl)
          refine tkF 6 (some 23) ?_
          refine tkE 7 (some 24) ?_ ?_ ?_
          rotate_left
          · (intro w hSw; (have hT0 := cell_keep T0 hSw); (have hT1 := cell_keep T1 hSw); (have hT2 := cell_keep T2 hSw); (have hT3 := cell_keep T3 hSw); (have hT4 := cell_keep T4 hSw); (have hT5 := cell_keep T5 hSw); (have hT6 := cell_keep T6 hSw); (have hH0 := cell_keep H0 hSw); (have hH1 := cell_keep H1 hSw); (have hH2 := cell_keep H2 hSw); (have hH3 := cell_keep H3 hSw); (have hH4 := cell_keep H4 hSw); (have hH5 := cell_keep H5 hSw); (have hH6 := cell_keep H6 hSw); (have hH7 := cell_keep H7 hSw); (have hH8 := cell_keep H8 hSw); (have hH9 := cell_keep H9 hSw); (have hH10 := cell_keep H10 hSw); (have hH11 := cell_keep H11 hSw); (have hL0 := cell_keep L0 hSw); (have hL1 := cell_keep L1 hSw); go_simp <;> with_reducible rfl)
          refine tkF 8 (some 25) ?_
          refine tkF 9 (some 26) ?_
          refine tkE 10 (some 27) ?_ ?_ ?_
          rotate_left
          · (intro w hSw; go_simp; (first | with_reducible rfl | (rw [hw1, if_pos (by decide)]; show Result.ok (Next.value (.pointer (some ⟨g, 12, none⟩))) w = _; with_reducible rfl) | (rw [hw0, if_pos (by decide)]; show Result.ok (Next.value (.pointer (some ⟨g, 0, none⟩))) w = _; with_reducible rfl) | fail))
          refine tkF 11 (some 28) ?_
          refine tkE 12 (some 29) ?_ ?_ ?_
          rotate_left
          · (intro w hSw; (have hT0 := cell_keep T0 hSw); (have hT1 := cell_keep T1 hSw); (have hT2 := cell_keep T2 hSw); (have hT3 := cell_keep T3 hSw); (have hT4 := cell_keep T4 hSw); (have hT5 := cell_keep T5 hSw); (have hT6 := cell_keep T6 hSw); (have hH0 := cell_keep H0 hSw); (have hH1 := cell_keep H1 hSw); (have hH2 := cell_keep H2 hSw); (have hH3 := cell_keep H3 hSw); (have hH4 := cell_keep H4 hSw); (have hH5 := cell_keep H5 hSw); (have hH6 := cell_keep H6 hSw); (have hH7 := cell_keep H7 hSw); (have hH8 := cell_keep H8 hSw); (have hH9 := cell_keep H9 hSw); (have hH10 := cell_keep H10 hSw); (have hH11 := cell_keep H11 hSw); (have hL0 := cell_keep L0 hSw); (have hL1 := cell_keep L1 hSw); go_simp <;> with_reducible rfl)
          refine takeD (i := 13) (d := some 30) (v := .bool false) rfl rfl (by kernel_rfl) (by kernel_rfl) (by kernel_rfl) (fun _ _ _ h => h) (Or.inl ⟨by rfl, (by intro w hSw; first | (go_simp; done) | (go_simp; first | rfl | simp))⟩) (by assumption) ?_
          simp only [Act.put, List.setIfInBounds_toArray, List.set_cons_zero, List.set_cons_succ]
          refine tkF 14 (some 31) ?_
          refine tkF 15 (some 32) ?_
          refine tkF 16 (some 33) ?_
          refine tkF 17 (some 34) ?_
          refine tkE 18 (some 35) ?_ ?_ ?_
          rotate_left
          · (intro w hSw; (have hT0 := cell_keep T0 hSw); (have hT1 := cell_keep T1 hSw); (have hT2 := cell_keep T2 hSw); (have hT3 := cell_keep T3 hSw); (have hT4 := cell_keep T4 hSw); (have hT5 := cell_keep T5 hSw); (have hT6 := cell_keep T6 hSw); (have hH0 := cell_keep H0 hSw); (have hH1 := cell_keep H1 hSw); (have hH2 := cell_keep H2 hSw); (have hH3 := cell_keep H3 hSw); (have hH4 := cell_keep H4 hSw); (have hH5 := cell_keep H5 hSw); (have hH6 := cell_keep H6 hSw); (have hH7 := cell_keep H7 hSw); (have hH8 := cell_keep H8 hSw); (have hH9 := cell_keep H9 hSw); (have hH10 := cell_keep H10 hSw); (have hH11 := cell_keep H11 hSw); (have hL0 := cell_keep L0 hSw); (have hL1 := cell_keep L1 hSw); go_simp <;> with_reducible rfl)
          refine tkF 19 (some 36) ?_
          refine takeD (i := 20) (d := some 37) (v := .bool false) rfl rfl (by kernel_rfl) (by kernel_rfl) (by kernel_rfl) (fun _ _ _ h => h) (Or.inl ⟨by rfl, (by intro w hSw; first | (go_simp; done) | (go_simp; first | rfl | simp))⟩) (by assumption) ?_
          simp only [Act.put, List.setIfInBounds_toArray, List.set_cons_zero, List.set_cons_succ]
          refine tkF 21 (some 38) ?_
          refine tkF 22 (some 39) ?_
          refine tkF 23 (some 40) ?_
          refine tkF 24 (some 41) ?_
          refine tkE 25 (some 42) ?_ ?_ ?_
          rotate_left
          · (intro w hSw; (have hT0 := cell_keep T0 hSw); (have hT1 := cell_keep T1 hSw); (have hT2 := cell_keep T2 hSw); (have hT3 := cell_keep T3 hSw); (have hT4 := cell_keep T4 hSw); (have hT5 := cell_keep T5 hSw); (have hT6 := cell_keep T6 hSw); (have hH0 := cell_keep H0 hSw); (have hH1 := cell_keep H1 hSw); (have hH2 := cell_keep H2 hSw); (have hH3 := cell_keep H3 hSw); (have hH4 := cell_keep H4 hSw); (have hH5 := cell_keep H5 hSw); (have hH6 := cell_keep H6 hSw); (have hH7 := cell_keep H7 hSw); (have hH8 := cell_keep H8 hSw); (have hH9 := cell_keep H9 hSw); (have hH10 := cell_keep H10 hSw); (have hH11 := cell_keep H11 hSw); (have hL0 := cell_keep L0 hSw); (have hL1 := cell_keep L1 hSw); go_simp <;> with_reducible rfl)
          refine tkF 26 (some 43) ?_
          refine takeD (i := 27) (d := some 44) (v := .bool false) rfl rfl (by kernel_rfl) (by kernel_rfl) (by kernel_rfl) (fun _ _ _ h => h) (Or.inl ⟨by rfl, (by intro w hSw; first | (go_simp; done) | (go_simp; first | rfl | simp))⟩) (by assumption) ?_
          simp only [Act.put, List.setIfInBounds_toArray, List.set_cons_zero, List.set_cons_succ]
          refine tkF 28 (some 45) ?_
          refine tkF 29 (some 46) ?_
          refine tkF 30 (some 47) ?_
          refine tkF 31 (some 48) ?_
          refine tkE 32 (some 49) ?_ ?_ ?_
          rotate_left
          · (intro w hSw; (have hT0 := cell_keep T0 hSw); (have hT1 := cell_keep T1 hSw); (have hT2 := cell_keep T2 hSw); (have hT3 := cell_keep T3 hSw); (have hT4 := cell_keep T4 hSw); (have hT5 := cell_keep T5 hSw); (have hT6 := cell_keep T6 hSw); (have hH0 := cell_keep H0 hSw); (have hH1 := cell_keep H1 hSw); (have hH2 := cell_keep H2 hSw); (have hH3 := cell_keep H3 hSw); (have hH4 := cell_keep H4 hSw); (have hH5 := cell_keep H5 hSw); (have hH6 := cell_keep H6 hSw); (have hH7 := cell_keep H7 hSw); (have hH8 := cell_keep H8 hSw); (have hH9 := cell_keep H9 hSw); (have hH10 := cell_keep H10 hSw); (have hH11 := cell_keep H11 hSw); (have hL0 := cell_keep L0 hSw); (have hL1 := cell_keep L1 hSw); go_simp <;> with_reducible rfl)
          refine takeD (i := 33) (d := some 50) (v := .bool false) rfl rfl (by kernel_rfl) (by kernel_rfl) (by kernel_rfl) (fun _ _ _ h => h) (Or.inl ⟨by rfl, (by intro w hSw; first | (go_simp; done) | (go_simp; first | rfl | simp))⟩) (by assumption) ?_
          simp only [Act.put, List.setIfInBounds_toArray, List.set_cons_zero, List.set_cons_succ]
          refine tkF 34 (some 51) ?_
          refine tkF 35 (some 52) ?_
          refine tkF 36 (some 53) ?_
          refine tkF 37 (some 54) ?_
          refine tkE 38 (some 55) ?_ ?_ ?_
          rotate_left
          · (intro w hSw; (have hT0 := cell_keep T0 hSw); (have hT1 := cell_keep T1 hSw); (have hT2 := cell_keep T2 hSw); (have hT3 := cell_keep T3 hSw); (have hT4 := cell_keep T4 hSw); (have hT5 := cell_keep T5 hSw); (have hT6 := cell_keep T6 hSw); (have hH0 := cell_keep H0 hSw); (have hH1 := cell_keep H1 hSw); (have hH2 := cell_keep H2 hSw); (have hH3 := cell_keep H3 hSw); (have hH4 := cell_keep H4 hSw); (have hH5 := cell_keep H5 hSw); (have hH6 := cell_keep H6 hSw); (have hH7 := cell_keep H7 hSw); (have hH8 := cell_keep H8 hSw); (have hH9 := cell_keep H9 hSw); (have hH10 := cell_keep H10 hSw); (have hH11 := cell_keep H11 hSw); (have hL0 := cell_keep L0 hSw); (have hL1 := cell_keep L1 hSw); go_simp <;> with_reducible rfl)
          refine tkF 39 (some 56) ?_
          refine takeD (i := 40) (d := some 57) (v := .bool false) rfl rfl (by kernel_rfl) (by kernel_rfl) (by kernel_rfl) (fun _ _ _ h => h) (Or.inl ⟨by rfl, (by intro w hSw; first | (go_simp; done) | (go_simp; first | rfl | simp))⟩) (by assumption) ?_
          simp only [Act.put, List.setIfInBounds_toArray, List.set_cons_zero, List.set_cons_succ]
          refine tkF 41 (some 58) ?_
          refine wpAnyH_done (by kernel_rfl) ?_ _
          have HP : Hid (restE ⟨cnum, cup, clife, cpeer, csince, cowes, cb, cxs, cnx, chs, co, crs⟩ ⟨anum, aup, alife, apeer, asince, aowes, ab, axs, anx, ahs, ao, ars⟩ = true) := (by simp [restE, doneE, h1, h2, h3, h4, h5, h6] : restE ⟨cnum, cup, clife, cpeer, csince, cowes, cb, cxs, cnx, chs, co, crs⟩ ⟨anum, aup, alife, apeer, asince, aowes, ab, axs, anx, ahs, ao, ars⟩ = true)
          have bs1 : w.heap.size + 1 ≤ W1.heap.size := by have := BV.size; simp at this; omega
          go_wp2
          go_roundw
          case rel => exact ⟨2, by omega, rfl, fun h => hr0.out (by omega), fun _ => HP.out, BV.trans (Below.mono (by assumption) bs1)⟩
          case measure => simp [intOf]
    · have hk2 : ((k : Nat) : Int) = 2 := by omega
      have HR : Hid (A = true) := (by rw [HO.out, hr0.out (by omega), hr1.out (by omega)]; rfl : A = true)
      rw [hk2]
      clear x0 x1 x2 x3 x4 x5 x6 X1 e0 e1 e2 e3 e4 e5 e6 e7 e8 e9 e10 e11 e12 e13 e14 e15 e16 e17 e18 e19 e20 e21 e22 e23
      go_wp2
      go_ret
      exact ⟨ret_b (by rw [HR.out]), hbel0⟩
theorem specIdle_any (key : ByteArray) (width : Int) (eo : Option Addr) (ce : Nat) (es : List Ev) (fo : Option Addr) (cf : Nat) (fl : List Pc) (fg : ByteArray) (go : Option Addr) (cg : Nat) (gv : List Rc) (ko : Option Addr) (ck : Nat) (tk : List Rc) (w : World) (hm : Sw 1048576 key es fl fg gv tk) (hr : Rwo w eo es fo fl go gv ko tk) :
    Calls Try.prog 5 #[.agg #[.string key, .int .i64 width, .slice eo es.length ce, .slice fo fl.length cf, .string fg, .slice go gv.length cg, .slice ko tk.length ck]] w fun e w' => e = .returned (.bool (woOk key width es fl gv tk && idleOk es)) ∧ Below w.heap.size w w' := by
  cases hV : woOk key width es fl gv tk with
  | false =>
    have HV : Hid (∀ u : World, Rwo u eo es fo fl go gv ko tk → Calls Try.prog 12 #[.agg #[.string key, .int .i64 width, .slice eo es.length ce, .slice fo fl.length cf, .string fg, .slice go gv.length cg, .slice ko tk.length ck]] u fun e u' => e = .returned (.bool false) ∧ Below u.heap.size u u') := fun u h => by have := specValidWorld_any key width eo ce es fo cf fl fg go cg gv ko ck tk u hm h; rw [hV] at this; exact this
    have B0 : Hid (Below w.heap.size w (w.alloc (.cells #[.string key, .int .i64 width, .slice eo es.length ce, .slice fo fl.length cf, .string fg, .slice go gv.length cg, .slice ko tk.length ck] 33))) := (Below.refl _ _).alloc (Nat.le_refl _) _
    have R0 : Hid (Rwo (w.alloc (.cells #[.string key, .int .i64 width, .slice eo es.length ce, .slice fo fl.length cf, .string fg, .slice go gv.length cg, .slice ko tk.length ck] 33)) eo es fo fl go gv ko tk) := hr.keep B0.out
    clear hr hm hV
    go_enter Try.func5, Try.ntmps5
    go_wp2_with (first
      | (go_at_call 12; refine (HV.out _ R0.out).mono ?_; rintro x w1 ⟨rfl, hb1⟩)
      | fail)
    go_ret
    exact ⟨ret_b rfl, kb B0.out hb1 (Nat.le_refl _)⟩
  | true =>
    obtain ⟨x, y, rfl⟩ := list2 (woOk_ends hV)
    obtain ⟨g, rfl, hg, hc, hd⟩ := Rs.two hr.ends.row
    have e1 := hm.ends 0 (by simp)
    have e2 := hm.ends 1 (by simp)
    simp only [List.getElem_cons_zero, List.getElem_cons_succ] at e1 e2
    obtain ⟨⟨anum, aup, alife, apeer, asince, aowes, ab, axs, anx, ahs, ao, ars⟩, p0, p1, p2, p3, p4, p5⟩ := x
    obtain ⟨⟨cnum, cup, clife, cpeer, csince, cowes, cb, cxs, cnx, chs, co, crs⟩, q0, q1, q2, q3, q4, q5⟩ := y
    exact specIdle_two key width g ce fo cf fl fg go cg gv ko ck tk anum aup alife apeer asince aowes ab axs anx ahs ao ars p0 p1 p2 p3 p4 p5 cnum cup clife cpeer csince cowes cb cxs cnx chs co crs q0 q1 q2 q3 q4 q5 w ⟨e1.n, e1.tk.n, e1.tk.k, e1.tk.o, e2.n, e2.tk.n, e2.tk.k, e2.tk.o⟩ hg ⟨hc.1, hc.2.1, hc.2.2.1, hc.2.2.2.1, hc.2.2.2.2.1, hc.2.2.2.2.2.1, hc.2.2.2.2.2.2.1, hc.2.2.2.2.2.2.2.1, hc.2.2.2.2.2.2.2.2.1, hc.2.2.2.2.2.2.2.2.2.1, hc.2.2.2.2.2.2.2.2.2.2.1, hc.2.2.2.2.2.2.2.2.2.2.2, hd.1, hd.2.1, hd.2.2.1, hd.2.2.2.1, hd.2.2.2.2.1, hd.2.2.2.2.2.1, hd.2.2.2.2.2.2.1, hd.2.2.2.2.2.2.2.1, hd.2.2.2.2.2.2.2.2.1, hd.2.2.2.2.2.2.2.2.2.1, hd.2.2.2.2.2.2.2.2.2.2.1, hd.2.2.2.2.2.2.2.2.2.2.2⟩ (fun u hb => by have := specValidWorld_any key width (some ⟨g, 0, none⟩) ce _ fo cf fl fg go cg gv ko ck tk u hm (hr.keep hb); rw [hV] at this; exact this) _ rfl
end Go.Proofs.Ytmliinglojmojab.mk

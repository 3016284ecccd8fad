/-
  IDLE WORLDS: impl.Idle.
-/
import Derived.Test.YtmliinglojmojabIdA
namespace Go.Proofs.Ytmliinglojmojab.mk
open Go.RowKit
set_option linter.unusedVariables false

set_option maxHeartbeats 1000000 in
theorem isDone_any (num : Int) (up : Bool) (life peer since : Int) (owes : Bool) (b : Int) (xs : List It) (nx : Int) (hs : List Hd) (o : ByteArray) (rs : List ByteArray) (p0 : Option Addr) (p1 : Nat) (p2 : Option Addr) (p3 : Nat) (p4 : Option Addr) (p5 : Nat) (w : World) (h1' : xs.length ≤ 1048576) (h2' : hs.length ≤ 1048576) (h3' : o.size ≤ 1048576) (h4' : rs.length ≤ 1048576) :
    Calls Try.prog 17 #[.agg #[.int .i64 num, .bool up, .int .i64 life, .int .i64 peer, .int .i64 since, .bool owes, .int .i64 b, .slice p0 xs.length p1, .int .i64 nx, .slice p2 hs.length p3, .string o, .slice p4 rs.length p5]] w fun e w' => e = .returned (.bool (doneE ⟨num, up, life, peer, since, owes, b, xs, nx, hs, o, rs⟩)) ∧ Below w.heap.size w w' := by
  have HB0 : Hid (∀ o' : Obj, Below w.heap.size w (w.alloc o')) := fun o' => (Below.refl _ _).alloc (Nat.le_refl _) _
  obtain ⟨n1, e1⟩ : ∃ n, n = xs.length := ⟨_, rfl⟩
  obtain ⟨n2, e2⟩ : ∃ n, n = hs.length := ⟨_, rfl⟩
  obtain ⟨n4, e4⟩ : ∃ n, n = rs.length := ⟨_, rfl⟩
  have HD : Hid (doneE ⟨num, up, life, peer, since, owes, b, xs, nx, hs, o, rs⟩ = (decide (n1 = 0) && decide (n2 = 0) && decide (o.size = 0) && decide (n4 = 0))) := (by rw [e1, e2, e4]; rfl : doneE ⟨num, up, life, peer, since, owes, b, xs, nx, hs, o, rs⟩ = (decide (n1 = 0) && decide (n2 = 0) && decide (o.size = 0) && decide (n4 = 0)))
  rw [HD.out]
  rw [← e1] at h1' ⊢
  rw [← e2] at h2' ⊢
  rw [← e4] at h4' ⊢
  clear e1 e2 e4 HD
  by_cases h1 : n1 = 0
  · subst h1
    by_cases h2 : n2 = 0
    · subst h2
      by_cases h3 : o.size = 0
      · obtain rfl := str_nil h3
        by_cases h4 : n4 = 0
        · subst h4
          go_enter Try.func17, Try.ntmps17
          go_wp2
          go_ret
          exact ⟨ret_b (by first | rfl | simp), HB0.out _⟩
        · skip
          go_enter Try.func17, Try.ntmps17
          go_wp2
          go_ret
          exact ⟨ret_b (by first | rfl | simp [h4]), HB0.out _⟩
      · have h3'' : ¬ o.toList = [] := not_nil h3
        go_enter Try.func17, Try.ntmps17
        go_wp2
        go_ret
        exact ⟨ret_b (by first | rfl | simp [h3]), HB0.out _⟩
    · skip
      go_enter Try.func17, Try.ntmps17
      go_wp2
      go_ret
      exact ⟨ret_b (by first | rfl | simp [h2]), HB0.out _⟩
  · skip
    go_enter Try.func17, Try.ntmps17
    go_wp2
    go_ret
    exact ⟨ret_b (by first | rfl | simp [h1]), HB0.out _⟩
set_option maxRecDepth 100000 in
set_option maxHeartbeats 8000000 in
theorem implIdle_two (key : ByteArray) (width : Int) (g ce : Nat) (fo : Option Addr) (cf : Nat) (fl : List Pc) (fg : ByteArray) (go : Option Addr) (cg : Nat) (gv : List Rc) (ko : Option Addr) (ck : Nat) (tk : List Rc)
    (anum : Int) (aup : Bool) (alife apeer asince : Int) (aowes : Bool) (ab : Int) (axs : List It) (anx : Int) (ahs : List Hd) (ao : ByteArray) (ars : List ByteArray) (p0 : Option Addr) (p1 : Nat) (p2 : Option Addr) (p3 : Nat) (p4 : Option Addr) (p5 : Nat)
    (cnum : Int) (cup : Bool) (clife cpeer csince : Int) (cowes : Bool) (cb : Int) (cxs : List It) (cnx : Int) (chs : List Hd) (co : ByteArray) (crs : List ByteArray) (q0 : Option Addr) (q1 : Nat) (q2 : Option Addr) (q3 : Nat) (q4 : Option Addr) (q5 : Nat)
    (w : World) (hz : axs.length ≤ 1048576 ∧ ahs.length ≤ 1048576 ∧ ars.length ≤ 1048576 ∧ ao.size ≤ 1048576 ∧ cxs.length ≤ 1048576 ∧ chs.length ≤ 1048576 ∧ crs.length ≤ 1048576 ∧ co.size ≤ 1048576)
    (hg : g < w.heap.size) (hc : w.cell? ⟨g, 0, none⟩ = some (.int .i64 anum) ∧ w.cell? ⟨g, 1, none⟩ = some (.bool aup) ∧ w.cell? ⟨g, 2, none⟩ = some (.int .i64 alife) ∧ w.cell? ⟨g, 3, none⟩ = some (.int .i64 apeer) ∧ w.cell? ⟨g, 4, none⟩ = some (.int .i64 asince) ∧ w.cell? ⟨g, 5, none⟩ = some (.bool aowes) ∧ w.cell? ⟨g, 6, none⟩ = some (.int .i64 ab) ∧ w.cell? ⟨g, 7, none⟩ = some (.slice p0 axs.length p1) ∧ w.cell? ⟨g, 8, none⟩ = some (.int .i64 anx) ∧ w.cell? ⟨g, 9, none⟩ = some (.slice p2 ahs.length p3) ∧ w.cell? ⟨g, 10, none⟩ = some (.string ao) ∧ w.cell? ⟨g, 11, none⟩ = some (.slice p4 ars.length p5) ∧ w.cell? ⟨g, 12, none⟩ = some (.int .i64 cnum) ∧ w.cell? ⟨g, 13, none⟩ = some (.bool cup) ∧ w.cell? ⟨g, 14, none⟩ = some (.int .i64 clife) ∧ w.cell? ⟨g, 15, none⟩ = some (.int .i64 cpeer) ∧ w.cell? ⟨g, 16, none⟩ = some (.int .i64 csince) ∧ w.cell? ⟨g, 17, none⟩ = some (.bool cowes) ∧ w.cell? ⟨g, 18, none⟩ = some (.int .i64 cb) ∧ w.cell? ⟨g, 19, none⟩ = some (.slice q0 cxs.length q1) ∧ w.cell? ⟨g, 20, none⟩ = some (.int .i64 cnx) ∧ w.cell? ⟨g, 21, none⟩ = some (.slice q2 chs.length q3) ∧ w.cell? ⟨g, 22, none⟩ = some (.string co) ∧ w.cell? ⟨g, 23, none⟩ = some (.slice q4 crs.length q5))
    (hv : ∀ u : World, Below w.heap.size w u → Calls Try.prog 16 #[.agg #[.string key, .int .i64 width, .slice (some ⟨g, 0, none⟩) 2 ce, .slice fo fl.length cf, .string fg, .slice go gv.length cg, .slice ko tk.length ck]] u fun e u' => e = .returned (.bool true) ∧ Below u.heap.size u u') (A : Bool) (hA : A = (restE ⟨anum, aup, alife, apeer, asince, aowes, ab, axs, anx, ahs, ao, ars⟩ ⟨cnum, cup, clife, cpeer, csince, cowes, cb, cxs, cnx, chs, co, crs⟩ && restE ⟨cnum, cup, clife, cpeer, csince, cowes, cb, cxs, cnx, chs, co, crs⟩ ⟨anum, aup, alife, apeer, asince, aowes, ab, axs, anx, ahs, ao, ars⟩)) :
    Calls Try.prog 7 #[.agg #[.string key, .int .i64 width, .slice (some ⟨g, 0, none⟩) 2 ce, .slice fo fl.length cf, .string fg, .slice go gv.length cg, .slice ko tk.length ck]] w fun e w' => e = .returned (.bool A) ∧ Below w.heap.size w w' := by
  have B0 : Hid (Below w.heap.size w (w.alloc (.cells #[.string key, .int .i64 width, .slice (some ⟨g, 0, none⟩) 2 ce, .slice fo fl.length cf, .string fg, .slice go gv.length cg, .slice ko tk.length ck] 33))) := (Below.refl _ _).alloc (Nat.le_refl _) _
  have X0 : Hid (Bx (w.alloc (.cells #[.string key, .int .i64 width, .slice (some ⟨g, 0, none⟩) 2 ce, .slice fo fl.length cf, .string fg, .slice go gv.length cg, .slice ko tk.length ck] 33)) w.heap.size 33 #[.string key, .int .i64 width, .slice (some ⟨g, 0, none⟩) 2 ce, .slice fo fl.length cf, .string fg, .slice go gv.length cg, .slice ko tk.length ck]) := Bx.new w _ _
  have HV : Hid (∀ u : World, Below w.heap.size w u → Calls Try.prog 16 #[.agg #[.string key, .int .i64 width, .slice (some ⟨g, 0, none⟩) 2 ce, .slice fo fl.length cf, .string fg, .slice go gv.length cg, .slice ko tk.length ck]] u fun e u' => e = .returned (.bool true) ∧ Below u.heap.size u u') := hv
  obtain ⟨D1, hD1⟩ : ∃ D, D = doneE ⟨anum, aup, alife, apeer, asince, aowes, ab, axs, anx, ahs, ao, ars⟩ := ⟨_, rfl⟩
  obtain ⟨D2, hD2⟩ : ∃ D, D = doneE ⟨cnum, cup, clife, cpeer, csince, cowes, cb, cxs, cnx, chs, co, crs⟩ := ⟨_, rfl⟩
  have K1 : Hid (∀ u : World, Calls Try.prog 17 #[.agg #[.int .i64 anum, .bool aup, .int .i64 alife, .int .i64 apeer, .int .i64 asince, .bool aowes, .int .i64 ab, .slice p0 axs.length p1, .int .i64 anx, .slice p2 ahs.length p3, .string ao, .slice p4 ars.length p5]] u fun e u' => e = .returned (.bool D1) ∧ Below u.heap.size u u') := fun u => by rw [hD1]; exact isDone_any anum aup alife apeer asince aowes ab axs anx ahs ao ars p0 p1 p2 p3 p4 p5 u hz.1 hz.2.1 hz.2.2.2.1 hz.2.2.1
  have K2 : Hid (∀ u : World, Calls Try.prog 17 #[.agg #[.int .i64 cnum, .bool cup, .int .i64 clife, .int .i64 cpeer, .int .i64 csince, .bool cowes, .int .i64 cb, .slice q0 cxs.length q1, .int .i64 cnx, .slice q2 chs.length q3, .string co, .slice q4 crs.length q5]] u fun e u' => e = .returned (.bool D2) ∧ Below u.heap.size u u') := fun u => by rw [hD2]; exact isDone_any cnum cup clife cpeer csince cowes cb cxs cnx chs co crs q0 q1 q2 q3 q4 q5 u hz.2.2.2.2.1 hz.2.2.2.2.2.1 hz.2.2.2.2.2.2.2 hz.2.2.2.2.2.2.1
  have HO : Hid (A = ((aup && decide (apeer = clife) && D1) && (cup && decide (cpeer = alife) && D2))) := (by rw [hA, hD1, hD2]; rfl : A = ((aup && decide (apeer = clife) && D1) && (cup && decide (cpeer = alife) && D2)))
  obtain ⟨c0, c1, c2, c3, c4, c5, c6, c7, c8, c9, c10, c11, c12, c13, c14, c15, c16, c17, c18, c19, c20, c21, c22, c23⟩ := hc
  clear hv hA hD1 hD2
  go_enter Try.func7, Try.ntmps7
  go_wp2_with (first
    | (go_at_call 16; refine (HV.out _ B0.out).mono ?_; rintro x w1 ⟨rfl, hb1⟩)
    | fail)
  have X1 := X0.out.keep hb1
  have B1 := kb B0.out hb1 (Nat.le_refl _)
  have x2 := X1.cell 2
  simp at x2
  have e0 := (B1.cell (p := ⟨g, 0, none⟩) hg).trans c0
  have e1 := (B1.cell (p := ⟨g, 1, none⟩) hg).trans c1
  have e2 := (B1.cell (p := ⟨g, 2, none⟩) hg).trans c2
  have e3 := (B1.cell (p := ⟨g, 3, none⟩) hg).trans c3
  have e4 := (B1.cell (p := ⟨g, 4, none⟩) hg).trans c4
  have e5 := (B1.cell (p := ⟨g, 5, none⟩) hg).trans c5
  have e6 := (B1.cell (p := ⟨g, 6, none⟩) hg).trans c6
  have e7 := (B1.cell (p := ⟨g, 7, none⟩) hg).trans c7
  have e8 := (B1.cell (p := ⟨g, 8, none⟩) hg).trans c8
  have e9 := (B1.cell (p := ⟨g, 9, none⟩) hg).trans c9
  have e10 := (B1.cell (p := ⟨g, 10, none⟩) hg).trans c10
  have e11 := (B1.cell (p := ⟨g, 11, none⟩) hg).trans c11
  have e12 := (B1.cell (p := ⟨g, 12, none⟩) hg).trans c12
  have e13 := (B1.cell (p := ⟨g, 13, none⟩) hg).trans c13
  have e14 := (B1.cell (p := ⟨g, 14, none⟩) hg).trans c14
  have e15 := (B1.cell (p := ⟨g, 15, none⟩) hg).trans c15
  have e16 := (B1.cell (p := ⟨g, 16, none⟩) hg).trans c16
  have e17 := (B1.cell (p := ⟨g, 17, none⟩) hg).trans c17
  have e18 := (B1.cell (p := ⟨g, 18, none⟩) hg).trans c18
  have e19 := (B1.cell (p := ⟨g, 19, none⟩) hg).trans c19
  have e20 := (B1.cell (p := ⟨g, 20, none⟩) hg).trans c20
  have e21 := (B1.cell (p := ⟨g, 21, none⟩) hg).trans c21
  have e22 := (B1.cell (p := ⟨g, 22, none⟩) hg).trans c22
  have e23 := (B1.cell (p := ⟨g, 23, none⟩) hg).trans c23
  clear c0 c1 c2 c3 c4 c5 c6 c7 c8 c9 c10 c11 c12 c13 c14 c15 c16 c17 c18 c19 c20 c21 c22 c23 X1 hb1
  refine wp_region_held_drew (S := (fun w' => Below w1.heap.size w1 w')) (by kernel_rfl) ?_ (fun hHeld => ?_)
  · exact (Below.refl _ _).drew
  refine tkF 0 (some 8) ?_
  refine tkE 1 (some 9) ?_ ?_ ?_
  rotate_left
  · (intro w hSw; (have hx2 := cell_keep x2 hSw); (have he0 := cell_keep e0 hSw); (have he1 := cell_keep e1 hSw); (have he2 := cell_keep e2 hSw); (have he3 := cell_keep e3 hSw); (have he4 := cell_keep e4 hSw); (have he5 := cell_keep e5 hSw); (have he6 := cell_keep e6 hSw); (have he7 := cell_keep e7 hSw); (have he8 := cell_keep e8 hSw); (have he9 := cell_keep e9 hSw); (have he10 := cell_keep e10 hSw); (have he11 := cell_keep e11 hSw); (have he12 := cell_keep e12 hSw); (have he13 := cell_keep e13 hSw); (have he14 := cell_keep e14 hSw); (have he15 := cell_keep e15 hSw); (have he16 := cell_keep e16 hSw); (have he17 := cell_keep e17 hSw); (have he18 := cell_keep e18 hSw); (have he19 := cell_keep e19 hSw); (have he20 := cell_keep e20 hSw); (have he21 := cell_keep e21 hSw); (have he22 := cell_keep e22 hSw); (have he23 := cell_keep e23 hSw); go_simp <;> with_reducible rfl)
  refine tkF 2 (some 10) ?_
  refine tkE 3 (some 11) ?_ ?_ ?_
  rotate_left
  · (intro w hSw; (have hx2 := cell_keep x2 hSw); (have he0 := cell_keep e0 hSw); (have he1 := cell_keep e1 hSw); (have he2 := cell_keep e2 hSw); (have he3 := cell_keep e3 hSw); (have he4 := cell_keep e4 hSw); (have he5 := cell_keep e5 hSw); (have he6 := cell_keep e6 hSw); (have he7 := cell_keep e7 hSw); (have he8 := cell_keep e8 hSw); (have he9 := cell_keep e9 hSw); (have he10 := cell_keep e10 hSw); (have he11 := cell_keep e11 hSw); (have he12 := cell_keep e12 hSw); (have he13 := cell_keep e13 hSw); (have he14 := cell_keep e14 hSw); (have he15 := cell_keep e15 hSw); (have he16 := cell_keep e16 hSw); (have he17 := cell_keep e17 hSw); (have he18 := cell_keep e18 hSw); (have he19 := cell_keep e19 hSw); (have he20 := cell_keep e20 hSw); (have he21 := cell_keep e21 hSw); (have he22 := cell_keep e22 hSw); (have he23 := cell_keep e23 hSw); go_simp <;> with_reducible rfl)
  refine tkF 4 (some 12) ?_
  refine tkE 5 (some 13) ?_ ?_ ?_
  rotate_left
  · (intro w hSw; (have hx2 := cell_keep x2 hSw); (have he0 := cell_keep e0 hSw); (have he1 := cell_keep e1 hSw); (have he2 := cell_keep e2 hSw); (have he3 := cell_keep e3 hSw); (have he4 := cell_keep e4 hSw); (have he5 := cell_keep e5 hSw); (have he6 := cell_keep e6 hSw); (have he7 := cell_keep e7 hSw); (have he8 := cell_keep e8 hSw); (have he9 := cell_keep e9 hSw); (have he10 := cell_keep e10 hSw); (have he11 := cell_keep e11 hSw); (have he12 := cell_keep e12 hSw); (have he13 := cell_keep e13 hSw); (have he14 := cell_keep e14 hSw); (have he15 := cell_keep e15 hSw); (have he16 := cell_keep e16 hSw); (have he17 := cell_keep e17 hSw); (have he18 := cell_keep e18 hSw); (have he19 := cell_keep e19 hSw); (have he20 := cell_keep e20 hSw); (have he21 := cell_keep e21 hSw); (have he22 := cell_keep e22 hSw); (have he23 := cell_keep e23 hSw); go_simp <;> with_reducible rfl)
  refine tkF 6 (some 14) ?_
  refine tkE 7 (some 15) ?_ ?_ ?_
  rotate_left
  · (intro w hSw; (have hx2 := cell_keep x2 hSw); (have he0 := cell_keep e0 hSw); (have he1 := cell_keep e1 hSw); (have he2 := cell_keep e2 hSw); (have he3 := cell_keep e3 hSw); (have he4 := cell_keep e4 hSw); (have he5 := cell_keep e5 hSw); (have he6 := cell_keep e6 hSw); (have he7 := cell_keep e7 hSw); (have he8 := cell_keep e8 hSw); (have he9 := cell_keep e9 hSw); (have he10 := cell_keep e10 hSw); (have he11 := cell_keep e11 hSw); (have he12 := cell_keep e12 hSw); (have he13 := cell_keep e13 hSw); (have he14 := cell_keep e14 hSw); (have he15 := cell_keep e15 hSw); (have he16 := cell_keep e16 hSw); (have he17 := cell_keep e17 hSw); (have he18 := cell_keep e18 hSw); (have he19 := cell_keep e19 hSw); (have he20 := cell_keep e20 hSw); (have he21 := cell_keep e21 hSw); (have he22 := cell_keep e22 hSw); (have he23 := cell_keep e23 hSw); go_simp <;> with_reducible rfl)
  refine wpAnyH_ready (rs := [8, 9]) (by kernel_rfl) (by simp) ?_
  refine AllReadyH.cons rfl (fun K hK => ?_) (AllReadyH.cons rfl (fun K hK => ?_) AllReadyH.nil)
  · skip
    go_simp
    refine hK.out _ _ ?_ (fun hHeld => ?_)
    · exact hHeld.alloc (by simp) _
    clear hK K
    try simp only [Act.put, List.setIfInBounds_toArray, List.set_cons_zero, List.set_cons_succ]
    refine wpAnyH_ready (rs := [9]) (by kernel_rfl) (by simp) ?_
    refine AllReadyH.cons rfl (fun K hK => ?_) AllReadyH.nil
    go_simp
    refine hK.out _ _ ?_ (fun hHeld => ?_)
    · exact hHeld.alloc (by simp) _
    clear hK K
    try simp only [Act.put, List.setIfInBounds_toArray, List.set_cons_zero, List.set_cons_succ]
    refine wpAnyH_ready (rs := [10]) (by kernel_rfl) (by simp) ?_
    refine AllReadyH.cons rfl (fun K hK => ?_) AllReadyH.nil
    go_simp
    refine hK.out _ _ ?_ (fun hHeld => ?_)
    · exact (((Below.refl _ _).alloc (Nat.le_refl _) _).alloc (by simp) _).drew
    clear hK K
    try simp only [Act.put, List.setIfInBounds_toArray, List.set_cons_zero, List.set_cons_succ]
    refine wpAnyH_ready (rs := [11]) (by kernel_rfl) (by simp) ?_
    refine AllReadyH.cons rfl (fun K hK => ?_) AllReadyH.nil
    go_simp
    refine hK.out _ _ ?_ (fun hHeld => ?_)
    · exact (((Below.refl _ _).alloc (Nat.le_refl _) _).alloc (by simp) _).drew
    clear hK K
    try simp only [Act.put, List.setIfInBounds_toArray, List.set_cons_zero, List.set_cons_succ]
    refine wpAnyH_done (by kernel_rfl) ?_ _
    have BW : Hid (Below w.heap.size w (((w1.alloc (.cells #[.int .i64 anum, .bool aup, .int .i64 alife, .int .i64 apeer, .int .i64 asince, .bool aowes, .int .i64 ab, .slice p0 axs.length p1, .int .i64 anx, .slice p2 ahs.length p3, .string ao, .slice p4 ars.length p5] 48)).alloc (.cells #[.int .i64 cnum, .bool cup, .int .i64 clife, .int .i64 cpeer, .int .i64 csince, .bool cowes, .int .i64 cb, .slice q0 cxs.length q1, .int .i64 cnx, .slice q2 chs.length q3, .string co, .slice q4 crs.length q5] 48)).drew)) := kb B1 ((((Below.refl _ _).alloc (Nat.le_refl _) _).alloc (by simp) _).drew) (Nat.le_refl _)
    clear hHeld x2 e0 e1 e2 e3 e4 e5 e6 e7 e8 e9 e10 e11 e12 e13 e14 e15 e16 e17 e18 e19 e20 e21 e22 e23
    cases aup with
    | false =>
      go_wp2
      go_ret
      exact ⟨ret_b (by rw [HO.out]; simp), BW.out⟩
    | true =>
      cases cup with
      | false =>
        go_wp2
        go_ret
        exact ⟨ret_b (by rw [HO.out]; simp), BW.out⟩
      | true =>
        by_cases h1 : apeer = clife
        case neg =>
          go_wp2
          go_ret
          exact ⟨ret_b (by rw [HO.out, decide_eq_false h1]; simp), BW.out⟩
        rw [decide_eq_true h1] at HO
        subst h1
        by_cases h2 : cpeer = alife
        case neg =>
          go_wp2
          go_ret
          exact ⟨ret_b (by rw [HO.out, decide_eq_false h2]; simp), BW.out⟩
        rw [decide_eq_true h2] at HO
        subst h2
        cases D1 with
        | false =>
          go_wp2_with (first | (go_at_call_of 17 (Value.bool aowes); refine (K1.out _).mono ?_; rintro x w2 ⟨rfl, hb2⟩; (have k0 := hb2.cell (p := ⟨w1.heap.size + 1, 0, none⟩) (by simp <;> omega)); (have k1 := hb2.cell (p := ⟨w1.heap.size + 1, 1, none⟩) (by simp <;> omega)); (have k2 := hb2.cell (p := ⟨w1.heap.size + 1, 2, none⟩) (by simp <;> omega)); (have k3 := hb2.cell (p := ⟨w1.heap.size + 1, 3, none⟩) (by simp <;> omega)); (have k4 := hb2.cell (p := ⟨w1.heap.size + 1, 4, none⟩) (by simp <;> omega)); (have k5 := hb2.cell (p := ⟨w1.heap.size + 1, 5, none⟩) (by simp <;> omega)); (have k6 := hb2.cell (p := ⟨w1.heap.size + 1, 6, none⟩) (by simp <;> omega)); (have k7 := hb2.cell (p := ⟨w1.heap.size + 1, 7, none⟩) (by simp <;> omega)); (have k8 := hb2.cell (p := ⟨w1.heap.size + 1, 8, none⟩) (by simp <;> omega)); (have k9 := hb2.cell (p := ⟨w1.heap.size + 1, 9, none⟩) (by simp <;> omega)); (have k10 := hb2.cell (p := ⟨w1.heap.size + 1, 10, none⟩) (by simp <;> omega)); (have k11 := hb2.cell (p := ⟨w1.heap.size + 1, 11, none⟩) (by simp <;> omega)); simp [go_sem] at k0 k1 k2 k3 k4 k5 k6 k7 k8 k9 k10 k11) | fail)
          go_ret
          exact ⟨ret_b (by rw [HO.out]; simp), kb BW.out hb2 (Nat.le_refl _)⟩
        | true =>
          go_wp2_with (first | (go_at_call_of 17 (Value.bool aowes); refine (K1.out _).mono ?_; rintro x w2 ⟨rfl, hb2⟩; (have k0 := hb2.cell (p := ⟨w1.heap.size + 1, 0, none⟩) (by simp <;> omega)); (have k1 := hb2.cell (p := ⟨w1.heap.size + 1, 1, none⟩) (by simp <;> omega)); (have k2 := hb2.cell (p := ⟨w1.heap.size + 1, 2, none⟩) (by simp <;> omega)); (have k3 := hb2.cell (p := ⟨w1.heap.size + 1, 3, none⟩) (by simp <;> omega)); (have k4 := hb2.cell (p := ⟨w1.heap.size + 1, 4, none⟩) (by simp <;> omega)); (have k5 := hb2.cell (p := ⟨w1.heap.size + 1, 5, none⟩) (by simp <;> omega)); (have k6 := hb2.cell (p := ⟨w1.heap.size + 1, 6, none⟩) (by simp <;> omega)); (have k7 := hb2.cell (p := ⟨w1.heap.size + 1, 7, none⟩) (by simp <;> omega)); (have k8 := hb2.cell (p := ⟨w1.heap.size + 1, 8, none⟩) (by simp <;> omega)); (have k9 := hb2.cell (p := ⟨w1.heap.size + 1, 9, none⟩) (by simp <;> omega)); (have k10 := hb2.cell (p := ⟨w1.heap.size + 1, 10, none⟩) (by simp <;> omega)); (have k11 := hb2.cell (p := ⟨w1.heap.size + 1, 11, none⟩) (by simp <;> omega)); simp [go_sem] at k0 k1 k2 k3 k4 k5 k6 k7 k8 k9 k10 k11) | (go_at_call_of 17 (Value.bool cowes); refine (K2.out _).mono ?_; rintro x w3 ⟨rfl, hb3⟩) | fail)
          go_ret
          exact ⟨ret_b (by rw [HO.out]; simp), kb (kb BW.out hb2 (Nat.le_refl _)) hb3 (Nat.le_refl _)⟩
  · skip
    go_simp
    refine hK.out _ _ ?_ (fun hHeld => ?_)
    · exact hHeld.alloc (by simp) _
    clear hK K
    try simp only [Act.put, List.setIfInBounds_toArray, List.set_cons_zero, List.set_cons_succ]
    refine wpAnyH_ready (rs := [8]) (by kernel_rfl) (by simp) ?_
    refine AllReadyH.cons rfl (fun K hK => ?_) AllReadyH.nil
    go_simp
    refine hK.out _ _ ?_ (fun hHeld => ?_)
    · exact hHeld.alloc (by simp) _
    clear hK K
    try simp only [Act.put, List.setIfInBounds_toArray, List.set_cons_zero, List.set_cons_succ]
    refine wpAnyH_ready (rs := [10]) (by kernel_rfl) (by simp) ?_
    refine AllReadyH.cons rfl (fun K hK => ?_) AllReadyH.nil
    go_simp
    refine hK.out _ _ ?_ (fun hHeld => ?_)
    · exact (((Below.refl _ _).alloc (Nat.le_refl _) _).alloc (by simp) _).drew
    clear hK K
    try simp only [Act.put, List.setIfInBounds_toArray, List.set_cons_zero, List.set_cons_succ]
    refine wpAnyH_ready (rs := [11]) (by kernel_rfl) (by simp) ?_
    refine AllReadyH.cons rfl (fun K hK => ?_) AllReadyH.nil
    go_simp
    refine hK.out _ _ ?_ (fun hHeld => ?_)
    · exact (((Below.refl _ _).alloc (Nat.le_refl _) _).alloc (by simp) _).drew
    clear hK K
    try simp only [Act.put, List.setIfInBounds_toArray, List.set_cons_zero, List.set_cons_succ]
    refine wpAnyH_done (by kernel_rfl) ?_ _
    have BW : Hid (Below w.heap.size w (((w1.alloc (.cells #[.int .i64 cnum, .bool cup, .int .i64 clife, .int .i64 cpeer, .int .i64 csince, .bool cowes, .int .i64 cb, .slice q0 cxs.length q1, .int .i64 cnx, .slice q2 chs.length q3, .string co, .slice q4 crs.length q5] 48)).alloc (.cells #[.int .i64 anum, .bool aup, .int .i64 alife, .int .i64 apeer, .int .i64 asince, .bool aowes, .int .i64 ab, .slice p0 axs.length p1, .int .i64 anx, .slice p2 ahs.length p3, .string ao, .slice p4 ars.length p5] 48)).drew)) := kb B1 ((((Below.refl _ _).alloc (Nat.le_refl _) _).alloc (by simp) _).drew) (Nat.le_refl _)
    clear hHeld x2 e0 e1 e2 e3 e4 e5 e6 e7 e8 e9 e10 e11 e12 e13 e14 e15 e16 e17 e18 e19 e20 e21 e22 e23
    cases aup with
    | false =>
      go_wp2
      go_ret
      exact ⟨ret_b (by rw [HO.out]; simp), BW.out⟩
    | true =>
      cases cup with
      | false =>
        go_wp2
        go_ret
        exact ⟨ret_b (by rw [HO.out]; simp), BW.out⟩
      | true =>
        by_cases h1 : apeer = clife
        case neg =>
          go_wp2
          go_ret
          exact ⟨ret_b (by rw [HO.out, decide_eq_false h1]; simp), BW.out⟩
        rw [decide_eq_true h1] at HO
        subst h1
        by_cases h2 : cpeer = alife
        case neg =>
          go_wp2
          go_ret
          exact ⟨ret_b (by rw [HO.out, decide_eq_false h2]; simp), BW.out⟩
        rw [decide_eq_true h2] at HO
        subst h2
        cases D1 with
        | false =>
          go_wp2_with (first | (go_at_call_of 17 (Value.bool aowes); refine (K1.out _).mono ?_; rintro x w2 ⟨rfl, hb2⟩; (have k0 := hb2.cell (p := ⟨w1.heap.size, 0, none⟩) (by simp <;> omega)); (have k1 := hb2.cell (p := ⟨w1.heap.size, 1, none⟩) (by simp <;> omega)); (have k2 := hb2.cell (p := ⟨w1.heap.size, 2, none⟩) (by simp <;> omega)); (have k3 := hb2.cell (p := ⟨w1.heap.size, 3, none⟩) (by simp <;> omega)); (have k4 := hb2.cell (p := ⟨w1.heap.size, 4, none⟩) (by simp <;> omega)); (have k5 := hb2.cell (p := ⟨w1.heap.size, 5, none⟩) (by simp <;> omega)); (have k6 := hb2.cell (p := ⟨w1.heap.size, 6, none⟩) (by simp <;> omega)); (have k7 := hb2.cell (p := ⟨w1.heap.size, 7, none⟩) (by simp <;> omega)); (have k8 := hb2.cell (p := ⟨w1.heap.size, 8, none⟩) (by simp <;> omega)); (have k9 := hb2.cell (p := ⟨w1.heap.size, 9, none⟩) (by simp <;> omega)); (have k10 := hb2.cell (p := ⟨w1.heap.size, 10, none⟩) (by simp <;> omega)); (have k11 := hb2.cell (p := ⟨w1.heap.size, 11, none⟩) (by simp <;> omega)); simp [go_sem] at k0 k1 k2 k3 k4 k5 k6 k7 k8 k9 k10 k11) | fail)
          go_ret
          exact ⟨ret_b (by rw [HO.out]; simp), kb BW.out hb2 (Nat.le_refl _)⟩
        | true =>
          go_wp2_with (first | (go_at_call_of 17 (Value.bool aowes); refine (K1.out _).mono ?_; rintro x w2 ⟨rfl, hb2⟩; (have k0 := hb2.cell (p := ⟨w1.heap.size, 0, none⟩) (by simp <;> omega)); (have k1 := hb2.cell (p := ⟨w1.heap.size, 1, none⟩) (by simp <;> omega)); (have k2 := hb2.cell (p := ⟨w1.heap.size, 2, none⟩) (by simp <;> omega)); (have k3 := hb2.cell (p := ⟨w1.heap.size, 3, none⟩) (by simp <;> omega)); (have k4 := hb2.cell (p := ⟨w1.heap.size, 4, none⟩) (by simp <;> omega)); (have k5 := hb2.cell (p := ⟨w1.heap.size, 5, none⟩) (by simp <;> omega)); (have k6 := hb2.cell (p := ⟨w1.heap.size, 6, none⟩) (by simp <;> omega)); (have k7 := hb2.cell (p := ⟨w1.heap.size, 7, none⟩) (by simp <;> omega)); (have k8 := hb2.cell (p := ⟨w1.heap.size, 8, none⟩) (by simp <;> omega)); (have k9 := hb2.cell (p := ⟨w1.heap.size, 9, none⟩) (by simp <;> omega)); (have k10 := hb2.cell (p := ⟨w1.heap.size, 10, none⟩) (by simp <;> omega)); (have k11 := hb2.cell (p := ⟨w1.heap.size, 11, none⟩) (by simp <;> omega)); simp [go_sem] at k0 k1 k2 k3 k4 k5 k6 k7 k8 k9 k10 k11) | (go_at_call_of 17 (Value.bool cowes); refine (K2.out _).mono ?_; rintro x w3 ⟨rfl, hb3⟩) | fail)
          go_ret
          exact ⟨ret_b (by rw [HO.out]; simp), kb (kb BW.out hb2 (Nat.le_refl _)) hb3 (Nat.le_refl _)⟩
theorem implIdle_any (key : ByteArray) (width : Int) (eo : Option Addr) (ce : Nat) (es : List Ev) (fo : Option Addr) (cf : Nat) (fl : List Pc) (fg : ByteArray) (go : Option Addr) (cg : Nat) (gv : List Rc) (ko : Option Addr) (ck : Nat) (tk : List Rc) (w : World) (hm : Sw 1048576 key es fl fg gv tk) (hr : Rwo w eo es fo fl go gv ko tk) :
    Calls Try.prog 7 #[.agg #[.string key, .int .i64 width, .slice eo es.length ce, .slice fo fl.length cf, .string fg, .slice go gv.length cg, .slice ko tk.length ck]] w fun e w' => e = .returned (.bool (woOk key width es fl gv tk && idleOk es)) ∧ Below w.heap.size w w' := by
  cases hV : woOk key width es fl gv tk with
  | false =>
    have HV : Hid (∀ u : World, Rwo u eo es fo fl go gv ko tk → Calls Try.prog 16 #[.agg #[.string key, .int .i64 width, .slice eo es.length ce, .slice fo fl.length cf, .string fg, .slice go gv.length cg, .slice ko tk.length ck]] u fun e u' => e = .returned (.bool false) ∧ Below u.heap.size u u') := fun u h => by have := implValidWorld_any key width eo ce es fo cf fl fg go cg gv ko ck tk u hm h; rw [hV] at this; exact this
    have B0 : Hid (Below w.heap.size w (w.alloc (.cells #[.string key, .int .i64 width, .slice eo es.length ce, .slice fo fl.length cf, .string fg, .slice go gv.length cg, .slice ko tk.length ck] 33))) := (Below.refl _ _).alloc (Nat.le_refl _) _
    have R0 : Hid (Rwo (w.alloc (.cells #[.string key, .int .i64 width, .slice eo es.length ce, .slice fo fl.length cf, .string fg, .slice go gv.length cg, .slice ko tk.length ck] 33)) eo es fo fl go gv ko tk) := hr.keep B0.out
    clear hr hm hV
    go_enter Try.func7, Try.ntmps7
    go_wp2_with (first
      | (go_at_call 16; refine (HV.out _ R0.out).mono ?_; rintro x w1 ⟨rfl, hb1⟩)
      | fail)
    go_ret
    exact ⟨ret_b rfl, kb B0.out hb1 (Nat.le_refl _)⟩
  | true =>
    obtain ⟨x, y, rfl⟩ := list2 (woOk_ends hV)
    obtain ⟨g, rfl, hg, hc, hd⟩ := Rs.two hr.ends.row
    have e1 := hm.ends 0 (by simp)
    have e2 := hm.ends 1 (by simp)
    simp only [List.getElem_cons_zero, List.getElem_cons_succ] at e1 e2
    obtain ⟨⟨anum, aup, alife, apeer, asince, aowes, ab, axs, anx, ahs, ao, ars⟩, p0, p1, p2, p3, p4, p5⟩ := x
    obtain ⟨⟨cnum, cup, clife, cpeer, csince, cowes, cb, cxs, cnx, chs, co, crs⟩, q0, q1, q2, q3, q4, q5⟩ := y
    exact implIdle_two key width g ce fo cf fl fg go cg gv ko ck tk anum aup alife apeer asince aowes ab axs anx ahs ao ars p0 p1 p2 p3 p4 p5 cnum cup clife cpeer csince cowes cb cxs cnx chs co crs q0 q1 q2 q3 q4 q5 w ⟨e1.n, e1.tk.n, e1.tk.k, e1.tk.o, e2.n, e2.tk.n, e2.tk.k, e2.tk.o⟩ hg ⟨hc.1, hc.2.1, hc.2.2.1, hc.2.2.2.1, hc.2.2.2.2.1, hc.2.2.2.2.2.1, hc.2.2.2.2.2.2.1, hc.2.2.2.2.2.2.2.1, hc.2.2.2.2.2.2.2.2.1, hc.2.2.2.2.2.2.2.2.2.1, hc.2.2.2.2.2.2.2.2.2.2.1, hc.2.2.2.2.2.2.2.2.2.2.2, hd.1, hd.2.1, hd.2.2.1, hd.2.2.2.1, hd.2.2.2.2.1, hd.2.2.2.2.2.1, hd.2.2.2.2.2.2.1, hd.2.2.2.2.2.2.2.1, hd.2.2.2.2.2.2.2.2.1, hd.2.2.2.2.2.2.2.2.2.1, hd.2.2.2.2.2.2.2.2.2.2.1, hd.2.2.2.2.2.2.2.2.2.2.2⟩ (fun u hb => by have := implValidWorld_any key width (some ⟨g, 0, none⟩) ce _ fo cf fl fg go cg gv ko ck tk u hm (hr.keep hb); rw [hV] at this; exact this) _ rfl
end Go.Proofs.Ytmliinglojmojab.mk

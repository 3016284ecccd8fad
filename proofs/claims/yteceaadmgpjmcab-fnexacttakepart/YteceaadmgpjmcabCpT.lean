/-
  COPIES of a Take: spec.l5Copy.
-/
import Derived.Test.YteceaadmgpjmcabBase
namespace Go.Proofs.Yteceaadmgpjmcab.mk
open Go.RowKit
set_option linter.unusedVariables false

theorem hs_one (xs : List Hd) : ∀ u ∈ hs xs, u.oneCell' = true := by
  intro u hu
  obtain ⟨x, _, hx⟩ := List.mem_flatMap.1 hu
  simp [Hd.vals] at hx
  rcases hx with rfl | rfl | rfl <;> rfl
theorem ss_one (xs : List ByteArray) : ∀ u ∈ ss xs, u.oneCell' = true := by
  intro u hu
  obtain ⟨x, _, hx⟩ := List.mem_map.1 hu
  subst hx
  rfl
theorem rs_news {w : World} {ao : Option Addr} {n : Nat} {cs : List Value} (h : Rs w ao n cs) (h0 : n = 0 → cs = []) : ∀ ad, ao = some ad → ∀ j u, cs[j]? = some u → w.cell? (ad.add j) = some u := by
  intro ad had j u hj
  rcases h.ex with q | ⟨g, e, hg, hc⟩
  · rw [h0 q] at hj; simp at hj
  · rw [e] at had
    cases had
    have hl : j < cs.length := by
      rcases Nat.lt_or_ge j cs.length with q | q
      · exact q
      · rw [List.getElem?_eq_none q] at hj; simp at hj
    have ea : (⟨g, 0, none⟩ : Addr).add j = ⟨g, j, none⟩ := by unfold Addr.add; split <;> simp_all
    rw [ea, hc j hl, hj]
theorem rows_ne7 {w : World} {b b' : Nat} {e e' : TypeId} {sz sz' n n' : Nat} {v v' : Value} {xs xs' : List Value} (h : w.ownsRow b e sz v n xs) (h' : w.ownsRow b' e' sz' v' n' xs') (hne : e ≠ e') : v.ownBlock = none ∨ v.ownBlock ≠ v'.ownBlock := by
  rcases h.2 with ⟨rfl, _⟩ | ⟨g, cap, cur, rfl, _, hg, _⟩
  · exact .inl rfl
  right
  rcases h'.2 with ⟨rfl, _⟩ | ⟨g', cap', cur', rfl, _, hg', _⟩
  · simp [Value.ownBlock]
  · intro e2
    simp only [Value.ownBlock, Option.some.injEq] at e2
    subst e2
    rw [hg] at hg'
    simp at hg'
    exact hne hg'.2
theorem own0 (e : TypeId) (size : Nat) (W : World) (base : Nat) (hb : base ≤ W.heap.size) (H : Nat) (hH : W.heap.size = H) : (W.alloc (.cells #[] e)).ownsRow base e size (.slice (some ⟨H, 0, none⟩) 0 0) 0 [] := by
  subst hH
  exact World.ownsRow_lit W #[] 0 hb (Nat.zero_le _) (by simp)
set_option maxRecDepth 100000 in
set_option maxHeartbeats 4000000 in
theorem tcopy_any (nx : Int) (ao so : Option Addr) (ca cs : Nat) (xs : List Hd) (o : ByteArray) (rs : List ByteArray) (w : World) (hx : xs.length ≤ 1048576) (hy : rs.length ≤ 1048576) (hr : Rt w ao so xs rs) (hn1 : ao = none → xs.length = 0 ∧ ca = 0) (hn2 : so = none → rs.length = 0 ∧ cs = 0) :
    Calls Try.prog 16 #[.agg #[.int .i64 nx, .slice ao xs.length ca, .string o, .slice so rs.length cs]] w fun e w' => (∃ hv rv, e = .returned (.agg #[.int .i64 nx, hv, .string o, rv]) ∧ w'.ownsRow w.heap.size 46 3 hv xs.length (hs xs) ∧ w'.ownsRow w.heap.size 9 1 rv rs.length (ss rs)) ∧ Below w.heap.size w w' := by
  obtain ⟨iH, hiH, hH1, hH2, hH3⟩ := info_parts info_held
  obtain ⟨iS, hiS, hS1, hS2, hS3⟩ := info_parts info_str
  have hb2 : Below w.heap.size w ((w.alloc (.cells #[.int .i64 nx, .slice ao xs.length ca, .string o, .slice so rs.length cs] 32)).alloc (.cells #[.int .i64 0, .slice none 0 0, .string ⟨#[]⟩, .slice none 0 0] 32)) := ((Below.refl _ _).alloc (Nat.le_refl _) _).alloc (by simp) _
  have HB2 : Hid (Below w.heap.size w ((w.alloc (.cells #[.int .i64 nx, .slice ao xs.length ca, .string o, .slice so rs.length cs] 32)).alloc (.cells #[.int .i64 0, .slice none 0 0, .string ⟨#[]⟩, .slice none 0 0] 32))) := hb2
  have HR : Hid (Rt ((w.alloc (.cells #[.int .i64 nx, .slice ao xs.length ca, .string o, .slice so rs.length cs] 32)).alloc (.cells #[.int .i64 0, .slice none 0 0, .string ⟨#[]⟩, .slice none 0 0] 32)) ao so xs rs) := hr.keep hb2
  have HX0 : Hid (Bx ((w.alloc (.cells #[.int .i64 nx, .slice ao xs.length ca, .string o, .slice so rs.length cs] 32)).alloc (.cells #[.int .i64 0, .slice none 0 0, .string ⟨#[]⟩, .slice none 0 0] 32)) w.heap.size 32 #[.int .i64 nx, .slice ao xs.length ca, .string o, .slice so rs.length cs]) := (Bx.new w _ _).alloc _
  have HZ0 : Hid (Bx ((w.alloc (.cells #[.int .i64 nx, .slice ao xs.length ca, .string o, .slice so rs.length cs] 32)).alloc (.cells #[.int .i64 0, .slice none 0 0, .string ⟨#[]⟩, .slice none 0 0] 32)) (w.heap.size + 1) 32 #[.int .i64 0, .slice none 0 0, .string ⟨#[]⟩, .slice none 0 0]) := (by have := Bx.new (w.alloc (.cells #[.int .i64 nx, .slice ao xs.length ca, .string o, .slice so rs.length cs] 32)) 32 #[.int .i64 0, .slice none 0 0, .string ⟨#[]⟩, .slice none 0 0]; rw [World.size_alloc] at this; exact this : Bx ((w.alloc (.cells #[.int .i64 nx, .slice ao xs.length ca, .string o, .slice so rs.length cs] 32)).alloc (.cells #[.int .i64 0, .slice none 0 0, .string ⟨#[]⟩, .slice none 0 0] 32)) (w.heap.size + 1) 32 #[.int .i64 0, .slice none 0 0, .string ⟨#[]⟩, .slice none 0 0])
  have HN1 : Hid (ao = none → xs.length = 0 ∧ ca = 0) := hn1
  have HN2 : Hid (so = none → rs.length = 0 ∧ cs = 0) := hn2
  clear hr hb2 hn1 hn2
  go_enter Try.func16, Try.ntmps16
  go_wp2
  obtain ⟨W0, hW0⟩ : ∃ W0, W0 = ((w.alloc (.cells #[.int .i64 nx, .slice ao xs.length ca, .string o, .slice so rs.length cs] 32)).alloc (.cells #[.int .i64 0, .slice none 0 0, .string ⟨#[]⟩, .slice none 0 0] 32)) := ⟨_, rfl⟩
  rw [← hW0]
  rw [← hW0] at HB2 HR HX0 HZ0
  have R := HR.out
  have HZ := HZ0
  have HWZ : Hid (W0.heap.size = w.heap.size + 1 + 1) := (by rw [hW0]; simp : W0.heap.size = w.heap.size + 1 + 1)
  clear hW0 HZ0 HR
  have c0 := HX0.out.cell 0
  have c1 := HX0.out.cell 1
  have c2 := HX0.out.cell 2
  have c3 := HX0.out.cell 3
  simp at c0 c1 c2 c3
  have hn1 := HN1.out
  have hn2 := HN2.out
  have mkS : Hid (∀ u : World, Below W0.heap.size W0 u → Below w.heap.size w u ∧ Bx u w.heap.size 32 #[.int .i64 nx, .slice ao xs.length ca, .string o, .slice so rs.length cs]) := fun u h => ⟨HB2.out.trans (h.mono (by have := HWZ.out; omega)), HX0.out.keep h⟩
  have BU : Below W0.heap.size W0 W0.drew := (Below.refl _ _).drew
  refine wp_region_held_drew (S := (fun w' => Below w.heap.size w w' ∧ Bx w' w.heap.size 32 #[.int .i64 nx, .slice ao xs.length ca, .string o, .slice so rs.length cs])) (by kernel_rfl) ?_ (fun hHeld => ?_)
  · exact mkS.out _ BU
  refine tkF 0 (some 3) ?_
  refine tkE 1 (some 4) ?_ ?_ ?_
  rotate_left
  · (intro w hSw; (have b0 := hSw.2.cell 0); (have b1 := hSw.2.cell 1); (have b2 := hSw.2.cell 2); (have b3 := hSw.2.cell 3); simp at b0 b1 b2 b3; go_simp <;> with_reducible rfl)
  refine tkF 3 (some 6) ?_
  refine tkE 4 (some 7) ?_ ?_ ?_
  rotate_left
  · (intro w hSw; (have b0 := hSw.2.cell 0); (have b1 := hSw.2.cell 1); (have b2 := hSw.2.cell 2); (have b3 := hSw.2.cell 3); simp at b0 b1 b2 b3; go_simp <;> with_reducible rfl)
  refine tkF 6 (some 9) ?_
  refine tkE 7 (some 10) ?_ ?_ ?_
  rotate_left
  · (intro w hSw; (have b0 := hSw.2.cell 0); (have b1 := hSw.2.cell 1); (have b2 := hSw.2.cell 2); (have b3 := hSw.2.cell 3); simp at b0 b1 b2 b3; go_simp <;> with_reducible rfl)
  refine tkF 9 (some 12) ?_
  refine tkE 10 (some 13) ?_ ?_ ?_
  rotate_left
  · (intro w hSw; (have b0 := hSw.2.cell 0); (have b1 := hSw.2.cell 1); (have b2 := hSw.2.cell 2); (have b3 := hSw.2.cell 3); simp at b0 b1 b2 b3; go_simp <;> with_reducible rfl)
  refine wpAnyH_ready (rs := [2, 8]) (by kernel_rfl) (by simp) ?_
  refine AllReadyH.cons rfl (fun K hK => ?_) (AllReadyH.cons rfl (fun K hK => ?_) AllReadyH.nil)
  · have hH0 := BU
    go_simp
    have E1' := own0 46 3 _ W0.heap.size hH0.size (W0.heap.size) (by rfl)
    have BU' := hH0.alloc hH0.size (.cells #[] 46)
    refine hK.out _ _ ?_ (fun hHeld => ?_)
    · exact mkS.out _ BU'
    replace BU := BU'
    clear hK K
    try simp only [Act.put, List.setIfInBounds_toArray, List.set_cons_zero, List.set_cons_succ]
    have E1 := E1'
    refine wpAnyH_ready (rs := [5, 8]) (by kernel_rfl) (by simp) ?_
    refine AllReadyH.cons rfl (fun K hK => ?_) (AllReadyH.cons rfl (fun K hK => ?_) AllReadyH.nil)
    · have hH0 := BU
      refine step_append_any _ rfl _ _ 30 rfl W0.heap.size 46 iH (.agg #[.int .i64 0, .string ⟨#[]⟩, .bool false]) 3 32 Try.underlying30 hiH hH1 hH2 hH3 rfl (by decide) (.slice (some ⟨W0.heap.size, 0, none⟩) 0 0) 0 [] rfl E1 ao xs.length ca (hs xs) rfl (hs_length xs) hn1 (rs_news ((R.held).keep hH0) (by intro h; rw [List.eq_nil_of_length_eq_zero h]; rfl)) (hs_one xs) (by unfold maxLen; omega) (by omega) hH0.size ?_
      intro v5 w5 O1' g5
      simp only [Nat.zero_add, List.nil_append] at O1'
      obtain ⟨a5, c5, rfl, -, -, -⟩ := rs_of_owns O1'
      have hH1' : Below W0.heap.size W0 w5 := hH0.grown g5 hH0.size (fun k hk => (E1.lt k hk).1)
      refine hK.out _ _ ?_ (fun hHeld => ?_)
      · exact mkS.out _ hH1'
      replace BU := hH1'
      clear hK K
      try simp only [Act.put]
      have O1 := O1'
      refine wpAnyH_ready (rs := [8]) (by kernel_rfl) (by simp) ?_
      refine AllReadyH.cons rfl (fun K hK => ?_) AllReadyH.nil
      have hH0 := BU
      go_simp
      have E2' := own0 9 1 _ W0.heap.size hH0.size (w5.heap.size) (by rfl)
      have O1' := O1.alloc (.cells #[] 9)
      have BU' := hH0.alloc hH0.size (.cells #[] 9)
      refine hK.out _ _ ?_ (fun hHeld => ?_)
      · exact mkS.out _ BU'
      replace BU := BU'
      clear hK K
      try simp only [Act.put, List.setIfInBounds_toArray, List.set_cons_zero, List.set_cons_succ]
      replace O1 := O1'
      have E2 := E2'
      refine wpAnyH_ready (rs := [11]) (by kernel_rfl) (by simp) ?_
      refine AllReadyH.cons rfl (fun K hK => ?_) AllReadyH.nil
      have hH0 := BU
      refine step_append_any _ rfl _ _ 23 rfl W0.heap.size 9 iS (.string ⟨#[]⟩) 1 16 Try.underlying23 hiS hS1 hS2 hS3 rfl (by decide) (.slice (some ⟨w5.heap.size, 0, none⟩) 0 0) 0 [] rfl E2 so rs.length cs (ss rs) rfl (by rw [ss_length, Nat.mul_one]) hn2 (rs_news ((R.ready).keep hH0) (by intro h; rw [List.eq_nil_of_length_eq_zero h]; rfl)) (ss_one rs) (by unfold maxLen; omega) (by omega) hH0.size ?_
      intro v11 w11 O2' g11
      simp only [Nat.zero_add, List.nil_append] at O2'
      obtain ⟨a11, c11, rfl, -, -, -⟩ := rs_of_owns O2'
      have O1' := O1.kept g11 (rows_ne7 O1 E2 (by decide))
      have hH1' : Below W0.heap.size W0 w11 := hH0.grown g11 hH0.size (fun k hk => (E2.lt k hk).1)
      refine hK.out _ _ ?_ (fun hHeld => ?_)
      · exact mkS.out _ hH1'
      replace BU := hH1'
      clear hK K
      try simp only [Act.put]
      replace O1 := O1'
      have O2 := O2'
      refine takeD (i := 12) (d := some 15) (v := ?_) rfl rfl (by kernel_rfl) (by kernel_rfl) (by kernel_rfl) (fun _ _ _ h => h) (Or.inl ⟨by rfl, ?_⟩) (by assumption) ?_
      rotate_left
      · (intro w hSw; go_simp <;> with_reducible rfl)
      simp only [Act.put]
      have ZV := HZ.out.keep BU
      have z0 := ZV.cell 0
      have z1 := ZV.cell 1
      have z2 := ZV.cell 2
      have z3 := ZV.cell 3
      simp at z0 z1 z2 z3
      have f0 := ZV.frozen 0
      have f1 := ZV.frozen 1
      have f2 := ZV.frozen 2
      have f3 := ZV.frozen 3
      have hH0 := BU
      refine wpAnyH_ready (rs := [13]) (by kernel_rfl) (by simp) ?_
      refine AllReadyH.cons rfl (fun K hK => ?_) AllReadyH.nil
      go_simp
      refine hK.out _ _ ?_ (fun hHeld => ?_)
      · have q := mkS.out _ hH0
        have hwz : w.heap.size ≤ w.heap.size + 1 := by omega
        exact ⟨(((q.1.setCell (p := ⟨w.heap.size + 1, 0, none⟩) hwz _).setCell (p := ⟨w.heap.size + 1, 1, none⟩) hwz _).setCell (p := ⟨w.heap.size + 1, 2, none⟩) hwz _).setCell (p := ⟨w.heap.size + 1, 3, none⟩) hwz _, (((q.2.other ⟨w.heap.size + 1, 0, none⟩ (by show w.heap.size ≠ w.heap.size + 1; omega) _).other ⟨w.heap.size + 1, 1, none⟩ (by show w.heap.size ≠ w.heap.size + 1; omega) _).other ⟨w.heap.size + 1, 2, none⟩ (by show w.heap.size ≠ w.heap.size + 1; omega) _).other ⟨w.heap.size + 1, 3, none⟩ (by show w.heap.size ≠ w.heap.size + 1; omega) _⟩
      clear hK K
      try simp only [Act.put, List.setIfInBounds_toArray, List.set_cons_zero, List.set_cons_succ]
      refine wpAnyH_done (by kernel_rfl) ?_ _
      have n1 := ZV.ne (by decide) O1
      have n2 := ZV.ne (by decide) O2
      have P1 := (ownsRow_setCell_other (ownsRow_setCell_other (ownsRow_setCell_other (ownsRow_setCell_other O1 (a := ⟨w.heap.size + 1, 0, none⟩) (Ne.symm n1) (.int .i64 nx)) (a := ⟨w.heap.size + 1, 1, none⟩) (Ne.symm n1) (.slice a5 xs.length c5)) (a := ⟨w.heap.size + 1, 2, none⟩) (Ne.symm n1) (.string o)) (a := ⟨w.heap.size + 1, 3, none⟩) (Ne.symm n1) (.slice a11 rs.length c11))
      have P2 := (ownsRow_setCell_other (ownsRow_setCell_other (ownsRow_setCell_other (ownsRow_setCell_other O2 (a := ⟨w.heap.size + 1, 0, none⟩) (Ne.symm n2) (.int .i64 nx)) (a := ⟨w.heap.size + 1, 1, none⟩) (Ne.symm n2) (.slice a5 xs.length c5)) (a := ⟨w.heap.size + 1, 2, none⟩) (Ne.symm n2) (.string o)) (a := ⟨w.heap.size + 1, 3, none⟩) (Ne.symm n2) (.slice a11 rs.length c11))
      have hle : w.heap.size ≤ W0.heap.size := by have := HWZ.out; omega
      have hwl : w.heap.size ≤ w.heap.size + 1 := by omega
      have BF := ((((HB2.out.trans (hH0.mono hle)).setCell (p := ⟨w.heap.size + 1, 0, none⟩) hwl (.int .i64 nx)).setCell (p := ⟨w.heap.size + 1, 1, none⟩) hwl (.slice a5 xs.length c5)).setCell (p := ⟨w.heap.size + 1, 2, none⟩) hwl (.string o)).setCell (p := ⟨w.heap.size + 1, 3, none⟩) hwl (.slice a11 rs.length c11)
      go_wp2
      exact bodyPost_ret (v := .agg #[.int .i64 nx, .slice a5 xs.length c5, .string o, .slice a11 rs.length c11]) (by simp [results, Try.results16, go_sem, z0, z1, z2, z3]) rfl ⟨⟨_, _, rfl, owns_mono3 P1 hle, owns_mono3 P2 hle⟩, BF⟩
    · have hH0 := BU
      go_simp
      have E2' := own0 9 1 _ W0.heap.size hH0.size (W0.heap.size + 1) (by simp)
      have E1' := E1.alloc (.cells #[] 9)
      have BU' := hH0.alloc hH0.size (.cells #[] 9)
      refine hK.out _ _ ?_ (fun hHeld => ?_)
      · exact mkS.out _ BU'
      replace BU := BU'
      clear hK K
      try simp only [Act.put, List.setIfInBounds_toArray, List.set_cons_zero, List.set_cons_succ]
      replace E1 := E1'
      have E2 := E2'
      refine wpAnyH_ready (rs := [5]) (by kernel_rfl) (by simp) ?_
      refine AllReadyH.cons rfl (fun K hK => ?_) AllReadyH.nil
      have hH0 := BU
      refine step_append_any _ rfl _ _ 30 rfl W0.heap.size 46 iH (.agg #[.int .i64 0, .string ⟨#[]⟩, .bool false]) 3 32 Try.underlying30 hiH hH1 hH2 hH3 rfl (by decide) (.slice (some ⟨W0.heap.size, 0, none⟩) 0 0) 0 [] rfl E1 ao xs.length ca (hs xs) rfl (hs_length xs) hn1 (rs_news ((R.held).keep hH0) (by intro h; rw [List.eq_nil_of_length_eq_zero h]; rfl)) (hs_one xs) (by unfold maxLen; omega) (by omega) hH0.size ?_
      intro v5 w5 O1' g5
      simp only [Nat.zero_add, List.nil_append] at O1'
      obtain ⟨a5, c5, rfl, -, -, -⟩ := rs_of_owns O1'
      have E2' := E2.kept g5 (rows_ne7 E2 E1 (by decide))
      have hH1' : Below W0.heap.size W0 w5 := hH0.grown g5 hH0.size (fun k hk => (E1.lt k hk).1)
      refine hK.out _ _ ?_ (fun hHeld => ?_)
      · exact mkS.out _ hH1'
      replace BU := hH1'
      clear hK K
      try simp only [Act.put]
      replace E2 := E2'
      have O1 := O1'
      refine wpAnyH_ready (rs := [11]) (by kernel_rfl) (by simp) ?_
      refine AllReadyH.cons rfl (fun K hK => ?_) AllReadyH.nil
      have hH0 := BU
      refine step_append_any _ rfl _ _ 23 rfl W0.heap.size 9 iS (.string ⟨#[]⟩) 1 16 Try.underlying23 hiS hS1 hS2 hS3 rfl (by decide) (.slice (some ⟨W0.heap.size + 1, 0, none⟩) 0 0) 0 [] rfl E2 so rs.length cs (ss rs) rfl (by rw [ss_length, Nat.mul_one]) hn2 (rs_news ((R.ready).keep hH0) (by intro h; rw [List.eq_nil_of_length_eq_zero h]; rfl)) (ss_one rs) (by unfold maxLen; omega) (by omega) hH0.size ?_
      intro v11 w11 O2' g11
      simp only [Nat.zero_add, List.nil_append] at O2'
      obtain ⟨a11, c11, rfl, -, -, -⟩ := rs_of_owns O2'
      have O1' := O1.kept g11 (rows_ne7 O1 E2 (by decide))
      have hH1' : Below W0.heap.size W0 w11 := hH0.grown g11 hH0.size (fun k hk => (E2.lt k hk).1)
      refine hK.out _ _ ?_ (fun hHeld => ?_)
      · exact mkS.out _ hH1'
      replace BU := hH1'
      clear hK K
      try simp only [Act.put]
      replace O1 := O1'
      have O2 := O2'
      refine takeD (i := 12) (d := some 15) (v := ?_) rfl rfl (by kernel_rfl) (by kernel_rfl) (by kernel_rfl) (fun _ _ _ h => h) (Or.inl ⟨by rfl, ?_⟩) (by assumption) ?_
      rotate_left
      · (intro w hSw; go_simp <;> with_reducible rfl)
      simp only [Act.put]
      have ZV := HZ.out.keep BU
      have z0 := ZV.cell 0
      have z1 := ZV.cell 1
      have z2 := ZV.cell 2
      have z3 := ZV.cell 3
      simp at z0 z1 z2 z3
      have f0 := ZV.frozen 0
      have f1 := ZV.frozen 1
      have f2 := ZV.frozen 2
      have f3 := ZV.frozen 3
      have hH0 := BU
      refine wpAnyH_ready (rs := [13]) (by kernel_rfl) (by simp) ?_
      refine AllReadyH.cons rfl (fun K hK => ?_) AllReadyH.nil
      go_simp
      refine hK.out _ _ ?_ (fun hHeld => ?_)
      · have q := mkS.out _ hH0
        have hwz : w.heap.size ≤ w.heap.size + 1 := by omega
        exact ⟨(((q.1.setCell (p := ⟨w.heap.size + 1, 0, none⟩) hwz _).setCell (p := ⟨w.heap.size + 1, 1, none⟩) hwz _).setCell (p := ⟨w.heap.size + 1, 2, none⟩) hwz _).setCell (p := ⟨w.heap.size + 1, 3, none⟩) hwz _, (((q.2.other ⟨w.heap.size + 1, 0, none⟩ (by show w.heap.size ≠ w.heap.size + 1; omega) _).other ⟨w.heap.size + 1, 1, none⟩ (by show w.heap.size ≠ w.heap.size + 1; omega) _).other ⟨w.heap.size + 1, 2, none⟩ (by show w.heap.size ≠ w.heap.size + 1; omega) _).other ⟨w.heap.size + 1, 3, none⟩ (by show w.heap.size ≠ w.heap.size + 1; omega) _⟩
      clear hK K
      try simp only [Act.put, List.setIfInBounds_toArray, List.set_cons_zero, List.set_cons_succ]
      refine wpAnyH_done (by kernel_rfl) ?_ _
      have n1 := ZV.ne (by decide) O1
      have n2 := ZV.ne (by decide) O2
      have P1 := (ownsRow_setCell_other (ownsRow_setCell_other (ownsRow_setCell_other (ownsRow_setCell_other O1 (a := ⟨w.heap.size + 1, 0, none⟩) (Ne.symm n1) (.int .i64 nx)) (a := ⟨w.heap.size + 1, 1, none⟩) (Ne.symm n1) (.slice a5 xs.length c5)) (a := ⟨w.heap.size + 1, 2, none⟩) (Ne.symm n1) (.string o)) (a := ⟨w.heap.size + 1, 3, none⟩) (Ne.symm n1) (.slice a11 rs.length c11))
      have P2 := (ownsRow_setCell_other (ownsRow_setCell_other (ownsRow_setCell_other (ownsRow_setCell_other O2 (a := ⟨w.heap.size + 1, 0, none⟩) (Ne.symm n2) (.int .i64 nx)) (a := ⟨w.heap.size + 1, 1, none⟩) (Ne.symm n2) (.slice a5 xs.length c5)) (a := ⟨w.heap.size + 1, 2, none⟩) (Ne.symm n2) (.string o)) (a := ⟨w.heap.size + 1, 3, none⟩) (Ne.symm n2) (.slice a11 rs.length c11))
      have hle : w.heap.size ≤ W0.heap.size := by have := HWZ.out; omega
      have hwl : w.heap.size ≤ w.heap.size + 1 := by omega
      have BF := ((((HB2.out.trans (hH0.mono hle)).setCell (p := ⟨w.heap.size + 1, 0, none⟩) hwl (.int .i64 nx)).setCell (p := ⟨w.heap.size + 1, 1, none⟩) hwl (.slice a5 xs.length c5)).setCell (p := ⟨w.heap.size + 1, 2, none⟩) hwl (.string o)).setCell (p := ⟨w.heap.size + 1, 3, none⟩) hwl (.slice a11 rs.length c11)
      go_wp2
      exact bodyPost_ret (v := .agg #[.int .i64 nx, .slice a5 xs.length c5, .string o, .slice a11 rs.length c11]) (by simp [results, Try.results16, go_sem, z0, z1, z2, z3]) rfl ⟨⟨_, _, rfl, owns_mono3 P1 hle, owns_mono3 P2 hle⟩, BF⟩
  · have hH0 := BU
    go_simp
    have E2' := own0 9 1 _ W0.heap.size hH0.size (W0.heap.size) (by rfl)
    have BU' := hH0.alloc hH0.size (.cells #[] 9)
    refine hK.out _ _ ?_ (fun hHeld => ?_)
    · exact mkS.out _ BU'
    replace BU := BU'
    clear hK K
    try simp only [Act.put, List.setIfInBounds_toArray, List.set_cons_zero, List.set_cons_succ]
    have E2 := E2'
    refine wpAnyH_ready (rs := [2]) (by kernel_rfl) (by simp) ?_
    refine AllReadyH.cons rfl (fun K hK => ?_) AllReadyH.nil
    have hH0 := BU
    go_simp
    have E1' := own0 46 3 _ W0.heap.size hH0.size (W0.heap.size + 1) (by simp)
    have E2' := E2.alloc (.cells #[] 46)
    have BU' := hH0.alloc hH0.size (.cells #[] 46)
    refine hK.out _ _ ?_ (fun hHeld => ?_)
    · exact mkS.out _ BU'
    replace BU := BU'
    clear hK K
    try simp only [Act.put, List.setIfInBounds_toArray, List.set_cons_zero, List.set_cons_succ]
    replace E2 := E2'
    have E1 := E1'
    refine wpAnyH_ready (rs := [5]) (by kernel_rfl) (by simp) ?_
    refine AllReadyH.cons rfl (fun K hK => ?_) AllReadyH.nil
    have hH0 := BU
    refine step_append_any _ rfl _ _ 30 rfl W0.heap.size 46 iH (.agg #[.int .i64 0, .string ⟨#[]⟩, .bool false]) 3 32 Try.underlying30 hiH hH1 hH2 hH3 rfl (by decide) (.slice (some ⟨W0.heap.size + 1, 0, none⟩) 0 0) 0 [] rfl E1 ao xs.length ca (hs xs) rfl (hs_length xs) hn1 (rs_news ((R.held).keep hH0) (by intro h; rw [List.eq_nil_of_length_eq_zero h]; rfl)) (hs_one xs) (by unfold maxLen; omega) (by omega) hH0.size ?_
    intro v5 w5 O1' g5
    simp only [Nat.zero_add, List.nil_append] at O1'
    obtain ⟨a5, c5, rfl, -, -, -⟩ := rs_of_owns O1'
    have E2' := E2.kept g5 (rows_ne7 E2 E1 (by decide))
    have hH1' : Below W0.heap.size W0 w5 := hH0.grown g5 hH0.size (fun k hk => (E1.lt k hk).1)
    refine hK.out _ _ ?_ (fun hHeld => ?_)
    · exact mkS.out _ hH1'
    replace BU := hH1'
    clear hK K
    try simp only [Act.put]
    replace E2 := E2'
    have O1 := O1'
    refine wpAnyH_ready (rs := [11]) (by kernel_rfl) (by simp) ?_
    refine AllReadyH.cons rfl (fun K hK => ?_) AllReadyH.nil
    have hH0 := BU
    refine step_append_any _ rfl _ _ 23 rfl W0.heap.size 9 iS (.string ⟨#[]⟩) 1 16 Try.underlying23 hiS hS1 hS2 hS3 rfl (by decide) (.slice (some ⟨W0.heap.size, 0, none⟩) 0 0) 0 [] rfl E2 so rs.length cs (ss rs) rfl (by rw [ss_length, Nat.mul_one]) hn2 (rs_news ((R.ready).keep hH0) (by intro h; rw [List.eq_nil_of_length_eq_zero h]; rfl)) (ss_one rs) (by unfold maxLen; omega) (by omega) hH0.size ?_
    intro v11 w11 O2' g11
    simp only [Nat.zero_add, List.nil_append] at O2'
    obtain ⟨a11, c11, rfl, -, -, -⟩ := rs_of_owns O2'
    have O1' := O1.kept g11 (rows_ne7 O1 E2 (by decide))
    have hH1' : Below W0.heap.size W0 w11 := hH0.grown g11 hH0.size (fun k hk => (E2.lt k hk).1)
    refine hK.out _ _ ?_ (fun hHeld => ?_)
    · exact mkS.out _ hH1'
    replace BU := hH1'
    clear hK K
    try simp only [Act.put]
    replace O1 := O1'
    have O2 := O2'
    refine takeD (i := 12) (d := some 15) (v := ?_) rfl rfl (by kernel_rfl) (by kernel_rfl) (by kernel_rfl) (fun _ _ _ h => h) (Or.inl ⟨by rfl, ?_⟩) (by assumption) ?_
    rotate_left
    · (intro w hSw; go_simp <;> with_reducible rfl)
    simp only [Act.put]
    have ZV := HZ.out.keep BU
    have z0 := ZV.cell 0
    have z1 := ZV.cell 1
    have z2 := ZV.cell 2
    have z3 := ZV.cell 3
    simp at z0 z1 z2 z3
    have f0 := ZV.frozen 0
    have f1 := ZV.frozen 1
    have f2 := ZV.frozen 2
    have f3 := ZV.frozen 3
    have hH0 := BU
    refine wpAnyH_ready (rs := [13]) (by kernel_rfl) (by simp) ?_
    refine AllReadyH.cons rfl (fun K hK => ?_) AllReadyH.nil
    go_simp
    refine hK.out _ _ ?_ (fun hHeld => ?_)
    · have q := mkS.out _ hH0
      have hwz : w.heap.size ≤ w.heap.size + 1 := by omega
      exact ⟨(((q.1.setCell (p := ⟨w.heap.size + 1, 0, none⟩) hwz _).setCell (p := ⟨w.heap.size + 1, 1, none⟩) hwz _).setCell (p := ⟨w.heap.size + 1, 2, none⟩) hwz _).setCell (p := ⟨w.heap.size + 1, 3, none⟩) hwz _, (((q.2.other ⟨w.heap.size + 1, 0, none⟩ (by show w.heap.size ≠ w.heap.size + 1; omega) _).other ⟨w.heap.size + 1, 1, none⟩ (by show w.heap.size ≠ w.heap.size + 1; omega) _).other ⟨w.heap.size + 1, 2, none⟩ (by show w.heap.size ≠ w.heap.size + 1; omega) _).other ⟨w.heap.size + 1, 3, none⟩ (by show w.heap.size ≠ w.heap.size + 1; omega) _⟩
    clear hK K
    try simp only [Act.put, List.setIfInBounds_toArray, List.set_cons_zero, List.set_cons_succ]
    refine wpAnyH_done (by kernel_rfl) ?_ _
    have n1 := ZV.ne (by decide) O1
    have n2 := ZV.ne (by decide) O2
    have P1 := (ownsRow_setCell_other (ownsRow_setCell_other (ownsRow_setCell_other (ownsRow_setCell_other O1 (a := ⟨w.heap.size + 1, 0, none⟩) (Ne.symm n1) (.int .i64 nx)) (a := ⟨w.heap.size + 1, 1, none⟩) (Ne.symm n1) (.slice a5 xs.length c5)) (a := ⟨w.heap.size + 1, 2, none⟩) (Ne.symm n1) (.string o)) (a := ⟨w.heap.size + 1, 3, none⟩) (Ne.symm n1) (.slice a11 rs.length c11))
    have P2 := (ownsRow_setCell_other (ownsRow_setCell_other (ownsRow_setCell_other (ownsRow_setCell_other O2 (a := ⟨w.heap.size + 1, 0, none⟩) (Ne.symm n2) (.int .i64 nx)) (a := ⟨w.heap.size + 1, 1, none⟩) (Ne.symm n2) (.slice a5 xs.length c5)) (a := ⟨w.heap.size + 1, 2, none⟩) (Ne.symm n2) (.string o)) (a := ⟨w.heap.size + 1, 3, none⟩) (Ne.symm n2) (.slice a11 rs.length c11))
    have hle : w.heap.size ≤ W0.heap.size := by have := HWZ.out; omega
    have hwl : w.heap.size ≤ w.heap.size + 1 := by omega
    have BF := ((((HB2.out.trans (hH0.mono hle)).setCell (p := ⟨w.heap.size + 1, 0, none⟩) hwl (.int .i64 nx)).setCell (p := ⟨w.heap.size + 1, 1, none⟩) hwl (.slice a5 xs.length c5)).setCell (p := ⟨w.heap.size + 1, 2, none⟩) hwl (.string o)).setCell (p := ⟨w.heap.size + 1, 3, none⟩) hwl (.slice a11 rs.length c11)
    go_wp2
    exact bodyPost_ret (v := .agg #[.int .i64 nx, .slice a5 xs.length c5, .string o, .slice a11 rs.length c11]) (by simp [results, Try.results16, go_sem, z0, z1, z2, z3]) rfl ⟨⟨_, _, rfl, owns_mono3 P1 hle, owns_mono3 P2 hle⟩, BF⟩
end Go.Proofs.Yteceaadmgpjmcab.mk

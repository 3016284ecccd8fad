/-
  TICKING: spec.SendTick.
-/
import Derived.Test.YteceaadmgpjmcaaTickB
namespace Go.Proofs.Yteceaadmgpjmcaa.mk
open Go.RowKit
set_option linter.unusedVariables false

theorem three_belowK (w : World) (o p q : Obj) : Below w.heap.size w (((w.alloc o).alloc p).alloc q) := (two_below w o p).alloc (by simp; omega) _
theorem ints_lit (W : World) (H : Nat) (hH : W.heap.size = H) (base : Nat) (hb : base ≤ W.heap.size) : (W.alloc (.cells #[] 3)).ownsRow base 3 1 (.slice (some ⟨H, 0, none⟩) 0 0) 0 [] := by
  subst hH
  exact World.ownsRow_lit W #[] 0 hb (Nat.zero_le _) rfl
set_option maxHeartbeats 1000000 in
theorem specTick_no (b : Int) (ao : Option Addr) (cap : Nat) (xs : List It) (w : World) (hm : xs.length ≤ 1048576) (hz : ∀ i (h : i < xs.length), xs[i].text.size ≤ 1048576) (hr : Rs w ao xs.length (is xs)) (hao : ao = none → xs.length = 0 ∧ cap = 0) (hv : sdOk b xs = false) :
    Calls Try.prog 30 #[.agg #[.int .i64 b, .slice ao xs.length cap]] w fun e w' => TickPost w b xs e w' := by
  have HC : Hid (∀ u : World, Rs u ao xs.length (is xs) → Calls Try.prog 52 #[.agg #[.int .i64 b, .slice ao xs.length cap]] u fun e w' => e = .returned (.bool false) ∧ Below u.heap.size u w') := fun u h => by have := specValid_any b ao cap xs u hm hz h; rw [hv] at this; exact this
  have R2 : Hid (Rs (((w.alloc (.cells #[.int .i64 b, .slice ao xs.length cap] 38)).alloc (.cells #[.int .i64 0, .slice none 0 0] 38)).alloc (.cells #[] 3)) ao xs.length (is xs)) := hr.keep (three_belowK _ _ _ _)
  have X1 : Hid (Bx (((w.alloc (.cells #[.int .i64 b, .slice ao xs.length cap] 38)).alloc (.cells #[.int .i64 0, .slice none 0 0] 38)).alloc (.cells #[] 3)) (w.heap.size + 1) 38 #[.int .i64 0, .slice none 0 0]) := (by have := (Bx.new (w.alloc (.cells #[.int .i64 b, .slice ao xs.length cap] 38)) 38 #[.int .i64 0, .slice none 0 0]).alloc (.cells #[] 3); rw [World.size_alloc] at this; exact this)
  have I3 : Hid ((((w.alloc (.cells #[.int .i64 b, .slice ao xs.length cap] 38)).alloc (.cells #[.int .i64 0, .slice none 0 0] 38)).alloc (.cells #[] 3)).ownsRow w.heap.size 3 1 (.slice (some ⟨w.heap.size + 1 + 1, 0, none⟩) 0 0) 0 []) := ints_lit _ _ (by simp) _ (by simp; omega)
  have T0 : Hid (tickOf b xs = (0, [], [])) := (by unfold tickOf; rw [hv]; rfl : tickOf b xs = (0, [], []))
  have BB : Hid (Below w.heap.size w (((w.alloc (.cells #[.int .i64 b, .slice ao xs.length cap] 38)).alloc (.cells #[.int .i64 0, .slice none 0 0] 38)).alloc (.cells #[] 3))) := three_belowK _ _ _ _
  clear hz hr hao hv
  go_enter Try.func30, Try.ntmps30
  go_wp2_with (go_at_call 52; refine (HC.out _ R2.out).mono ?_; rintro e w1 ⟨rfl, hb1⟩; (have y0 := (X1.out.keep hb1).cell 0); (have y1 := (X1.out.keep hb1).cell 1); (have z0 := (X1.out.keep hb1).frozen 0); (have z1 := (X1.out.keep hb1).frozen 1); simp at y0 y1)
  have B1 := kb BB.out hb1 (Nat.le_refl _)
  have I1 := ownsRow_setCell_other (ownsRow_setCell_other (owns_keep I3.out hb1) (a := ⟨w.heap.size + 1, 0, none⟩) (by simp [Value.ownBlock]) (.int .i64 0)) (a := ⟨w.heap.size + 1, 1, none⟩) (by simp [Value.ownBlock]) (.slice none 0 0)
  refine bodyPost_ret (v := .tuple #[.agg #[.int .i64 0, .slice none 0 0], .slice (some ⟨w.heap.size + 1 + 1, 0, none⟩) 0 0]) (by simp [results, Try.results30, go_sem, y0, y1]) rfl ?_
  unfold TickPost
  rw [T0.out]
  exact ⟨⟨none, 0, _, 0, rfl, World.ownsRow_nil _ _ _ _, I1⟩, (B1.setCell (p := ⟨w.heap.size + 1, 0, none⟩) (by simp) _).setCell (p := ⟨w.heap.size + 1, 1, none⟩) (by simp) _⟩
theorem ne_some {x : Option Nat} {b : Nat} (h : x = none ∨ x ≠ some b) : x ≠ some b := by
  rcases h with h | h
  · rw [h]; simp
  · exact h
theorem turn_items {b k : Nat} {xs : List It} (hk : k < xs.length) (n : Int) (ht : tickIt xs[k] = ⟨xs[k].text, xs[k].last, xs[k].has, n⟩) : is (tkn (k + 1) xs) = (is (tkn k xs)).set (k * 4 + 3) (.int .i64 n) := by
  rw [is_since (tkn k xs) k (by rw [tkn_length]; exact hk) n, tkn_succ k xs hk, ht]
  simp only [tkn_at k xs hk]
theorem stay_items {k : Nat} {xs : List It} (hk : k < xs.length) (hh : xs[k].has = true) : is (tkn (k + 1) xs) = is (tkn k xs) := by
  have e : (tkn k xs).set k (tickIt xs[k]) = tkn k xs := by
    rw [tick_has hh]
    have := tkn_at k xs hk
    rw [← this]
    exact List.set_getElem_self _
  rw [tkn_succ k xs hk, e]
set_option maxRecDepth 100000 in
set_option maxHeartbeats 2000000 in
theorem specTick_yes (b : Nat) (ao : Option Addr) (cap : Nat) (xs : List It) (w : World) (hm : xs.length ≤ 1048576) (hz : ∀ i (h : i < xs.length), xs[i].text.size ≤ 1048576) (hr : Rs w ao xs.length (is xs)) (hao : ao = none → xs.length = 0 ∧ cap = 0) (hv : sdOk (b : Int) xs = true) :
    Calls Try.prog 30 #[.agg #[.int .i64 (b : Int), .slice ao xs.length cap]] w fun e w' => TickPost w (b : Int) xs e w' := by
  obtain ⟨i0, hi, hz0, hz1, hz2⟩ := info_parts info_int
  have hok := sdOk_of hv
  have hbb : b ≤ 1000000 := by have := hok.1; unfold HdOk at this; omega
  have hnn : xs.length ≤ 60 := by have := hok.1; unfold HdOk at this; omega
  have HC : Hid (∀ u : World, Rs u ao xs.length (is xs) → Calls Try.prog 52 #[.agg #[.int .i64 (b : Int), .slice ao xs.length cap]] u fun e w' => e = .returned (.bool true) ∧ Below u.heap.size u w') := fun u h => by have := specValid_any (b : Int) ao cap xs u hm hz h; rw [hv] at this; exact this
  have HG : Hid (∀ u : World, Rs u ao xs.length (is xs) → Calls Try.prog 54 #[.agg #[.int .i64 (b : Int), .slice ao xs.length cap]] u fun e w' => (∃ g' c, e = .returned (.agg #[.int .i64 (b : Int), .slice (some ⟨g', 0, none⟩) xs.length c]) ∧ w'.ownsRow u.heap.size 87 4 (.slice (some ⟨g', 0, none⟩) xs.length c) xs.length (is xs)) ∧ Below u.heap.size u w') := fun u h => copy_opt (b : Int) ao cap xs u hm h hao
  have HSV : Hid (∀ i (h : i < xs.length), -1 ≤ xs[i].since ∧ xs[i].since ≤ 3) := fun i h => ⟨(hok.2 i h).2.1, (hok.2 i h).2.2.1⟩
  have R2 : Hid (Rs (((w.alloc (.cells #[.int .i64 (b : Int), .slice ao xs.length cap] 38)).alloc (.cells #[.int .i64 0, .slice none 0 0] 38)).alloc (.cells #[] 3)) ao xs.length (is xs)) := hr.keep (three_belowK _ _ _ _)
  have X1 : Hid (Bx (((w.alloc (.cells #[.int .i64 (b : Int), .slice ao xs.length cap] 38)).alloc (.cells #[.int .i64 0, .slice none 0 0] 38)).alloc (.cells #[] 3)) (w.heap.size + 1) 38 #[.int .i64 0, .slice none 0 0]) := (by have := (Bx.new (w.alloc (.cells #[.int .i64 (b : Int), .slice ao xs.length cap] 38)) 38 #[.int .i64 0, .slice none 0 0]).alloc (.cells #[] 3); rw [World.size_alloc] at this; exact this)
  have X0 : Hid (Bx (((w.alloc (.cells #[.int .i64 (b : Int), .slice ao xs.length cap] 38)).alloc (.cells #[.int .i64 0, .slice none 0 0] 38)).alloc (.cells #[] 3)) w.heap.size 38 #[.int .i64 (b : Int), .slice ao xs.length cap]) := ((Bx.new w 38 _).alloc _).alloc _
  have I3 : Hid ((((w.alloc (.cells #[.int .i64 (b : Int), .slice ao xs.length cap] 38)).alloc (.cells #[.int .i64 0, .slice none 0 0] 38)).alloc (.cells #[] 3)).ownsRow w.heap.size 3 1 (.slice (some ⟨w.heap.size + 1 + 1, 0, none⟩) 0 0) 0 []) := ints_lit _ _ (by simp) _ (by simp; omega)
  have T0 : Hid (tickOf (b : Int) xs = ((b : Int), tkn (min 8 xs.length) xs, snt b xs (min 8 xs.length))) := (by unfold tickOf; rw [hv]; simp : tickOf (b : Int) xs = ((b : Int), tkn (min 8 xs.length) xs, snt b xs (min 8 xs.length)))
  have BB : Hid (Below w.heap.size w (((w.alloc (.cells #[.int .i64 (b : Int), .slice ao xs.length cap] 38)).alloc (.cells #[.int .i64 0, .slice none 0 0] 38)).alloc (.cells #[] 3))) := three_belowK _ _ _ _
  clear hz hr hao hv hok
  go_enter Try.func30, Try.ntmps30
  go_wp2_with (first
    | (go_at_call 52; refine (HC.out _ R2.out).mono ?_; rintro e w1 ⟨rfl, hb1⟩; (have u0 := (X0.out.keep hb1).cell 0); (have u1 := (X0.out.keep hb1).cell 1); simp at u0 u1)
    | (go_at_call 54; refine (HG.out _ (R2.out.keep hb1)).mono ?_; rintro e w2 ⟨⟨g2, c2, rfl, ho2⟩, hb2⟩))
  have B2 := kb (kb BB.out hb1 (Nat.le_refl _)) hb2 (Nat.le_refl _)
  have Y0 := ((X0.out.keep hb1).keep hb2).alloc (.cells #[.int .i64 (b : Int), .slice (some ⟨g2, 0, none⟩) xs.length c2] 38)
  have Y1 := ((X1.out.keep hb1).keep hb2).alloc (.cells #[.int .i64 (b : Int), .slice (some ⟨g2, 0, none⟩) xs.length c2] 38)
  have Y2 := Bx.new w2 38 #[.int .i64 (b : Int), .slice (some ⟨g2, 0, none⟩) xs.length c2]
  have J2 := (owns_keep (owns_keep I3.out hb1) hb2).alloc (.cells #[.int .i64 (b : Int), .slice (some ⟨g2, 0, none⟩) xs.length c2] 38)
  have o2 := ho2.alloc (.cells #[.int .i64 (b : Int), .slice (some ⟨g2, 0, none⟩) xs.length c2] 38)
  have s1 := hb1.size
  have s2 := hb2.size
  simp only [World.size_alloc] at s1
  clear u0 u1 X0 X1 I3 BB HC HG R2 hb1 hb2 ho2
  go_loopw [4, 6] (fun o i wr => ∃ (k : Nat) (a : Option Addr) (c : Nat), k ≤ min 8 xs.length ∧ i = .int .i64 k ∧ o = .slice a (snt b xs k).length c ∧ wr.ownsRow w.heap.size 3 1 (.slice a (snt b xs k).length c) (snt b xs k).length (ns (snt b xs k)) ∧ wr.ownsRow w1.heap.size 87 4 (.slice (some ⟨g2, 0, none⟩) xs.length c2) xs.length (is (tkn k xs)) ∧ Bx wr w.heap.size 38 #[.int .i64 (b : Int), .slice ao xs.length cap] ∧ Bx wr (w.heap.size + 1) 38 #[.int .i64 0, .slice none 0 0] ∧ Bx wr w2.heap.size 38 #[.int .i64 (b : Int), .slice (some ⟨g2, 0, none⟩) xs.length c2] ∧ Below w.heap.size w wr) (fun _ i _ => 8 - (intOf i).toNat)
  case atStart => exact ⟨0, _, _, Nat.zero_le _, rfl, rfl, J2, by rw [tkn_zero]; exact o2, Y0, Y1, Y2, B2.alloc B2.size _⟩
  case round =>
    clear Y0 Y1 Y2 J2 o2 B2
    obtain ⟨k, a, c, hk, rfl, rfl, hsent, hrow, x0, x1, x2, hbel⟩ := hrel
    have hsl := snt_length b xs k
    have htl := tkn_length k xs
    have p0 := x0.cell 0
    have p1 := x2.cell 1
    simp at p0 p1
    have hrl := hrow.1
    have l0 := x0.lt
    have l1 := x1.lt
    have l2 := x2.lt
    have l3 := (hrow.lt g2 rfl).2
    obtain ⟨K, hK⟩ : ∃ K, K = min 8 xs.length := ⟨_, rfl⟩
    rw [← hK] at hk
    have HK : Hid (K = min 8 xs.length) := hK
    have hK8 : K ≤ 8 := by omega
    have hKn : K ≤ xs.length := by omega
    have hKK : 8 ≤ K ∨ xs.length ≤ K := by omega
    clear hK
    by_cases hlk : k < K
    · have hkn : k < xs.length := by omega
      obtain ⟨c0, c1, c2', c3⟩ := is_at (tkn k xs) k (by rw [htl]; exact hkn)
      simp only [tkn_at k xs hkn] at c0 c1 c2' c3
      have q0 := (hrow.cellAt (k * 4) (by omega)).trans c0
      have q1 := (hrow.cellAt (k * 4 + 1) (by omega)).trans c1
      have q2 := (hrow.cellAt (k * 4 + 2) (by omega)).trans c2'
      have q3 := (hrow.cellAt (k * 4 + 3) (by omega)).trans c3
      have f3 := hrow.frozenAt (k * 4 + 3)
      have hv := HSV.out k hkn
      have hst : xs[k].has = true ∨ (xs[k].has = false ∧ xs[k].since = -1) ∨ (xs[k].has = false ∧ xs[k].since = 3) ∨ (xs[k].has = false ∧ 0 ≤ xs[k].since ∧ xs[k].since ≤ 2) := by
        cases xs[k].has
        · simp; omega
        · simp
      rcases hst with e1 | ⟨e1, e2⟩ | ⟨e1, e2⟩ | ⟨e1, e2, e3⟩
      · have HN : Hid (is (tkn (k + 1) xs) = is (tkn k xs)) := stay_items hkn e1
        have HS : Hid (snt b xs (k + 1) = snt b xs k) := snt_no b xs k hkn (fun h => by have := h.1; rw [e1] at this; cases this)
        rw [e1] at q2
        clear c0 c1 c2' c3 hv e1
        generalize xs[k].text = s at *
        generalize xs[k].last = l at *
        generalize xs[k].since = n at *
        go_wp2
        refine ⟨⟨k + 1, a, c, by have := HK.out; omega, by go_num, by rw [HS.out], by rw [HS.out]; exact hsent.alloc _, by rw [HN.out]; exact hrow.alloc _, x0.alloc _, x1.alloc _, x2.alloc _, hbel.alloc hbel.size _⟩, by simp [intOf]; omega⟩
      · have HN : Hid (is (tkn (k + 1) xs) = (is (tkn k xs)).set (k * 4 + 3) (.int .i64 0)) := turn_items (b := b) hkn 0 (tick_fires ⟨e1, .inl e2⟩)
        have HS : Hid (snt b xs (k + 1) = snt b xs k ++ [(b : Int) + (k : Int)]) := (snt_yes b xs k hkn ⟨e1, .inl e2⟩ : _ = _)
        rw [e1] at q2
        rw [e2] at q3 c3
        have hC3 : Hid ((is (tkn k xs))[k * 4 + 3]? = _) := c3
        clear c0 c1 c2' c3 hv e1 e2
        generalize xs[k].text = s at *
        generalize xs[k].last = l at *
        go_wp2_with (at_builtin; refine wpList_append_own _ rfl _ _ 57 rfl w.heap.size 3 i0 (.int .i64 0) 1 8 Try.underlying57 hi hz0 hz1 hz2 rfl (by decide) _ _ _ rfl ((hsent.alloc _).alloc _) ⟨wr.heap.size + 1, 0, none⟩ 1 1 [.int .i64 ((b : Int) + (k : Int))] rfl rfl (one_at (by simp) _ _) (by simp [Value.oneCell']) (by unfold maxLen; omega) (by omega) (by have := hbel.size; simp; omega) ?_; intro v' w4 hown' hg4 _; (obtain ⟨a', c', rfl, _, _, _⟩ := rs_of_owns hown'); (have x2' := ((x2.alloc _).alloc _).kept hg4 (x2.ne (by decide) hsent)); (have row4 := ((hrow.alloc _).alloc _).kept hg4 (rows_ne hrow hsent (by decide))); (have p1' := x2'.cell 1); (have q3' := (row4.cellAt (k * 4 + 3) (by omega)).trans hC3.out); (have f3' := row4.frozenAt (k * 4 + 3)); simp at p1')
        have x0' := ((x0.alloc _).alloc _).kept hg4 (x0.ne (by decide) hsent)
        have x1' := ((x1.alloc _).alloc _).kept hg4 (x1.ne (by decide) hsent)
        have B4 := ((hbel.alloc hbel.size _).alloc (Nat.le_trans hbel.size (by simp)) _).grown hg4 (Nat.le_trans hbel.size (by simp; omega)) (fun j hj => (hsent.lt j hj).1)
        have hgl := (hrow.lt g2 rfl).1
        refine ⟨⟨k + 1, a', c', by have := HK.out; omega, by go_num, by rw [HS.out, List.length_append]; rfl, ?_, by rw [HN.out]; exact (row4.stored (k * 4 + 3) (.int .i64 0)).1, x0'.kept (grow_set _ ⟨g2, k * 4 + 3, none⟩ _) (x0'.ne (by decide) row4), x1'.kept (grow_set _ ⟨g2, k * 4 + 3, none⟩ _) (x1'.ne (by decide) row4), x2'.kept (grow_set _ ⟨g2, k * 4 + 3, none⟩ _) (x2'.ne (by decide) row4), B4.setCell (p := ⟨g2, k * 4 + 3, none⟩) (by show w.heap.size ≤ g2; omega) _⟩, by simp [intOf]; omega⟩
        rw [HS.out, ns_append, List.length_append]
        exact ownsRow_setCell_other hown' (a := ⟨g2, k * 4 + 3, none⟩) (ne_some (rows_ne hown' row4 (by decide))) _
      · have HN : Hid (is (tkn (k + 1) xs) = (is (tkn k xs)).set (k * 4 + 3) (.int .i64 0)) := turn_items (b := b) hkn 0 (tick_fires ⟨e1, .inr e2⟩)
        have HS : Hid (snt b xs (k + 1) = snt b xs k ++ [(b : Int) + (k : Int)]) := (snt_yes b xs k hkn ⟨e1, .inr e2⟩ : _ = _)
        rw [e1] at q2
        rw [e2] at q3 c3
        have hC3 : Hid ((is (tkn k xs))[k * 4 + 3]? = _) := c3
        clear c0 c1 c2' c3 hv e1 e2
        generalize xs[k].text = s at *
        generalize xs[k].last = l at *
        go_wp2_with (at_builtin; refine wpList_append_own _ rfl _ _ 57 rfl w.heap.size 3 i0 (.int .i64 0) 1 8 Try.underlying57 hi hz0 hz1 hz2 rfl (by decide) _ _ _ rfl ((hsent.alloc _).alloc _) ⟨wr.heap.size + 1, 0, none⟩ 1 1 [.int .i64 ((b : Int) + (k : Int))] rfl rfl (one_at (by simp) _ _) (by simp [Value.oneCell']) (by unfold maxLen; omega) (by omega) (by have := hbel.size; simp; omega) ?_; intro v' w4 hown' hg4 _; (obtain ⟨a', c', rfl, _, _, _⟩ := rs_of_owns hown'); (have x2' := ((x2.alloc _).alloc _).kept hg4 (x2.ne (by decide) hsent)); (have row4 := ((hrow.alloc _).alloc _).kept hg4 (rows_ne hrow hsent (by decide))); (have p1' := x2'.cell 1); (have q3' := (row4.cellAt (k * 4 + 3) (by omega)).trans hC3.out); (have f3' := row4.frozenAt (k * 4 + 3)); simp at p1')
        have x0' := ((x0.alloc _).alloc _).kept hg4 (x0.ne (by decide) hsent)
        have x1' := ((x1.alloc _).alloc _).kept hg4 (x1.ne (by decide) hsent)
        have B4 := ((hbel.alloc hbel.size _).alloc (Nat.le_trans hbel.size (by simp)) _).grown hg4 (Nat.le_trans hbel.size (by simp; omega)) (fun j hj => (hsent.lt j hj).1)
        have hgl := (hrow.lt g2 rfl).1
        refine ⟨⟨k + 1, a', c', by have := HK.out; omega, by go_num, by rw [HS.out, List.length_append]; rfl, ?_, by rw [HN.out]; exact (row4.stored (k * 4 + 3) (.int .i64 0)).1, x0'.kept (grow_set _ ⟨g2, k * 4 + 3, none⟩ _) (x0'.ne (by decide) row4), x1'.kept (grow_set _ ⟨g2, k * 4 + 3, none⟩ _) (x1'.ne (by decide) row4), x2'.kept (grow_set _ ⟨g2, k * 4 + 3, none⟩ _) (x2'.ne (by decide) row4), B4.setCell (p := ⟨g2, k * 4 + 3, none⟩) (by show w.heap.size ≤ g2; omega) _⟩, by simp [intOf]; omega⟩
        rw [HS.out, ns_append, List.length_append]
        exact ownsRow_setCell_other hown' (a := ⟨g2, k * 4 + 3, none⟩) (ne_some (rows_ne hown' row4 (by decide))) _
      · have HN : Hid (is (tkn (k + 1) xs) = (is (tkn k xs)).set (k * 4 + 3) (.int .i64 (xs[k].since + 1))) := turn_items (b := b) hkn _ (tick_older e1 (by omega))
        have HS : Hid (snt b xs (k + 1) = snt b xs k) := snt_no b xs k hkn (fun h => by have := h.2; omega)
        rw [e1] at q2
        clear c0 c1 c2' c3 hv e1
        generalize xs[k].text = s at *
        generalize xs[k].last = l at *
        generalize xs[k].since = n at *
        have hn1 : (n == -1) = false := by simp; omega
        have hn3 : (n == 3) = false := by simp; omega
        go_wp2
        have hgl := (hrow.lt g2 rfl).1
        have nS := ne_some (b := g2) (rows_ne hsent hrow (by decide))
        refine ⟨⟨k + 1, a, c, by have := HK.out; omega, by go_num, by rw [HS.out], by rw [HS.out]; exact (ownsRow_setCell_other hsent (a := ⟨g2, k * 4 + 3, none⟩) nS _).alloc _, by rw [HN.out]; exact ((hrow.stored (k * 4 + 3) (.int .i64 (n + 1))).1).alloc _, (x0.kept (grow_set _ ⟨g2, k * 4 + 3, none⟩ _) (x0.ne (by decide) hrow)).alloc _, (x1.kept (grow_set _ ⟨g2, k * 4 + 3, none⟩ _) (x1.ne (by decide) hrow)).alloc _, (x2.kept (grow_set _ ⟨g2, k * 4 + 3, none⟩ _) (x2.ne (by decide) hrow)).alloc _, (hbel.setCell (p := ⟨g2, k * 4 + 3, none⟩) (by show w.heap.size ≤ g2; omega) _).alloc (Nat.le_trans hbel.size (by simp)) _⟩, by simp [intOf]; omega⟩
    · have hkK : k = K := by omega
      subst hkK
      have hk2 : Hid (k = min 8 xs.length) := HK.out
      have p0' := x2.cell 0
      have y0 := x1.cell 0
      have y1 := x1.cell 1
      have z0 := x1.frozen 0
      have z1 := x1.frozen 1
      simp at p0' y0 y1
      have fin : ∀ v : Value, v = .tuple #[.agg #[.int .i64 (b : Int), .slice (some ⟨g2, 0, none⟩) xs.length c2], .slice a (snt b xs k).length c] → TickPost w (b : Int) xs (.returned v) ((wr.setCell ⟨w.heap.size + 1, 0, none⟩ (.int .i64 (b : Int))).setCell ⟨w.heap.size + 1, 1, none⟩ (.slice (some ⟨g2, 0, none⟩) xs.length c2)) := by
        rintro v rfl
        have n1 : (Value.slice (some ⟨g2, 0, none⟩) xs.length c2).ownBlock ≠ some (w.heap.size + 1) := fun e => x1.ne (by decide) hrow e.symm
        have n2 : (Value.slice a (snt b xs k).length c).ownBlock ≠ some (w.heap.size + 1) := fun e => x1.ne (by decide) hsent e.symm
        have P1 := ownsRow_setCell_other (ownsRow_setCell_other hrow (a := ⟨w.heap.size + 1, 0, none⟩) n1 (.int .i64 (b : Int))) (a := ⟨w.heap.size + 1, 1, none⟩) n1 (.slice (some ⟨g2, 0, none⟩) xs.length c2)
        have P2 := ownsRow_setCell_other (ownsRow_setCell_other hsent (a := ⟨w.heap.size + 1, 0, none⟩) n2 (.int .i64 (b : Int))) (a := ⟨w.heap.size + 1, 1, none⟩) n2 (.slice (some ⟨g2, 0, none⟩) xs.length c2)
        unfold TickPost
        rw [T0.out, ← hk2.out]
        dsimp only
        rw [htl]
        exact ⟨⟨some ⟨g2, 0, none⟩, c2, a, c, rfl, owns_mono P1 (by omega), P2⟩, (hbel.setCell (p := ⟨w.heap.size + 1, 0, none⟩) (by simp) _).setCell (p := ⟨w.heap.size + 1, 1, none⟩) (by simp) _⟩
      have FIN : Hid (∀ v : Value, v = .tuple #[.agg #[.int .i64 (b : Int), .slice (some ⟨g2, 0, none⟩) xs.length c2], .slice a (snt b xs k).length c] → TickPost w (b : Int) xs (.returned v) ((wr.setCell ⟨w.heap.size + 1, 0, none⟩ (.int .i64 (b : Int))).setCell ⟨w.heap.size + 1, 1, none⟩ (.slice (some ⟨g2, 0, none⟩) xs.length c2))) := fin
      clear fin
      go_wp2
      all_goals exact bodyPost_ret (v := .tuple #[.agg #[.int .i64 (b : Int), .slice (some ⟨g2, 0, none⟩) xs.length c2], .slice a (snt b xs k).length c]) (by simp [results, Try.results30, go_sem, y0, y1]) rfl (FIN.out _ rfl)
theorem specTick_opt (b : Int) (ao : Option Addr) (cap : Nat) (xs : List It) (w : World) (hm : xs.length ≤ 1048576) (hz : ∀ i (h : i < xs.length), xs[i].text.size ≤ 1048576) (hr : Rs w ao xs.length (is xs)) (hao : ao = none → xs.length = 0 ∧ cap = 0) :
    Calls Try.prog 30 #[.agg #[.int .i64 b, .slice ao xs.length cap]] w fun e w' => TickPost w b xs e w' := by
  cases hv : sdOk b xs
  · exact specTick_no b ao cap xs w hm hz hr hao hv
  · obtain ⟨n, rfl⟩ : ∃ n : Nat, b = (n : Int) := ⟨b.toNat, by have := (sdOk_of hv).1; unfold HdOk at this; omega⟩
    exact specTick_yes n ao cap xs w hm hz hr hao hv
theorem specTick_any (b : Int) (g cap : Nat) (xs : List It) (w : World) (hm : xs.length ≤ 1048576) (hz : ∀ i (h : i < xs.length), xs[i].text.size ≤ 1048576) (hr : Rs w (some ⟨g, 0, none⟩) xs.length (is xs)) :
    Calls Try.prog 30 #[.agg #[.int .i64 b, .slice (some ⟨g, 0, none⟩) xs.length cap]] w fun e w' => TickPost w b xs e w' :=
  specTick_opt b (some ⟨g, 0, none⟩) cap xs w hm hz hr (fun h => by cases h)
end Go.Proofs.Yteceaadmgpjmcaa.mk

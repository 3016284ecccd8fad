/-
  TICKING: the ring's tick.
-/
import Derived.Test.YteceaadmgpjmcaaTickP
import Derived.Test.YteceaadmgpjmcaaValB
import Derived.Maps.Range
namespace Go.Proofs.Yteceaadmgpjmcaa.mk
open Go.RowKit
set_option linter.unusedVariables false

theorem info_int : (Try.prog.info? 3).map (fun i => (i.zero, i.size, i.bytes)) = some (some (.int .i64 0), 1, 8) := by kernel_rfl
theorem windowEnd_any (R : Nat) (b e : Nat) (w : World) (hb : b ≤ 1000100) (he : e ≤ 1000100) (hF : w.cell? ⟨R, 240, none⟩ = some (.int .i64 (b : Int))) (hE : w.cell? ⟨R, 241, none⟩ = some (.int .i64 (e : Int))) :
    Calls Try.prog 88 #[.pointer (some ⟨R, 0, none⟩)] w fun x w' => x = .returned (.int .i64 ((min (b + 8) e : Nat) : Int)) ∧ Below w.heap.size w w' := by
  go_enter Try.func88, Try.ntmps88
  go_wp2
  go_region_held3 (fun w' => w'.cell? ⟨R, 240, none⟩ = some (.int .i64 (b : Int)) ∧ w'.cell? ⟨R, 241, none⟩ = some (.int .i64 (e : Int)) ∧ w' = w.drew)
    (first | assumption | (simp [go_sem, hF, hE]; done) | go_keep)
    (fail)
  have q : min (IntKind.i64.wrap ((b : Int) + 8)) (e : Int) = ((min (b + 8) e : Nat) : Int) := by rw [IntKind.wrap_i64]; omega
  rw [q]
  go_wp2
  go_ret
  exact ⟨rfl, (Below.refl _ _).drew⟩
theorem grow_none {w w' : World} (row : Option Nat) (h : Below w.heap.size w w') : w.grownBy w' row := grow_below row h
theorem rows_ne {w : World} {b b' : Nat} {e e' : TypeId} {sz sz' n n' : Nat} {v v' : Value} {xs xs' : List Value} (h : w.ownsRow b e sz v n xs) (h' : w.ownsRow b' e' sz' v' n' xs') (hne : e ≠ e') : v.ownBlock = none ∨ v.ownBlock ≠ v'.ownBlock := by
  rcases h.2 with ⟨rfl, _⟩ | ⟨g, cap, cur, rfl, _, hg, _⟩
  · exact .inl rfl
  right
  rcases h'.2 with ⟨rfl, _⟩ | ⟨g', cap', cur', rfl, _, hg', _⟩
  · simp [Value.ownBlock]
  · intro e2
    simp only [Value.ownBlock, Option.some.injEq] at e2
    subst e2
    rw [hg] at hg'
    simp at hg'
    exact hne hg'.2
theorem one_at {W : World} {k : Nat} (h : W.heap.size = k) (v : Value) (t : TypeId) : ∀ j u, ([v] : List Value)[j]? = some u → (W.alloc (.cells #[v] t)).cell? ((⟨k, 0, none⟩ : Addr).add j) = some u := by
  subst h
  exact cell_one_new _ _ _
theorem tick_turn {b k : Nat} {xs : List It} {cs : List Value} (hH : Holds b (tkn k xs) cs) (hn : xs.length ≤ 60) (hk : k < xs.length) (n : Int) (ht : tickIt xs[k] = ⟨xs[k].text, xs[k].last, xs[k].has, n⟩) : Holds b (tkn (k + 1) xs) (cs.set ((b + k) % 60 * 4 + 3) (.int .i64 n)) := by
  have := hH.since (by rw [tkn_length]; exact hn) k (by rw [tkn_length]; exact hk) n
  simp only [tkn_at k xs hk] at this
  rw [tkn_succ k xs hk, ht]
  exact this
theorem tick_stay {b k : Nat} {xs : List It} {cs : List Value} (hH : Holds b (tkn k xs) cs) (hk : k < xs.length) (hh : xs[k].has = true) : Holds b (tkn (k + 1) xs) cs := by
  have e : (tkn k xs).set k (tickIt xs[k]) = tkn k xs := by
    rw [tick_has hh]
    have := tkn_at k xs hk
    rw [← this]
    exact List.set_getElem_self _
  rw [tkn_succ k xs hk, e]
  exact hH
set_option maxRecDepth 100000 in
set_option maxHeartbeats 2000000 in
theorem tick_any (base : Nat) (R : Rl) (b : Nat) (cs : List Value) (xs : List It) (w : World) (hb : b ≤ 1000000) (hn : xs.length ≤ 60) (hv : ∀ i (h : i < xs.length), -1 ≤ xs[i].since ∧ xs[i].since ≤ 3) (hr : Ring base R cs w) (hH : Holds b xs cs) :
    Calls Try.prog 65 #[.pointer (some ⟨R, 0, none⟩)] w fun x w' => (∃ ao c cs', x = .returned (.slice ao (snt b xs (min 8 xs.length)).length c) ∧ w'.ownsRow w.heap.size 3 1 (.slice ao (snt b xs (min 8 xs.length)).length c) (snt b xs (min 8 xs.length)).length (ns (snt b xs (min 8 xs.length))) ∧ Ring base R cs' w' ∧ Holds b (tkn (min 8 xs.length) xs) cs') ∧ w.grownBy w' (some R) := by
  obtain ⟨i0, hi, hz0, hz1, hz2⟩ := info_parts info_int
  have hlt := hr.lt
  have hF0 := (hr.cell 240 (by omega)).trans hH.2.1
  have HR : Hid (Ring base R cs w) := hr
  have HH : Hid (Holds b xs cs) := hH
  have HV : Hid (∀ i (h : i < xs.length), -1 ≤ xs[i].since ∧ xs[i].since ≤ 3) := hv
  clear hr hH hv
  go_enter Try.func65, Try.ntmps65
  go_wp2
  go_loopw [3, 4] (fun o i wr => ∃ (k : Nat) (cs : List Value) (ao : Option Addr) (c : Nat), k ≤ min 8 xs.length ∧ i = .int .i64 ((b + k : Nat) : Int) ∧ o = .slice ao (snt b xs k).length c ∧ wr.ownsRow w.heap.size 3 1 (.slice ao (snt b xs k).length c) (snt b xs k).length (ns (snt b xs k)) ∧ Ring base R cs wr ∧ Holds b (tkn k xs) cs ∧ w.grownBy wr (some R)) (fun _ i _ => b + 8 - (intOf i).toNat)
  case atStart => exact ⟨0, cs, none, 0, Nat.zero_le _, rfl, rfl, World.ownsRow_nil _ _ _ _, HR.out, by rw [tkn_zero]; exact HH.out, grow_none _ (Below.refl _ _)⟩
  case round =>
    clear HR HH hF0
    obtain ⟨k, cs, ao, c, hk, rfl, rfl, hown, hring, hH, hgr⟩ := hrel
    have hsl := snt_length b xs k
    have htl := tkn_length k xs
    have hF := (hring.cell 240 (by omega)).trans hH.2.1
    have hE := (hring.cell 241 (by omega)).trans hH.2.2.1
    rw [htl] at hE
    have hWE := fun (u : World) (h1 : u.cell? ⟨R, 240, none⟩ = some (.int .i64 (b : Int))) (h2 : u.cell? ⟨R, 241, none⟩ = some (.int .i64 ((b + xs.length : Nat) : Int))) => windowEnd_any R b (b + xs.length) u (by omega) (by omega) h1 h2
    have hmin : min (b + 8) (b + xs.length) = b + min 8 xs.length := by omega
    rw [hmin] at hWE
    have HW : Hid (∀ u : World, u.cell? ⟨R, 240, none⟩ = some (.int .i64 (b : Int)) → u.cell? ⟨R, 241, none⟩ = some (.int .i64 ((b + xs.length : Nat) : Int)) → Calls Try.prog 88 #[.pointer (some ⟨R, 0, none⟩)] u fun x w' => x = .returned (.int .i64 ((b + min 8 xs.length : Nat) : Int)) ∧ Below u.heap.size u w') := hWE
    clear hWE hmin
    obtain ⟨K, hK⟩ : ∃ K, K = min 8 xs.length := ⟨_, rfl⟩
    rw [← hK] at hk HW ⊢
    have hK8 : K ≤ 8 := by omega
    have hKn : K ≤ xs.length := by omega
    have HK : Hid (K = min 8 xs.length) := hK
    clear hK
    obtain ⟨q, hq⟩ : ∃ q, q = b + k := ⟨_, rfl⟩
    obtain ⟨E, hEq⟩ : ∃ E, E = b + K := ⟨_, rfl⟩
    rw [← hEq] at HW
    rw [← hq]
    have hqE : k < K → q < E := by omega
    have hqe : ¬ k < K → ¬ q < E := by omega
    have hqb : q ≤ 1000100 := by omega
    have hEb : E ≤ 1000100 := by omega
    by_cases hlk : k < K
    · have hkn : k < xs.length := by omega
      have hQE := hqE hlk
      obtain ⟨c0, c1, c2, c3⟩ := hH.2.2.2 k (by rw [htl]; exact hkn)
      simp only [tkn_at k xs hkn, ← hq] at c0 c1 c2 c3
      have hv := HV.out k hkn
      have HQ : Hid (q = b + k) := hq
      have HRg : Hid (Ring base R cs wr) := hring
      have hst : xs[k].has = true ∨ (xs[k].has = false ∧ xs[k].since = -1) ∨ (xs[k].has = false ∧ xs[k].since = 3) ∨ (xs[k].has = false ∧ 0 ≤ xs[k].since ∧ xs[k].since ≤ 2) := by
        cases xs[k].has
        · simp; omega
        · simp
      rcases hst with e1 | ⟨e1, e2⟩ | ⟨e1, e2⟩ | ⟨e1, e2, e3⟩
      · have HN : Hid (Holds b (tkn (k + 1) xs) cs) := tick_stay hH hkn e1
        have HS : Hid (snt b xs (k + 1) = snt b xs k) := snt_no b xs k hkn (fun h => by have := h.1; rw [e1] at this; cases this)
        rw [e1] at c2
        clear hH hq hEq hqE hqe hv e1
        generalize xs[k].text = s at *
        generalize xs[k].last = l at *
        generalize xs[k].since = n at *
        go_wp2_with (first | (go_at_call 88; refine (HW.out _ hF hE).mono ?_; rintro x w1 ⟨rfl, hb1⟩; (have g1 := hring.keep hb1); (have p0 := (g1.cell (q % 60 * 4) (by omega)).trans c0); (have p1 := (g1.cell (q % 60 * 4 + 1) (by omega)).trans c1); (have p2 := (g1.cell (q % 60 * 4 + 2) (by omega)).trans c2); (have p3 := (g1.cell (q % 60 * 4 + 3) (by omega)).trans c3); (have f3 := g1.frozen (q % 60 * 4 + 3))) | (go_at_call 84; refine (at_any R q _ (by omega)).mono ?_; rintro x w' ⟨rfl, rfl⟩))
        refine ⟨⟨k + 1, cs, ao, c, by omega, by have := HQ.out; go_num, by rw [HS.out], by rw [HS.out]; exact owns_keep hown hb1, g1, HN.out, hgr.trans (grow_below _ hb1)⟩, by have := HQ.out; simp [intOf]; omega⟩
      · have HN : Hid (Holds b (tkn (k + 1) xs) (cs.set ((b + k) % 60 * 4 + 3) (.int .i64 0))) := tick_turn hH hn hkn 0 (tick_fires ⟨e1, .inl e2⟩)
        have HS : Hid (snt b xs (k + 1) = snt b xs k ++ [((b + k : Nat) : Int)]) := snt_yes b xs k hkn ⟨e1, .inl e2⟩
        rw [← hq] at HN HS
        rw [e1] at c2
        rw [e2] at c3
        clear hH hq hEq hqE hqe hv e1 e2
        generalize xs[k].text = s at *
        generalize xs[k].last = l at *
        go_wp2_with (first | (go_at_call 88; refine (HW.out _ hF hE).mono ?_; rintro x w1 ⟨rfl, hb1⟩; (have g1 := hring.keep hb1); (have p0 := (g1.cell (q % 60 * 4) (by omega)).trans c0); (have p1 := (g1.cell (q % 60 * 4 + 1) (by omega)).trans c1); (have p2 := (g1.cell (q % 60 * 4 + 2) (by omega)).trans c2); (have p3 := (g1.cell (q % 60 * 4 + 3) (by omega)).trans c3); (have f3 := g1.frozen (q % 60 * 4 + 3))) | (go_at_call 84; refine (at_any R q _ (by omega)).mono ?_; rintro x w' ⟨rfl, rfl⟩) | (go_at_call 89; refine (wasSent_no _ _ _ _).mono ?_; rintro x w2 ⟨rfl, hb2⟩; (have g2 := g1.keep hb2); (have u3 := (g2.cell (q % 60 * 4 + 3) (by omega)).trans c3); (have z3 := g2.frozen (q % 60 * 4 + 3)); (have hs2 := ownsRow_setCell_other (owns_keep (owns_keep hown hb1) hb2) (a := ⟨R, q % 60 * 4 + 3, none⟩) (Ne.symm (g2.neInt (owns_keep (owns_keep hown hb1) hb2))) (.int .i64 0))) | (at_builtin; refine wpList_append_own _ rfl _ _ 57 rfl w.heap.size 3 i0 (.int .i64 0) 1 8 Try.underlying57 hi hz0 hz1 hz2 rfl (by decide) _ _ _ rfl (hs2.alloc _) ⟨w2.heap.size, 0, none⟩ 1 1 [.int .i64 (q : Int)] rfl rfl (one_at (by simp) _ _) (by simp [Value.oneCell']) (by unfold maxLen; omega) (by omega) (by have := hgr.size; have := hb1.size; have := hb2.size; simp; omega) ?_; intro v' w4 hown' hgrow _; obtain ⟨ao', c', rfl, _, _, _⟩ := rs_of_owns hown'))
        have r4 : Ring base R (cs.set (q % 60 * 4 + 3) (.int .i64 0)) w4 := ((g2.put (q % 60 * 4 + 3) (.int .i64 0)).alloc _).kept hgrow (Ring.neInt (g2.put (q % 60 * 4 + 3) (.int .i64 0)) hs2)
        have G4 : w.grownBy w4 (some R) := (((((hgr.trans (grow_below _ hb1)).trans (grow_below _ hb2)).trans (grow_set _ ⟨R, q % 60 * 4 + 3, none⟩ (.int .i64 0))).trans (World.grownBy_alloc _ _ _))).andThen hgrow (fun j hj => .inl (hs2.lt j hj).1)
        refine ⟨⟨k + 1, _, ao', c', by omega, by have := HQ.out; go_num, by rw [HS.out, List.length_append]; rfl, by rw [HS.out, ns_append, List.length_append]; exact hown', r4, HN.out, G4⟩, by have := HQ.out; simp [intOf]; omega⟩
      · have HN : Hid (Holds b (tkn (k + 1) xs) (cs.set ((b + k) % 60 * 4 + 3) (.int .i64 0))) := tick_turn hH hn hkn 0 (tick_fires ⟨e1, .inr e2⟩)
        have HS : Hid (snt b xs (k + 1) = snt b xs k ++ [((b + k : Nat) : Int)]) := snt_yes b xs k hkn ⟨e1, .inr e2⟩
        rw [← hq] at HN HS
        rw [e1] at c2
        rw [e2] at c3
        clear hH hq hEq hqE hqe hv e1 e2
        generalize xs[k].text = s at *
        generalize xs[k].last = l at *
        go_wp2_with (first | (go_at_call 88; refine (HW.out _ hF hE).mono ?_; rintro x w1 ⟨rfl, hb1⟩; (have g1 := hring.keep hb1); (have p0 := (g1.cell (q % 60 * 4) (by omega)).trans c0); (have p1 := (g1.cell (q % 60 * 4 + 1) (by omega)).trans c1); (have p2 := (g1.cell (q % 60 * 4 + 2) (by omega)).trans c2); (have p3 := (g1.cell (q % 60 * 4 + 3) (by omega)).trans c3); (have f3 := g1.frozen (q % 60 * 4 + 3))) | (go_at_call 84; refine (at_any R q _ (by omega)).mono ?_; rintro x w' ⟨rfl, rfl⟩) | (go_at_call 89; refine (wasSent_yes _ _ _ 3 _ (by decide)).mono ?_; rintro x w2 ⟨rfl, hb2⟩; (have g2 := g1.keep hb2); (have u3 := (g2.cell (q % 60 * 4 + 3) (by omega)).trans c3); (have z3 := g2.frozen (q % 60 * 4 + 3)); (have hs2 := ownsRow_setCell_other (owns_keep (owns_keep hown hb1) hb2) (a := ⟨R, q % 60 * 4 + 3, none⟩) (Ne.symm (g2.neInt (owns_keep (owns_keep hown hb1) hb2))) (.int .i64 0))) | (at_builtin; refine wpList_append_own _ rfl _ _ 57 rfl w.heap.size 3 i0 (.int .i64 0) 1 8 Try.underlying57 hi hz0 hz1 hz2 rfl (by decide) _ _ _ rfl (hs2.alloc _) ⟨w2.heap.size, 0, none⟩ 1 1 [.int .i64 (q : Int)] rfl rfl (one_at (by simp) _ _) (by simp [Value.oneCell']) (by unfold maxLen; omega) (by omega) (by have := hgr.size; have := hb1.size; have := hb2.size; simp; omega) ?_; intro v' w4 hown' hgrow _; obtain ⟨ao', c', rfl, _, _, _⟩ := rs_of_owns hown'))
        have r4 : Ring base R (cs.set (q % 60 * 4 + 3) (.int .i64 0)) w4 := ((g2.put (q % 60 * 4 + 3) (.int .i64 0)).alloc _).kept hgrow (Ring.neInt (g2.put (q % 60 * 4 + 3) (.int .i64 0)) hs2)
        have G4 : w.grownBy w4 (some R) := (((((hgr.trans (grow_below _ hb1)).trans (grow_below _ hb2)).trans (grow_set _ ⟨R, q % 60 * 4 + 3, none⟩ (.int .i64 0))).trans (World.grownBy_alloc _ _ _))).andThen hgrow (fun j hj => .inl (hs2.lt j hj).1)
        refine ⟨⟨k + 1, _, ao', c', by omega, by have := HQ.out; go_num, by rw [HS.out, List.length_append]; rfl, by rw [HS.out, ns_append, List.length_append]; exact hown', r4, HN.out, G4⟩, by have := HQ.out; simp [intOf]; omega⟩
      · have HN : Hid (Holds b (tkn (k + 1) xs) (cs.set ((b + k) % 60 * 4 + 3) (.int .i64 (xs[k].since + 1)))) := tick_turn hH hn hkn _ (tick_older e1 (by omega))
        have HS : Hid (snt b xs (k + 1) = snt b xs k) := snt_no b xs k hkn (fun h => by have := h.2; omega)
        rw [← hq] at HN
        rw [e1] at c2
        clear hH hq hEq hqE hqe hv e1
        generalize xs[k].text = s at *
        generalize xs[k].last = l at *
        generalize xs[k].since = n at *
        go_wp2_with (first | (go_at_call 88; refine (HW.out _ hF hE).mono ?_; rintro x w1 ⟨rfl, hb1⟩; (have g1 := hring.keep hb1); (have p0 := (g1.cell (q % 60 * 4) (by omega)).trans c0); (have p1 := (g1.cell (q % 60 * 4 + 1) (by omega)).trans c1); (have p2 := (g1.cell (q % 60 * 4 + 2) (by omega)).trans c2); (have p3 := (g1.cell (q % 60 * 4 + 3) (by omega)).trans c3); (have f3 := g1.frozen (q % 60 * 4 + 3))) | (go_at_call 84; refine (at_any R q _ (by omega)).mono ?_; rintro x w' ⟨rfl, rfl⟩) | (go_at_call 89; refine (wasSent_yes _ _ _ _ _ (by omega)).mono ?_; rintro x w2 ⟨rfl, hb2⟩; (have g2 := g1.keep hb2); (have u3 := (g2.cell (q % 60 * 4 + 3) (by omega)).trans c3); (have z3 := g2.frozen (q % 60 * 4 + 3)); (have hs2 := ownsRow_setCell_other (owns_keep (owns_keep hown hb1) hb2) (a := ⟨R, q % 60 * 4 + 3, none⟩) (Ne.symm (g2.neInt (owns_keep (owns_keep hown hb1) hb2))) (.int .i64 (n + 1)))))
        refine ⟨⟨k + 1, _, ao, c, by omega, by have := HQ.out; go_num, by rw [HS.out], by rw [HS.out]; exact hs2, g2.put (q % 60 * 4 + 3) (.int .i64 (n + 1)), HN.out, ((hgr.trans (grow_below _ hb1)).trans (grow_below _ hb2)).trans (grow_set _ ⟨R, q % 60 * 4 + 3, none⟩ (.int .i64 (n + 1)))⟩, by have := HQ.out; simp [intOf]; omega⟩
    · have : k = K := by omega
      subst this
      have HQ : Hid (q = b + k) := hq
      clear hq hEq hqE hlk
      have hQe := hqe (by omega)
      clear hqe
      go_wp2_with (go_at_call 88; refine (HW.out _ hF hE).mono ?_; rintro x w1 ⟨rfl, hb1⟩)
      go_ret
      rw [← HK.out]
      exact ⟨⟨ao, c, cs, rfl, owns_keep hown hb1, hring.keep hb1, hH⟩, hgr.trans (grow_below _ hb1)⟩
end Go.Proofs.Yteceaadmgpjmcaa.mk

import Derived.Test.YteceaadmgpjmcabBase
/-
  MARKS: what the laws' mark and held functions do to a Send.
-/
namespace Go.Proofs.Yteceaadmgpjmcab.mk
open Go.RowKit
set_option linter.unusedVariables false

/-- the cells as the marks from k on have left them -/
def Mi (k n : Nat) (cs : List Value) : Prop := ∀ i, i < n → cs[i * 4]? = some (.string (mkt (k + i * 4))) ∧ cs[i * 4 + 1]? = some (.bool ((((k + i * 4 : Nat) : Int) + 1) % 3 == 0)) ∧ cs[i * 4 + 2]? = some (.bool ((((k + i * 4 : Nat) : Int) + 1 + 1) % 3 == 0)) ∧ cs[i * 4 + 3]? = some (.int .i64 (((k + i * 4 : Nat) : Int) + 1 + 1 + 1))
theorem Mi.step {k i : Nat} {cs : List Value} (h : Mi k i cs) (hl : i * 4 + 3 < cs.length) :
    Mi k (i + 1) (put4 cs i (.string (mkt (k + i * 4))) (.bool ((((k + i * 4 : Nat) : Int) + 1) % 3 == 0)) (.bool ((((k + i * 4 : Nat) : Int) + 1 + 1) % 3 == 0)) (.int .i64 (((k + i * 4 : Nat) : Int) + 1 + 1 + 1))) := by
  intro j hj
  rcases Nat.lt_or_ge j i with h1 | h1
  · rw [put4_other (by omega), put4_other (by omega), put4_other (by omega), put4_other (by omega)]
    exact h j h1
  · obtain rfl : j = i := by omega
    exact put4_at hl
end Go.Proofs.Yteceaadmgpjmcab.mk
/-
  MARKS: what the laws' mark and held functions do to a slice of held parts.
-/
namespace Go.Proofs.Yteceaadmgpjmcab.mk
open Go.RowKit
set_option linter.unusedVariables false

/-- the cells as the marks from k on have left them -/
def Mh (k n : Nat) (cs : List Value) : Prop := ∀ i, i < n → cs[i * 3]? = some (.int .i64 ((k + i * 3 : Nat) : Int)) ∧ cs[i * 3 + 1]? = some (.string (mkt (k + i * 3 + 1))) ∧ cs[i * 3 + 2]? = some (.bool ((((k + i * 3 : Nat) : Int) + 1 + 1) % 3 == 0))
theorem Mh.step {k i : Nat} {cs : List Value} (h : Mh k i cs) (hl : i * 3 + 2 < cs.length) :
    Mh k (i + 1) (put3 cs i (.int .i64 ((k + i * 3 : Nat) : Int)) (.string (mkt (k + i * 3 + 1))) (.bool ((((k + i * 3 : Nat) : Int) + 1 + 1) % 3 == 0))) := by
  intro j hj
  rcases Nat.lt_or_ge j i with h1 | h1
  · rw [put3_other (by omega), put3_other (by omega), put3_other (by omega)]
    exact h j h1
  · obtain rfl : j = i := by omega
    exact put3_at hl
theorem markAt (q : Nat) (u : World) (hq : q ≤ 8000000000) : Calls Try.prog 45 #[.int .i64 ((q : Int) + 1)] u fun e u' => e = .returned (.string (mkt (q + 1))) ∧ Below u.heap.size u u' := by
  have := markText_any (q + 1) u (by omega) (by omega)
  rw [show ((q + 1 : Nat) : Int) = (q : Int) + 1 by omega] at this
  exact this
theorem markHeldS_any (base : Nat) (v : Value) (n k : Nat) (xs : List Value) (w : World) (hn : n ≤ 1000000000) (hk : 0 < k) (hk2 : k ≤ 1000000000) (hown : w.ownsRow base 46 3 v n xs) :
    Calls Try.prog 28 #[v, .int .i64 k] w fun e w' => e = .returned (.int .i64 ((k + n * 3 : Nat) : Int)) ∧ (∃ cs, w'.ownsRow base 46 3 v n cs ∧ Mh k n cs) ∧ w.grownBy w' v.ownBlock := by
  obtain ⟨ao, cap, rfl, hcap, hmax, hrs⟩ := rs_of_owns hown
  have HO : Hid (w.ownsRow base 46 3 (.slice ao n cap) n xs) := hown
  clear hown
  go_enter Try.func28, Try.ntmps28
  go_wp2
  go_loopw [1, 5] (fun q i wr => ∃ j : Nat, j ≤ n ∧ i = .int .i64 j ∧ q = .int .i64 ((k + j * 3 : Nat) : Int) ∧ (∃ cs, wr.ownsRow base 46 3 (.slice ao n cap) n cs ∧ Mh k j cs) ∧ w.grownBy wr (Value.slice ao n cap).ownBlock) (fun _ i _ => n - (intOf i).toNat)
  case atStart => exact ⟨0, Nat.zero_le _, rfl, rfl, ⟨xs, HO.out, fun i hi => absurd hi (by omega)⟩, grow_below _ (Below.refl _ _)⟩
  case round =>
    obtain ⟨j, hj, rfl, rfl, ⟨cs, hown, hM⟩, hgr⟩ := hrel
    by_cases hlt : j < n
    · rcases hrs.ex with h | ⟨g, rfl, hg, hgc⟩
      · omega
      have hcl := hown.1
      clear hgc
      obtain ⟨q, hq⟩ : ∃ q, q = k + j * 3 := ⟨_, rfl⟩
      rw [← hq]
      have hqb : q ≤ 8000000000 := by omega
      have HQ : Hid (q = k + j * 3) := hq
      clear hq
      have e0 := hown.cellAt (j * 3) (by omega)
      rw [List.getElem?_eq_getElem (by omega)] at e0
      have f0 := hown.frozenAt (j * 3)
      have HW : Hid (wr.ownsRow base 46 3 (.slice (some ⟨g, 0, none⟩) n cap) n cs) := hown
      have ho1 := (hown.stored (j * 3) (.int .i64 (q : Int))).1
      have HW1 : Hid ((wr.setCell ⟨g, j * 3, none⟩ (.int .i64 (q : Int))).ownsRow base 46 3 (.slice (some ⟨g, 0, none⟩) n cap) n (cs.set (j * 3) (.int .i64 (q : Int)))) := ho1
      have hcl2 : (cs.set (j * 3) (.int .i64 (q : Int))).length = n * 3 := by rw [List.length_set]; exact hcl
      clear hown ho1
      go_wp2_with (go_at_call 45; refine (markAt q _ hqb).mono ?_; rintro e w2 ⟨rfl, hb2⟩; (have ho2 := HW1.out.kept (grow_below none hb2) (.inr (by simp [Value.ownBlock]))); (have e1 := ho2.cellAt (j * 3 + 1) (by omega)); (have e2 := ho2.cellAt (j * 3 + 2) (by omega)); (rw [List.getElem?_eq_getElem (by omega)] at e1 e2); (have f1 := ho2.frozenAt (j * 3 + 1)); (have f2 := ho2.frozenAt (j * 3 + 2)))
      go_roundw
      case rel =>
        have hq := HQ.out
        refine ⟨j + 1, by omega, by go_num, by go_num, ⟨_, ((ho2.stored (j * 3 + 1) (.string (mkt (q + 1)))).1.stored (j * 3 + 2) (.bool (((q : Int) + 1 + 1) % 3 == 0))).1, ?_⟩, grow1 _ (grow1 _ (grow1 _ hgr (Below.refl _ _)) hb2) (Below.refl _ _)⟩
        rw [hq]
        exact hM.step (by omega)
      case measure => simp [intOf]; omega
    · obtain rfl : j = n := by omega
      go_wp2
      go_ret
      exact ⟨rfl, ⟨cs, hown, hM⟩, hgr⟩
theorem heldHeldS_any (base : Nat) (v : Value) (n k : Nat) (cs : List Value) (w : World) (hn : n ≤ 1000000000) (hk : 0 < k) (hk2 : k ≤ 1000000000) (hown : w.ownsRow base 46 3 v n cs) (hM : Mh k n cs) :
    Calls Try.prog 30 #[v, .int .i64 k] w fun e w' => e = .returned (.int .i64 ((k + n * 3 : Nat) : Int)) ∧ Below w.heap.size w w' := by
  obtain ⟨ao, cap, rfl, hcap, hmax, hrs⟩ := rs_of_owns hown
  have hcl := hown.1
  clear hown
  have HM : Hid (Mh k n cs) := hM
  clear hM
  go_enter Try.func30, Try.ntmps30
  go_wp2
  go_loopw [1, 5] (fun q i wr => ∃ j : Nat, j ≤ n ∧ i = .int .i64 j ∧ q = .int .i64 ((k + j * 3 : Nat) : Int) ∧ Below w.heap.size w wr) (fun _ i _ => n - (intOf i).toNat)
  case atStart => exact ⟨0, Nat.zero_le _, rfl, rfl, Below.refl _ _⟩
  case round =>
    obtain ⟨j, hj, rfl, rfl, hbel⟩ := hrel
    by_cases hlt : j < n
    · rcases hrs.ex with h | ⟨g, rfl, hg, hgc⟩
      · omega
      obtain ⟨m0, m1, m2⟩ := HM.out j hlt
      have a0 := (hbel.cell (p := ⟨g, j * 3, none⟩) hg).trans ((hgc _ (by omega)).trans m0)
      have a1 := (hbel.cell (p := ⟨g, j * 3 + 1, none⟩) hg).trans ((hgc _ (by omega)).trans m1)
      have a2 := (hbel.cell (p := ⟨g, j * 3 + 2, none⟩) hg).trans ((hgc _ (by omega)).trans m2)
      have hgr : g < wr.heap.size := Nat.lt_of_lt_of_le hg hbel.size
      clear m0 m1 m2 hgc
      obtain ⟨q, hq⟩ : ∃ q, q = k + j * 3 := ⟨_, rfl⟩
      rw [← hq] at a0 a1 a2 ⊢
      have hqb : q ≤ 8000000000 := by omega
      have HQ : Hid (q = k + j * 3) := hq
      clear hq
      go_wp2
      go_region_held3 (fun w' => w'.cell? ⟨g, j * 3 + 1, none⟩ = some (.string (mkt (q + 1))) ∧ w'.cell? ⟨g, j * 3 + 2, none⟩ = some (.bool (((q : Int) + 1 + 1) % 3 == 0)) ∧ Below wr.heap.size wr w')
        (first | assumption | exact ⟨a1, a2, (Below.refl _ _).drew⟩ | (go_split_ands; refine ⟨kp (by assumption) (by assumption) hb2 hgr, kp (by assumption) (by assumption) hb2 hgr, kb (by assumption) hb2 (Nat.le_refl _)⟩))
        (first | (go_at_call 45; refine (markAt q _ hqb).mono ?_; rintro e w2 ⟨rfl, hb2⟩))
      have hbl : Below wr.heap.size wr w2 := by go_split_ands; assumption
      have hd2 : w2.cell? ⟨g, j * 3 + 2, none⟩ = some (.bool (((q : Int) + 1 + 1) % 3 == 0)) := by go_split_ands; assumption
      go_wp2
      go_roundw
      case rel => exact ⟨j + 1, by omega, by go_num, by have := HQ.out; go_num, hbel.trans (hbl.mono hbel.size)⟩
      case measure => simp [intOf]; omega
    · obtain rfl : j = n := by omega
      go_wp2
      go_ret
      exact ⟨rfl, hbel⟩
end Go.Proofs.Yteceaadmgpjmcab.mk
/-
  MARKS: what the laws' mark and held functions do to a Take.
-/
namespace Go.Proofs.Yteceaadmgpjmcab.mk
open Go.RowKit
set_option linter.unusedVariables false

theorem markStringS_any (base : Nat) (v : Value) (n k : Nat) (xs : List Value) (w : World) (hn : n ≤ 1000000000) (hk0 : 0 < k) (hk1 : k ≤ 1000000000) (hown : w.ownsRow base 9 1 v n xs) :
    Calls Try.prog 29 #[v, .int .i64 (k : Int)] w fun e w' => e = .returned (.int .i64 ((k + n : Nat) : Int)) ∧ (∃ cs, w'.ownsRow base 9 1 v n cs ∧ Ms k n cs) ∧ w.grownBy w' v.ownBlock := by
  obtain ⟨ao, cap, rfl, hcap, hmax, hrs⟩ := rs_of_owns hown
  have HO : Hid (w.ownsRow base 9 1 (.slice ao n cap) n xs) := hown
  clear hown
  go_enter Try.func29, Try.ntmps29
  go_wp2
  go_loopw [1, 5] (fun q i wr => ∃ j : Nat, j ≤ n ∧ i = .int .i64 j ∧ q = .int .i64 ((k + j : Nat) : Int) ∧ (∃ cs, wr.ownsRow base 9 1 (.slice ao n cap) n cs ∧ Ms k j cs) ∧ w.grownBy wr (Value.slice ao n cap).ownBlock) (fun _ i _ => n - (intOf i).toNat)
  case atStart => exact ⟨0, Nat.zero_le _, rfl, rfl, ⟨xs, HO.out, fun i hi => absurd hi (by omega)⟩, grow_below _ (Below.refl _ _)⟩
  case round =>
    obtain ⟨j, hj, rfl, rfl, ⟨cs, hown, hM⟩, hgr⟩ := hrel
    by_cases hlt : j < n
    · rcases hrs.ex with h | ⟨g, rfl, hg, hgc⟩
      · omega
      have hcl := hown.1
      have HK : Hid (∀ u : World, Calls Try.prog 45 #[.int .i64 ((k + j : Nat) : Int)] u fun e u' => e = .returned (.string (mkt (k + j))) ∧ Below u.heap.size u u') := fun u => markText_any _ u (by omega) (by omega)
      clear hgc
      obtain ⟨q, hq⟩ : ∃ q, q = k + j := ⟨_, rfl⟩
      rw [← hq] at HK ⊢
      have hqb : q ≤ 4000000000 := by omega
      have HQ : Hid (q = k + j) := hq
      clear hq
      have HW : Hid (wr.ownsRow base 9 1 (.slice (some ⟨g, 0, none⟩) n cap) n cs) := hown
      clear hown
      go_wp2_with (go_at_call 45; refine (HK.out _).mono ?_; rintro e w2 ⟨rfl, hb2⟩; (have ho2 := HW.out.kept (grow_below none hb2) (.inr (by simp [Value.ownBlock]))); (have c0 := ho2.cellAt j (by omega)); (rw [List.getElem?_eq_getElem (by omega)] at c0); (have f0 := ho2.frozenAt j))
      go_roundw
      case rel =>
        have hq := HQ.out
        refine ⟨j + 1, by omega, by go_num, by go_num, ⟨_, (ho2.stored j (.string (mkt q))).1, ?_⟩, grow1 _ hgr hb2⟩
        rw [hq]
        exact hM.step (by omega)
      case measure => simp [intOf]; omega
    · obtain rfl : j = n := by omega
      go_wp2
      go_ret
      exact ⟨rfl, ⟨cs, hown, hM⟩, hgr⟩
theorem heldStringS_any (base : Nat) (v : Value) (n k : Nat) (cs : List Value) (w : World) (hn : n ≤ 1000000000) (hk0 : 0 < k) (hk1 : k ≤ 1000000000) (hown : w.ownsRow base 9 1 v n cs) (hM : Ms k n cs) :
    Calls Try.prog 31 #[v, .int .i64 (k : Int)] w fun e w' => e = .returned (.int .i64 ((k + n : Nat) : Int)) ∧ Below w.heap.size w w' := by
  obtain ⟨ao, cap, rfl, hcap, hmax, hrs⟩ := rs_of_owns hown
  have hcl := hown.1
  clear hown
  have HM : Hid (Ms k n cs) := hM
  clear hM
  go_enter Try.func31, Try.ntmps31
  go_wp2
  go_loopw [1, 5] (fun q i wr => ∃ j : Nat, j ≤ n ∧ i = .int .i64 j ∧ q = .int .i64 ((k + j : Nat) : Int) ∧ Below w.heap.size w wr) (fun _ i _ => n - (intOf i).toNat)
  case atStart => exact ⟨0, Nat.zero_le _, rfl, rfl, Below.refl _ _⟩
  case round =>
    obtain ⟨j, hj, rfl, rfl, hbel⟩ := hrel
    by_cases hlt : j < n
    · rcases hrs.ex with h | ⟨g, rfl, hg, hgc⟩
      · omega
      have hm := HM.out j hlt
      have a0 : wr.cell? ⟨g, j, none⟩ = some (.string (mkt (k + j))) := (hbel.cell (p := ⟨g, j, none⟩) hg).trans ((hgc _ (by omega)).trans hm)
      have hgr : g < wr.heap.size := Nat.lt_of_lt_of_le hg hbel.size
      have HK : Hid (∀ u : World, Calls Try.prog 45 #[.int .i64 ((k + j : Nat) : Int)] u fun e u' => e = .returned (.string (mkt (k + j))) ∧ Below u.heap.size u u') := fun u => markText_any _ u (by omega) (by omega)
      clear hm hgc
      obtain ⟨q, hq⟩ : ∃ q, q = k + j := ⟨_, rfl⟩
      rw [← hq] at a0 HK ⊢
      have hqb : q ≤ 4000000000 := by omega
      have HQ : Hid (q = k + j) := hq
      clear hq
      go_wp2
      go_region_held3 (fun w' => w'.cell? ⟨g, j, none⟩ = some (.string (mkt q)) ∧ Below wr.heap.size wr w')
        (first | assumption | exact ⟨a0, (Below.refl _ _).drew⟩ | (go_split_ands; refine ⟨kp (by assumption) (by assumption) hb2 hgr, kb (by assumption) hb2 (Nat.le_refl _)⟩))
        (first | (go_at_call 45; refine (HK.out _).mono ?_; rintro e w2 ⟨rfl, hb2⟩))
      have hbl : Below wr.heap.size wr w2 := by go_split_ands; assumption
      go_wp2
      go_roundw
      case rel => exact ⟨j + 1, by omega, by go_num, by have := HQ.out; go_num, hbel.trans (hbl.mono hbel.size)⟩
      case measure => simp [intOf]; omega
    · obtain rfl : j = n := by omega
      go_wp2
      go_ret
      exact ⟨rfl, hbel⟩
theorem rows_ne6 {w : World} {b b' : Nat} {e e' : TypeId} {sz sz' n n' : Nat} {v v' : Value} {xs xs' : List Value} (h : w.ownsRow b e sz v n xs) (h' : w.ownsRow b' e' sz' v' n' xs') (hne : e ≠ e') : v.ownBlock = none ∨ v.ownBlock ≠ v'.ownBlock := by
  rcases h.2 with ⟨rfl, _⟩ | ⟨g, cap, cur, rfl, _, hg, _⟩
  · exact .inl rfl
  right
  rcases h'.2 with ⟨rfl, _⟩ | ⟨g', cap', cur', rfl, _, hg', _⟩
  · simp [Value.ownBlock]
  · intro e2
    simp only [Value.ownBlock, Option.some.injEq] at e2
    subst e2
    rw [hg] at hg'
    simp at hg'
    exact hne hg'.2
theorem markTake_any (base base' : Nat) (z : Int) (hv v : Value) (o : ByteArray) (n m k : Nat) (xs ys : List Value) (w : World) (hk : 0 < k) (hk2 : k ≤ 100000000) (hn : n ≤ 2000000) (hm : m ≤ 2000000) (h1 : w.ownsRow base 46 3 hv n xs) (h2 : w.ownsRow base' 9 1 v m ys) :
    Calls Try.prog 11 #[.agg #[.int .i64 z, hv, .string o, v], .int .i64 (k : Int)] w fun e w' => e = .returned (.int .i64 ((k + n * 3 + m : Nat) : Int)) ∧ (∃ cs, w'.ownsRow base 46 3 hv n cs ∧ Mh k n cs) ∧ (∃ ts, w'.ownsRow base' 9 1 v m ts ∧ Ms (k + n * 3) m ts) ∧ ∃ wm, w.grownBy wm hv.ownBlock ∧ wm.grownBy w' v.ownBlock := by
  obtain ⟨ao, ca, rfl, -, -, -⟩ := rs_of_owns h1
  obtain ⟨so, cs, rfl, -, -, -⟩ := rs_of_owns h2
  have H1 : Hid (w.ownsRow base 46 3 (.slice ao n ca) n xs) := h1
  have H2 : Hid (w.ownsRow base' 9 1 (.slice so m cs) m ys) := h2
  have HC : Hid (∀ u : World, u.ownsRow base 46 3 (.slice ao n ca) n xs → Calls Try.prog 28 #[.slice ao n ca, .int .i64 (k : Int)] u fun e w' => e = .returned (.int .i64 ((k + n * 3 : Nat) : Int)) ∧ (∃ cs, w'.ownsRow base 46 3 (.slice ao n ca) n cs ∧ Mh k n cs) ∧ u.grownBy w' (Value.slice ao n ca).ownBlock) := fun u h => markHeldS_any base _ n k xs u (by omega) hk (by omega) h
  obtain ⟨K, hK⟩ : ∃ K : Nat, K = k + n * 3 := ⟨_, rfl⟩
  have hKb : 0 < K ∧ K ≤ 1000000000 := by omega
  rw [← hK] at HC
  have HKe : Hid (K = k + n * 3) := hK
  have HD : Hid (∀ u : World, u.ownsRow base' 9 1 (.slice so m cs) m ys → Calls Try.prog 29 #[.slice so m cs, .int .i64 (K : Int)] u fun e w' => e = .returned (.int .i64 ((K + m : Nat) : Int)) ∧ (∃ ts, w'.ownsRow base' 9 1 (.slice so m cs) m ts ∧ Ms K m ts) ∧ u.grownBy w' (Value.slice so m cs).ownBlock) := fun u h => markStringS_any base' _ m K ys u (by omega) hKb.1 hKb.2 h
  have hbx : ∀ o' : Obj, Below w.heap.size w (w.alloc o') := fun o' => (Below.refl _ _).alloc (Nat.le_refl _) _
  have HBX : Hid (∀ o' : Obj, Below w.heap.size w (w.alloc o')) := hbx
  have X0 : Hid ((w.alloc (.cells #[.int .i64 z, .slice ao n ca, .string o, .slice so m cs] 32)).heap[w.heap.size]? = some (.cells #[.int .i64 z, .slice ao n ca, .string o, .slice so m cs] 32 (0, 0))) := heap_alloc_new w _
  have hnb : some w.heap.size ≠ (Value.slice ao n ca).ownBlock := fun e => by have := (h1.lt _ e.symm).2; omega
  have HNB : Hid (some w.heap.size ≠ (Value.slice ao n ca).ownBlock) := hnb
  clear h1 h2 hK hbx hnb
  go_enter Try.func11, Try.ntmps11
  go_wp2_with (first
    | (go_at_call 28; refine (HC.out _ (H1.out.alloc _)).mono ?_; rintro e w1 ⟨rfl, ⟨cs1, ho1, hM1⟩, hg1⟩; (have X1 := (hg1.block w.heap.size (by simp) HNB.out).trans X0.out); (have c3 : w1.cell? ⟨w.heap.size, 3, none⟩ = some (.slice so m cs) := by simp [World.cell?, X1]); (have ho2 := (H2.out.alloc (.cells #[.int .i64 z, .slice ao n ca, .string o, .slice so m cs] 32)).kept hg1 (rows_ne6 (H2.out.alloc (.cells #[.int .i64 z, .slice ao n ca, .string o, .slice so m cs] 32)) (H1.out.alloc _) (by decide))))
    | (go_at_call 29; refine (HD.out _ ho2).mono ?_; rintro e w2 ⟨rfl, ⟨ts, ho3, hM3⟩, hg2⟩)
    | fail)
  go_ret
  refine ⟨by rw [HKe.out]; exact congrArg (fun z => Ending.returned (Value.int .i64 z)) (by omega), ⟨cs1, ho1.kept hg2 (rows_ne6 ho1 ho2 (by decide)), hM1⟩, ⟨ts, ho3, by rw [← HKe.out]; exact hM3⟩, w1, (World.grownBy_alloc w _ _).trans hg1, hg2⟩
theorem heldTake_any (base base' : Nat) (z : Int) (hv v : Value) (o : ByteArray) (n m k : Nat) (xs ys : List Value) (w : World) (hk : 0 < k) (hk2 : k ≤ 100000000) (hn : n ≤ 2000000) (hm : m ≤ 2000000) (h1 : w.ownsRow base 46 3 hv n xs) (h2 : w.ownsRow base' 9 1 v m ys) (hM1 : Mh k n xs) (hM2 : Ms (k + n * 3) m ys) :
    Calls Try.prog 12 #[.agg #[.int .i64 z, hv, .string o, v], .int .i64 (k : Int)] w fun e w' => e = .returned (.int .i64 ((k + n * 3 + m : Nat) : Int)) ∧ Below w.heap.size w w' := by
  obtain ⟨ao, ca, rfl, -, -, -⟩ := rs_of_owns h1
  obtain ⟨so, cs, rfl, -, -, -⟩ := rs_of_owns h2
  have H1 : Hid (w.ownsRow base 46 3 (.slice ao n ca) n xs) := h1
  have H2 : Hid (w.ownsRow base' 9 1 (.slice so m cs) m ys) := h2
  have HC : Hid (∀ u : World, u.ownsRow base 46 3 (.slice ao n ca) n xs → Calls Try.prog 30 #[.slice ao n ca, .int .i64 (k : Int)] u fun e w' => e = .returned (.int .i64 ((k + n * 3 : Nat) : Int)) ∧ Below u.heap.size u w') := fun u h => heldHeldS_any base _ n k xs u (by omega) hk (by omega) h hM1
  obtain ⟨K, hK⟩ : ∃ K : Nat, K = k + n * 3 := ⟨_, rfl⟩
  have hKb : 0 < K ∧ K ≤ 1000000000 := by omega
  rw [← hK] at HC hM2
  have HKe : Hid (K = k + n * 3) := hK
  have HD : Hid (∀ u : World, u.ownsRow base' 9 1 (.slice so m cs) m ys → Calls Try.prog 31 #[.slice so m cs, .int .i64 (K : Int)] u fun e w' => e = .returned (.int .i64 ((K + m : Nat) : Int)) ∧ Below u.heap.size u w') := fun u h => heldStringS_any base' _ m K ys u (by omega) hKb.1 hKb.2 h hM2
  have HB0 : Hid (∀ o' : Obj, Below w.heap.size w (w.alloc o')) := fun o' => (Below.refl _ _).alloc (Nat.le_refl _) _
  clear h1 h2 hK hM1 hM2
  go_enter Try.func12, Try.ntmps12
  go_wp2_with (first
    | (go_at_call 30; refine (HC.out _ (H1.out.alloc _)).mono ?_; rintro e w1 ⟨rfl, hb1⟩; (have c3 := hb1.cell (p := ⟨w.heap.size, 3, none⟩) (by simp)); simp [go_sem] at c3)
    | (go_at_call 31; refine (HD.out _ (owns_keep (H2.out.alloc _) hb1)).mono ?_; rintro e w2 ⟨rfl, hb2⟩)
    | fail)
  go_ret
  exact ⟨by rw [HKe.out]; exact congrArg (fun z => Ending.returned (Value.int .i64 z)) (by omega), kb (kb (HB0.out _) hb1 (Nat.le_refl _)) hb2 (Nat.le_refl _)⟩
end Go.Proofs.Yteceaadmgpjmcab.mk
/-
  MARKS OF AN END.
-/
namespace Go.Proofs.Yteceaadmgpjmcab.mk
open Go.RowKit
set_option linter.unusedVariables false

theorem Ex.kept {u u' : World} {B : Nat} {cs : Array Value} {row : Option Nat} (h : Ex u B cs) (hg : u.grownBy u' row) (hne : some B ≠ row) : Ex u' B cs := by
  have := h.lt
  obtain ⟨t, h⟩ := h
  exact ⟨t, (hg.block B this hne).trans h⟩
end Go.Proofs.Yteceaadmgpjmcab.mk
/-
  WHILE A LAW ON ENDS RUNS: what is kept where a stretch of blocks turns.
-/
namespace Go.Proofs.Yteceaadmgpjmcab.mk
open Go.RowKit
set_option linter.unusedVariables false

/-- all blocks but those from lo on and below hi are kept -/
structure Bet (lo hi : Nat) (w w' : World) : Prop where
  os : w'.os = w.os
  tape : w'.tape = w.tape
  output : w'.output = w.output
  size : w.heap.size ≤ w'.heap.size
  block : ∀ k, k < w.heap.size → k < lo ∨ hi ≤ k → w'.heap[k]? = w.heap[k]?
theorem Bet.trans {lo hi : Nat} {a b c : World} (h : Bet lo hi a b) (k : Bet lo hi b c) : Bet lo hi a c :=
  ⟨k.os.trans h.os, k.tape.trans h.tape, k.output.trans h.output, Nat.le_trans h.size k.size, fun i hi' ho => (k.block i (Nat.lt_of_lt_of_le hi' h.size) ho).trans (h.block i hi' ho)⟩
theorem Bet.of_below {lo hi : Nat} {w w' : World} (h : Below w.heap.size w w') : Bet lo hi w w' := ⟨h.os, h.tape, h.output, h.size, fun k hk _ => h.block k hk⟩
theorem Bet.of_grown {lo hi : Nat} {w w' : World} {row : Option Nat} (h : w.grownBy w' row) (hr : ∀ r, row = some r → lo ≤ r ∧ r < hi) : Bet lo hi w w' :=
  ⟨h.os, h.tape, h.output, h.size, fun k hk ho => h.block k hk (fun e => by have := hr k e.symm; omega)⟩
theorem Bet.below {lo hi B : Nat} {w w' : World} (h : Bet lo hi w w') (hB : B ≤ lo) (hs : B ≤ w.heap.size) : Below B w w' := ⟨h.os, h.tape, h.output, h.size, fun k hk => h.block k (by omega) (.inl (by omega))⟩
theorem owns_same {w w' : World} {base : Nat} {e : TypeId} {size : Nat} {v : Value} {n : Nat} {xs : List Value} (h : w.ownsRow base e size v n xs) (hb : ∀ g, v.ownBlock = some g → w'.heap[g]? = w.heap[g]?) : w'.ownsRow base e size v n xs := by
  refine ⟨h.1, ?_⟩
  rcases h.2 with h2 | ⟨g, cap, cur, rfl, h1, h2, h3, h4, h5, h6⟩
  · exact .inl h2
  · exact .inr ⟨g, cap, cur, rfl, h1, (hb g rfl).trans h2, h3, h4, h5, h6⟩
theorem Ex.bet {u u' : World} {B lo hi : Nat} {cs : Array Value} (h : Ex u B cs) (hb : Bet lo hi u u') (ho : B < lo ∨ hi ≤ B) : Ex u' B cs := by
  have := h.lt
  obtain ⟨t, h⟩ := h
  exact ⟨t, (hb.block B this ho).trans h⟩
/-- an owned row below hi -/
structure Rw (u : World) (lo hi : Nat) (t : TypeId) (z : Nat) (v : Value) (n : Nat) (xs : List Value) : Prop where
  own : u.ownsRow lo t z v n xs
  lt : ∀ r, v.ownBlock = some r → r < hi
theorem Rw.of {u : World} {lo : Nat} {t : TypeId} {z : Nat} {v : Value} {n : Nat} {xs : List Value} (h : u.ownsRow lo t z v n xs) : Rw u lo u.heap.size t z v n xs := ⟨h, fun r e => (h.lt r e).2⟩
theorem Rw.keep {u u' : World} {lo hi : Nat} {t : TypeId} {z : Nat} {v : Value} {n : Nat} {xs : List Value} (h : Rw u lo hi t z v n xs) (hb : Below u.heap.size u u') : Rw u' lo hi t z v n xs := ⟨owns_keep h.own hb, h.lt⟩
theorem Rw.bet {u u' : World} {lo hi lo' hi' : Nat} {t : TypeId} {z : Nat} {v : Value} {n : Nat} {xs : List Value} (h : Rw u lo hi t z v n xs) (hb : Bet lo' hi' u u') (ho : hi ≤ lo' ∨ hi' ≤ lo) : Rw u' lo hi t z v n xs :=
  ⟨owns_same h.own (fun g e => hb.block g (h.own.lt g e).2 (by have := h.lt g e; have := (h.own.lt g e).1; omega)), h.lt⟩
end Go.Proofs.Yteceaadmgpjmcab.mk

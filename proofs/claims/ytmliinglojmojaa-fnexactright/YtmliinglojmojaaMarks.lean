import Derived.Test.YtmliinglojmojaaBase
/-
  MARKS: what the laws' mark and held functions do to a Send.
-/
namespace Go.Proofs.Ytmliinglojmojaa.mk
open Go.RowKit
set_option linter.unusedVariables false

/-- the cells as the marks from k on have left them -/
def Mi (k n : Nat) (cs : List Value) : Prop := ∀ i, i < n → cs[i * 4]? = some (.string (mkt (k + i * 4))) ∧ cs[i * 4 + 1]? = some (.bool ((((k + i * 4 : Nat) : Int) + 1) % 3 == 0)) ∧ cs[i * 4 + 2]? = some (.bool ((((k + i * 4 : Nat) : Int) + 1 + 1) % 3 == 0)) ∧ cs[i * 4 + 3]? = some (.int .i64 (((k + i * 4 : Nat) : Int) + 1 + 1 + 1))
theorem Mi.step {k i : Nat} {cs : List Value} (h : Mi k i cs) (hl : i * 4 + 3 < cs.length) :
    Mi k (i + 1) (put4 cs i (.string (mkt (k + i * 4))) (.bool ((((k + i * 4 : Nat) : Int) + 1) % 3 == 0)) (.bool ((((k + i * 4 : Nat) : Int) + 1 + 1) % 3 == 0)) (.int .i64 (((k + i * 4 : Nat) : Int) + 1 + 1 + 1))) := by
  intro j hj
  rcases Nat.lt_or_ge j i with h1 | h1
  · rw [put4_other (by omega), put4_other (by omega), put4_other (by omega), put4_other (by omega)]
    exact h j h1
  · obtain rfl : j = i := by omega
    exact put4_at hl
theorem markItemS_any (base : Nat) (v : Value) (n k : Nat) (xs : List Value) (w : World) (hn : n ≤ 1000000000) (hk : 0 < k) (hk2 : k ≤ 1000000000) (hown : w.ownsRow base 115 4 v n xs) :
    Calls Try.prog 83 #[v, .int .i64 k] w fun e w' => e = .returned (.int .i64 ((k + n * 4 : Nat) : Int)) ∧ (∃ cs, w'.ownsRow base 115 4 v n cs ∧ Mi k n cs) ∧ w.grownBy w' v.ownBlock := by
  obtain ⟨ao, cap, rfl, hcap, hmax, hrs⟩ := rs_of_owns hown
  have HO : Hid (w.ownsRow base 115 4 (.slice ao n cap) n xs) := hown
  clear hown
  go_enter Try.func83, Try.ntmps83
  go_wp2
  go_loopw [1, 5] (fun q i wr => ∃ j : Nat, j ≤ n ∧ i = .int .i64 j ∧ q = .int .i64 ((k + j * 4 : Nat) : Int) ∧ (∃ cs, wr.ownsRow base 115 4 (.slice ao n cap) n cs ∧ Mi k j cs) ∧ w.grownBy wr (Value.slice ao n cap).ownBlock) (fun _ i _ => n - (intOf i).toNat)
  case atStart => exact ⟨0, Nat.zero_le _, rfl, rfl, ⟨xs, HO.out, fun i hi => absurd hi (by omega)⟩, grow_below _ (Below.refl _ _)⟩
  case round =>
    obtain ⟨j, hj, rfl, rfl, ⟨cs, hown, hM⟩, hgr⟩ := hrel
    by_cases hlt : j < n
    · rcases hrs.ex with h | ⟨g, rfl, hg, hgc⟩
      · omega
      have hcl := hown.1
      have HK : Hid (∀ u : World, Calls Try.prog 85 #[.int .i64 ((k + j * 4 : Nat) : Int)] u fun e u' => e = .returned (.string (mkt (k + j * 4))) ∧ Below u.heap.size u u') := fun u => markText_any _ u (by omega) (by omega)
      clear hgc
      obtain ⟨q, hq⟩ : ∃ q, q = k + j * 4 := ⟨_, rfl⟩
      rw [← hq] at HK ⊢
      have hqb : q ≤ 8000000000 := by omega
      have HQ : Hid (q = k + j * 4) := hq
      clear hq
      have HW : Hid (wr.ownsRow base 115 4 (.slice (some ⟨g, 0, none⟩) n cap) n cs) := hown
      clear hown
      go_wp2_with (go_at_call 85; refine (HK.out _).mono ?_; rintro e w2 ⟨rfl, hb2⟩; (have ho2 := HW.out.kept (grow_below none hb2) (.inr (by simp [Value.ownBlock]))); (have e0 := ho2.cellAt (j * 4) (by omega)); (have e1 := ho2.cellAt (j * 4 + 1) (by omega)); (have e2 := ho2.cellAt (j * 4 + 2) (by omega)); (have e3 := ho2.cellAt (j * 4 + 3) (by omega)); (rw [List.getElem?_eq_getElem (by omega)] at e0 e1 e2 e3); (have f0 := ho2.frozenAt (j * 4)); (have f1 := ho2.frozenAt (j * 4 + 1)); (have f2 := ho2.frozenAt (j * 4 + 2)); (have f3 := ho2.frozenAt (j * 4 + 3)))
      go_roundw
      case rel =>
        have hq := HQ.out
        refine ⟨j + 1, by omega, by go_num, by go_num, ⟨_, owns_put4 ho2 j _ _ _ _, ?_⟩, grow1 _ (grow1 _ (grow1 _ (grow1 _ hgr hb2) (Below.refl _ _)) (Below.refl _ _)) (Below.refl _ _)⟩
        rw [hq]
        exact hM.step (by omega)
      case measure => simp [intOf]; omega
    · obtain rfl : j = n := by omega
      go_wp2
      go_ret
      exact ⟨rfl, ⟨cs, hown, hM⟩, hgr⟩
theorem heldItemS_any (base : Nat) (v : Value) (n k : Nat) (cs : List Value) (w : World) (hn : n ≤ 1000000000) (hk : 0 < k) (hk2 : k ≤ 1000000000) (hown : w.ownsRow base 115 4 v n cs) (hM : Mi k n cs) :
    Calls Try.prog 87 #[v, .int .i64 k] w fun e w' => e = .returned (.int .i64 ((k + n * 4 : Nat) : Int)) ∧ Below w.heap.size w w' := by
  obtain ⟨ao, cap, rfl, hcap, hmax, hrs⟩ := rs_of_owns hown
  have hcl := hown.1
  clear hown
  have HM : Hid (Mi k n cs) := hM
  clear hM
  go_enter Try.func87, Try.ntmps87
  go_wp2
  go_loopw [1, 5] (fun q i wr => ∃ j : Nat, j ≤ n ∧ i = .int .i64 j ∧ q = .int .i64 ((k + j * 4 : Nat) : Int) ∧ Below w.heap.size w wr) (fun _ i _ => n - (intOf i).toNat)
  case atStart => exact ⟨0, Nat.zero_le _, rfl, rfl, Below.refl _ _⟩
  case round =>
    obtain ⟨j, hj, rfl, rfl, hbel⟩ := hrel
    by_cases hlt : j < n
    · rcases hrs.ex with h | ⟨g, rfl, hg, hgc⟩
      · omega
      obtain ⟨m0, m1, m2, m3⟩ := HM.out j hlt
      have a0 := (hbel.cell (p := ⟨g, j * 4, none⟩) hg).trans ((hgc _ (by omega)).trans m0)
      have a1 := (hbel.cell (p := ⟨g, j * 4 + 1, none⟩) hg).trans ((hgc _ (by omega)).trans m1)
      have a2 := (hbel.cell (p := ⟨g, j * 4 + 2, none⟩) hg).trans ((hgc _ (by omega)).trans m2)
      have a3 := (hbel.cell (p := ⟨g, j * 4 + 3, none⟩) hg).trans ((hgc _ (by omega)).trans m3)
      have hgr : g < wr.heap.size := Nat.lt_of_lt_of_le hg hbel.size
      have HK : Hid (∀ u : World, Calls Try.prog 85 #[.int .i64 ((k + j * 4 : Nat) : Int)] u fun e u' => e = .returned (.string (mkt (k + j * 4))) ∧ Below u.heap.size u u') := fun u => markText_any _ u (by omega) (by omega)
      clear m0 m1 m2 m3 hgc
      obtain ⟨q, hq⟩ : ∃ q, q = k + j * 4 := ⟨_, rfl⟩
      rw [← hq] at a0 a1 a2 a3 HK ⊢
      have hqb : q ≤ 8000000000 := by omega
      have HQ : Hid (q = k + j * 4) := hq
      clear hq
      go_wp2
      go_region_held3 (fun w' => w'.cell? ⟨g, j * 4, none⟩ = some (.string (mkt q)) ∧ w'.cell? ⟨g, j * 4 + 1, none⟩ = some (.bool (((q : Int) + 1) % 3 == 0)) ∧ w'.cell? ⟨g, j * 4 + 2, none⟩ = some (.bool (((q : Int) + 1 + 1) % 3 == 0)) ∧ w'.cell? ⟨g, j * 4 + 3, none⟩ = some (.int .i64 ((q : Int) + 1 + 1 + 1)) ∧ Below wr.heap.size wr w')
        (first | assumption | exact ⟨a0, a1, a2, a3, (Below.refl _ _).drew⟩ | (go_split_ands; refine ⟨kp (by assumption) (by assumption) hb2 hgr, kp (by assumption) (by assumption) hb2 hgr, kp (by assumption) (by assumption) hb2 hgr, kp (by assumption) (by assumption) hb2 hgr, kb (by assumption) hb2 (Nat.le_refl _)⟩))
        (first | (go_at_call 85; refine (HK.out _).mono ?_; rintro e w2 ⟨rfl, hb2⟩))
      have hbl : Below wr.heap.size wr w2 := by go_split_ands; assumption
      have hd1 : w2.cell? ⟨g, j * 4 + 1, none⟩ = some (.bool (((q : Int) + 1) % 3 == 0)) := by go_split_ands; assumption
      have hd2 : w2.cell? ⟨g, j * 4 + 2, none⟩ = some (.bool (((q : Int) + 1 + 1) % 3 == 0)) := by go_split_ands; assumption
      have hd3 : w2.cell? ⟨g, j * 4 + 3, none⟩ = some (.int .i64 ((q : Int) + 1 + 1 + 1)) := by go_split_ands; assumption
      go_wp2
      go_roundw
      case rel => exact ⟨j + 1, by omega, by go_num, by have := HQ.out; go_num, hbel.trans (hbl.mono hbel.size)⟩
      case measure => simp [intOf]; omega
    · obtain rfl : j = n := by omega
      go_wp2
      go_ret
      exact ⟨rfl, hbel⟩
theorem markSend_one (base : Nat) (z : Int) (v : Value) (n : Nat) (xs : List Value) (w : World) (hn : n ≤ 2000000) (hbase : base ≤ w.heap.size) (hown : w.ownsRow base 115 4 v n xs) :
    Calls Try.prog 61 #[.agg #[.int .i64 z, v], .int .i64 1] w fun e w' => e = .returned (.int .i64 ((1 + n * 4 : Nat) : Int)) ∧ (∃ cs, w'.ownsRow base 115 4 v n cs ∧ Mi 1 n cs) ∧ w.grownBy w' v.ownBlock := by
  obtain ⟨ao, cap, rfl, hcap, hmax, hrs⟩ := rs_of_owns hown
  have HC : Hid (∀ u : World, u.ownsRow base 115 4 (.slice ao n cap) n xs → Calls Try.prog 83 #[.slice ao n cap, .int .i64 1] u fun e w' => e = .returned (.int .i64 ((1 + n * 4 : Nat) : Int)) ∧ (∃ cs, w'.ownsRow base 115 4 (.slice ao n cap) n cs ∧ Mi 1 n cs) ∧ u.grownBy w' (Value.slice ao n cap).ownBlock) := fun u h => markItemS_any base _ n 1 xs u (by omega) (by omega) (by omega) h
  go_enter Try.func61, Try.ntmps61
  go_wp2_with (go_at_call 83; refine (HC.out _ (hown.alloc _)).mono ?_; rintro e w1 ⟨rfl, hcs, hg⟩)
  go_ret
  exact ⟨rfl, hcs, (World.grownBy_alloc w _ _).trans hg⟩
theorem heldSend_one (base : Nat) (z : Int) (v : Value) (n : Nat) (cs : List Value) (w : World) (hn : n ≤ 2000000) (hown : w.ownsRow base 115 4 v n cs) (hM : Mi 1 n cs) :
    Calls Try.prog 63 #[.agg #[.int .i64 z, v], .int .i64 1] w fun e w' => e = .returned (.int .i64 ((1 + n * 4 : Nat) : Int)) ∧ Below w.heap.size w w' := by
  obtain ⟨ao, cap, rfl, hcap, hmax, hrs⟩ := rs_of_owns hown
  have HC : Hid (∀ u : World, u.ownsRow base 115 4 (.slice ao n cap) n cs → Calls Try.prog 87 #[.slice ao n cap, .int .i64 1] u fun e w' => e = .returned (.int .i64 ((1 + n * 4 : Nat) : Int)) ∧ Below u.heap.size u w') := fun u h => heldItemS_any base _ n 1 cs u (by omega) (by omega) (by omega) h hM
  go_enter Try.func63, Try.ntmps63
  go_wp2_with (go_at_call 87; refine (HC.out _ (hown.alloc _)).mono ?_; rintro e w1 ⟨rfl, hb1⟩)
  go_ret
  exact ⟨rfl, ((Below.refl _ _).alloc (Nat.le_refl _) _).trans (hb1.mono (by simp))⟩
end Go.Proofs.Ytmliinglojmojaa.mk
/-
  MARKS: what the laws' mark and held functions do to a slice of held parts.
-/
namespace Go.Proofs.Ytmliinglojmojaa.mk
open Go.RowKit
set_option linter.unusedVariables false

/-- the cells as the marks from k on have left them -/
def Mh (k n : Nat) (cs : List Value) : Prop := ∀ i, i < n → cs[i * 3]? = some (.int .i64 ((k + i * 3 : Nat) : Int)) ∧ cs[i * 3 + 1]? = some (.string (mkt (k + i * 3 + 1))) ∧ cs[i * 3 + 2]? = some (.bool ((((k + i * 3 : Nat) : Int) + 1 + 1) % 3 == 0))
theorem Mh.step {k i : Nat} {cs : List Value} (h : Mh k i cs) (hl : i * 3 + 2 < cs.length) :
    Mh k (i + 1) (put3 cs i (.int .i64 ((k + i * 3 : Nat) : Int)) (.string (mkt (k + i * 3 + 1))) (.bool ((((k + i * 3 : Nat) : Int) + 1 + 1) % 3 == 0))) := by
  intro j hj
  rcases Nat.lt_or_ge j i with h1 | h1
  · rw [put3_other (by omega), put3_other (by omega), put3_other (by omega)]
    exact h j h1
  · obtain rfl : j = i := by omega
    exact put3_at hl
theorem markAt (q : Nat) (u : World) (hq : q ≤ 8000000000) : Calls Try.prog 85 #[.int .i64 ((q : Int) + 1)] u fun e u' => e = .returned (.string (mkt (q + 1))) ∧ Below u.heap.size u u' := by
  have := markText_any (q + 1) u (by omega) (by omega)
  rw [show ((q + 1 : Nat) : Int) = (q : Int) + 1 by omega] at this
  exact this
theorem markHeldS_any (base : Nat) (v : Value) (n k : Nat) (xs : List Value) (w : World) (hn : n ≤ 1000000000) (hk : 0 < k) (hk2 : k ≤ 1000000000) (hown : w.ownsRow base 117 3 v n xs) :
    Calls Try.prog 84 #[v, .int .i64 k] w fun e w' => e = .returned (.int .i64 ((k + n * 3 : Nat) : Int)) ∧ (∃ cs, w'.ownsRow base 117 3 v n cs ∧ Mh k n cs) ∧ w.grownBy w' v.ownBlock := by
  obtain ⟨ao, cap, rfl, hcap, hmax, hrs⟩ := rs_of_owns hown
  have HO : Hid (w.ownsRow base 117 3 (.slice ao n cap) n xs) := hown
  clear hown
  go_enter Try.func84, Try.ntmps84
  go_wp2
  go_loopw [1, 5] (fun q i wr => ∃ j : Nat, j ≤ n ∧ i = .int .i64 j ∧ q = .int .i64 ((k + j * 3 : Nat) : Int) ∧ (∃ cs, wr.ownsRow base 117 3 (.slice ao n cap) n cs ∧ Mh k j cs) ∧ w.grownBy wr (Value.slice ao n cap).ownBlock) (fun _ i _ => n - (intOf i).toNat)
  case atStart => exact ⟨0, Nat.zero_le _, rfl, rfl, ⟨xs, HO.out, fun i hi => absurd hi (by omega)⟩, grow_below _ (Below.refl _ _)⟩
  case round =>
    obtain ⟨j, hj, rfl, rfl, ⟨cs, hown, hM⟩, hgr⟩ := hrel
    by_cases hlt : j < n
    · rcases hrs.ex with h | ⟨g, rfl, hg, hgc⟩
      · omega
      have hcl := hown.1
      clear hgc
      obtain ⟨q, hq⟩ : ∃ q, q = k + j * 3 := ⟨_, rfl⟩
      rw [← hq]
      have hqb : q ≤ 8000000000 := by omega
      have HQ : Hid (q = k + j * 3) := hq
      clear hq
      have e0 := hown.cellAt (j * 3) (by omega)
      rw [List.getElem?_eq_getElem (by omega)] at e0
      have f0 := hown.frozenAt (j * 3)
      have HW : Hid (wr.ownsRow base 117 3 (.slice (some ⟨g, 0, none⟩) n cap) n cs) := hown
      have ho1 := (hown.stored (j * 3) (.int .i64 (q : Int))).1
      have HW1 : Hid ((wr.setCell ⟨g, j * 3, none⟩ (.int .i64 (q : Int))).ownsRow base 117 3 (.slice (some ⟨g, 0, none⟩) n cap) n (cs.set (j * 3) (.int .i64 (q : Int)))) := ho1
      have hcl2 : (cs.set (j * 3) (.int .i64 (q : Int))).length = n * 3 := by rw [List.length_set]; exact hcl
      clear hown ho1
      go_wp2_with (go_at_call 85; refine (markAt q _ hqb).mono ?_; rintro e w2 ⟨rfl, hb2⟩; (have ho2 := HW1.out.kept (grow_below none hb2) (.inr (by simp [Value.ownBlock]))); (have e1 := ho2.cellAt (j * 3 + 1) (by omega)); (have e2 := ho2.cellAt (j * 3 + 2) (by omega)); (rw [List.getElem?_eq_getElem (by omega)] at e1 e2); (have f1 := ho2.frozenAt (j * 3 + 1)); (have f2 := ho2.frozenAt (j * 3 + 2)))
      go_roundw
      case rel =>
        have hq := HQ.out
        refine ⟨j + 1, by omega, by go_num, by go_num, ⟨_, ((ho2.stored (j * 3 + 1) (.string (mkt (q + 1)))).1.stored (j * 3 + 2) (.bool (((q : Int) + 1 + 1) % 3 == 0))).1, ?_⟩, grow1 _ (grow1 _ (grow1 _ hgr (Below.refl _ _)) hb2) (Below.refl _ _)⟩
        rw [hq]
        exact hM.step (by omega)
      case measure => simp [intOf]; omega
    · obtain rfl : j = n := by omega
      go_wp2
      go_ret
      exact ⟨rfl, ⟨cs, hown, hM⟩, hgr⟩
theorem heldHeldS_any (base : Nat) (v : Value) (n k : Nat) (cs : List Value) (w : World) (hn : n ≤ 1000000000) (hk : 0 < k) (hk2 : k ≤ 1000000000) (hown : w.ownsRow base 117 3 v n cs) (hM : Mh k n cs) :
    Calls Try.prog 88 #[v, .int .i64 k] w fun e w' => e = .returned (.int .i64 ((k + n * 3 : Nat) : Int)) ∧ Below w.heap.size w w' := by
  obtain ⟨ao, cap, rfl, hcap, hmax, hrs⟩ := rs_of_owns hown
  have hcl := hown.1
  clear hown
  have HM : Hid (Mh k n cs) := hM
  clear hM
  go_enter Try.func88, Try.ntmps88
  go_wp2
  go_loopw [1, 5] (fun q i wr => ∃ j : Nat, j ≤ n ∧ i = .int .i64 j ∧ q = .int .i64 ((k + j * 3 : Nat) : Int) ∧ Below w.heap.size w wr) (fun _ i _ => n - (intOf i).toNat)
  case atStart => exact ⟨0, Nat.zero_le _, rfl, rfl, Below.refl _ _⟩
  case round =>
    obtain ⟨j, hj, rfl, rfl, hbel⟩ := hrel
    by_cases hlt : j < n
    · rcases hrs.ex with h | ⟨g, rfl, hg, hgc⟩
      · omega
      obtain ⟨m0, m1, m2⟩ := HM.out j hlt
      have a0 := (hbel.cell (p := ⟨g, j * 3, none⟩) hg).trans ((hgc _ (by omega)).trans m0)
      have a1 := (hbel.cell (p := ⟨g, j * 3 + 1, none⟩) hg).trans ((hgc _ (by omega)).trans m1)
      have a2 := (hbel.cell (p := ⟨g, j * 3 + 2, none⟩) hg).trans ((hgc _ (by omega)).trans m2)
      have hgr : g < wr.heap.size := Nat.lt_of_lt_of_le hg hbel.size
      clear m0 m1 m2 hgc
      obtain ⟨q, hq⟩ : ∃ q, q = k + j * 3 := ⟨_, rfl⟩
      rw [← hq] at a0 a1 a2 ⊢
      have hqb : q ≤ 8000000000 := by omega
      have HQ : Hid (q = k + j * 3) := hq
      clear hq
      go_wp2
      go_region_held3 (fun w' => w'.cell? ⟨g, j * 3 + 1, none⟩ = some (.string (mkt (q + 1))) ∧ w'.cell? ⟨g, j * 3 + 2, none⟩ = some (.bool (((q : Int) + 1 + 1) % 3 == 0)) ∧ Below wr.heap.size wr w')
        (first | assumption | exact ⟨a1, a2, (Below.refl _ _).drew⟩ | (go_split_ands; refine ⟨kp (by assumption) (by assumption) hb2 hgr, kp (by assumption) (by assumption) hb2 hgr, kb (by assumption) hb2 (Nat.le_refl _)⟩))
        (first | (go_at_call 85; refine (markAt q _ hqb).mono ?_; rintro e w2 ⟨rfl, hb2⟩))
      have hbl : Below wr.heap.size wr w2 := by go_split_ands; assumption
      have hd2 : w2.cell? ⟨g, j * 3 + 2, none⟩ = some (.bool (((q : Int) + 1 + 1) % 3 == 0)) := by go_split_ands; assumption
      go_wp2
      go_roundw
      case rel => exact ⟨j + 1, by omega, by go_num, by have := HQ.out; go_num, hbel.trans (hbl.mono hbel.size)⟩
      case measure => simp [intOf]; omega
    · obtain rfl : j = n := by omega
      go_wp2
      go_ret
      exact ⟨rfl, hbel⟩
end Go.Proofs.Ytmliinglojmojaa.mk
/-
  MARKS: what the laws' mark and held functions do to a Take.
-/
namespace Go.Proofs.Ytmliinglojmojaa.mk
open Go.RowKit
set_option linter.unusedVariables false

theorem markStringS_any (base : Nat) (v : Value) (n k : Nat) (xs : List Value) (w : World) (hn : n ≤ 1000000000) (hk0 : 0 < k) (hk1 : k ≤ 1000000000) (hown : w.ownsRow base 9 1 v n xs) :
    Calls Try.prog 86 #[v, .int .i64 (k : Int)] w fun e w' => e = .returned (.int .i64 ((k + n : Nat) : Int)) ∧ (∃ cs, w'.ownsRow base 9 1 v n cs ∧ Ms k n cs) ∧ w.grownBy w' v.ownBlock := by
  obtain ⟨ao, cap, rfl, hcap, hmax, hrs⟩ := rs_of_owns hown
  have HO : Hid (w.ownsRow base 9 1 (.slice ao n cap) n xs) := hown
  clear hown
  go_enter Try.func86, Try.ntmps86
  go_wp2
  go_loopw [1, 5] (fun q i wr => ∃ j : Nat, j ≤ n ∧ i = .int .i64 j ∧ q = .int .i64 ((k + j : Nat) : Int) ∧ (∃ cs, wr.ownsRow base 9 1 (.slice ao n cap) n cs ∧ Ms k j cs) ∧ w.grownBy wr (Value.slice ao n cap).ownBlock) (fun _ i _ => n - (intOf i).toNat)
  case atStart => exact ⟨0, Nat.zero_le _, rfl, rfl, ⟨xs, HO.out, fun i hi => absurd hi (by omega)⟩, grow_below _ (Below.refl _ _)⟩
  case round =>
    obtain ⟨j, hj, rfl, rfl, ⟨cs, hown, hM⟩, hgr⟩ := hrel
    by_cases hlt : j < n
    · rcases hrs.ex with h | ⟨g, rfl, hg, hgc⟩
      · omega
      have hcl := hown.1
      have HK : Hid (∀ u : World, Calls Try.prog 85 #[.int .i64 ((k + j : Nat) : Int)] u fun e u' => e = .returned (.string (mkt (k + j))) ∧ Below u.heap.size u u') := fun u => markText_any _ u (by omega) (by omega)
      clear hgc
      obtain ⟨q, hq⟩ : ∃ q, q = k + j := ⟨_, rfl⟩
      rw [← hq] at HK ⊢
      have hqb : q ≤ 4000000000 := by omega
      have HQ : Hid (q = k + j) := hq
      clear hq
      have HW : Hid (wr.ownsRow base 9 1 (.slice (some ⟨g, 0, none⟩) n cap) n cs) := hown
      clear hown
      go_wp2_with (go_at_call 85; refine (HK.out _).mono ?_; rintro e w2 ⟨rfl, hb2⟩; (have ho2 := HW.out.kept (grow_below none hb2) (.inr (by simp [Value.ownBlock]))); (have c0 := ho2.cellAt j (by omega)); (rw [List.getElem?_eq_getElem (by omega)] at c0); (have f0 := ho2.frozenAt j))
      go_roundw
      case rel =>
        have hq := HQ.out
        refine ⟨j + 1, by omega, by go_num, by go_num, ⟨_, (ho2.stored j (.string (mkt q))).1, ?_⟩, grow1 _ hgr hb2⟩
        rw [hq]
        exact hM.step (by omega)
      case measure => simp [intOf]; omega
    · obtain rfl : j = n := by omega
      go_wp2
      go_ret
      exact ⟨rfl, ⟨cs, hown, hM⟩, hgr⟩
theorem heldStringS_any (base : Nat) (v : Value) (n k : Nat) (cs : List Value) (w : World) (hn : n ≤ 1000000000) (hk0 : 0 < k) (hk1 : k ≤ 1000000000) (hown : w.ownsRow base 9 1 v n cs) (hM : Ms k n cs) :
    Calls Try.prog 89 #[v, .int .i64 (k : Int)] w fun e w' => e = .returned (.int .i64 ((k + n : Nat) : Int)) ∧ Below w.heap.size w w' := by
  obtain ⟨ao, cap, rfl, hcap, hmax, hrs⟩ := rs_of_owns hown
  have hcl := hown.1
  clear hown
  have HM : Hid (Ms k n cs) := hM
  clear hM
  go_enter Try.func89, Try.ntmps89
  go_wp2
  go_loopw [1, 5] (fun q i wr => ∃ j : Nat, j ≤ n ∧ i = .int .i64 j ∧ q = .int .i64 ((k + j : Nat) : Int) ∧ Below w.heap.size w wr) (fun _ i _ => n - (intOf i).toNat)
  case atStart => exact ⟨0, Nat.zero_le _, rfl, rfl, Below.refl _ _⟩
  case round =>
    obtain ⟨j, hj, rfl, rfl, hbel⟩ := hrel
    by_cases hlt : j < n
    · rcases hrs.ex with h | ⟨g, rfl, hg, hgc⟩
      · omega
      have hm := HM.out j hlt
      have a0 : wr.cell? ⟨g, j, none⟩ = some (.string (mkt (k + j))) := (hbel.cell (p := ⟨g, j, none⟩) hg).trans ((hgc _ (by omega)).trans hm)
      have hgr : g < wr.heap.size := Nat.lt_of_lt_of_le hg hbel.size
      have HK : Hid (∀ u : World, Calls Try.prog 85 #[.int .i64 ((k + j : Nat) : Int)] u fun e u' => e = .returned (.string (mkt (k + j))) ∧ Below u.heap.size u u') := fun u => markText_any _ u (by omega) (by omega)
      clear hm hgc
      obtain ⟨q, hq⟩ : ∃ q, q = k + j := ⟨_, rfl⟩
      rw [← hq] at a0 HK ⊢
      have hqb : q ≤ 4000000000 := by omega
      have HQ : Hid (q = k + j) := hq
      clear hq
      go_wp2
      go_region_held3 (fun w' => w'.cell? ⟨g, j, none⟩ = some (.string (mkt q)) ∧ Below wr.heap.size wr w')
        (first | assumption | exact ⟨a0, (Below.refl _ _).drew⟩ | (go_split_ands; refine ⟨kp (by assumption) (by assumption) hb2 hgr, kb (by assumption) hb2 (Nat.le_refl _)⟩))
        (first | (go_at_call 85; refine (HK.out _).mono ?_; rintro e w2 ⟨rfl, hb2⟩))
      have hbl : Below wr.heap.size wr w2 := by go_split_ands; assumption
      go_wp2
      go_roundw
      case rel => exact ⟨j + 1, by omega, by go_num, by have := HQ.out; go_num, hbel.trans (hbl.mono hbel.size)⟩
      case measure => simp [intOf]; omega
    · obtain rfl : j = n := by omega
      go_wp2
      go_ret
      exact ⟨rfl, hbel⟩
theorem rows_ne6 {w : World} {b b' : Nat} {e e' : TypeId} {sz sz' n n' : Nat} {v v' : Value} {xs xs' : List Value} (h : w.ownsRow b e sz v n xs) (h' : w.ownsRow b' e' sz' v' n' xs') (hne : e ≠ e') : v.ownBlock = none ∨ v.ownBlock ≠ v'.ownBlock := by
  rcases h.2 with ⟨rfl, _⟩ | ⟨g, cap, cur, rfl, _, hg, _⟩
  · exact .inl rfl
  right
  rcases h'.2 with ⟨rfl, _⟩ | ⟨g', cap', cur', rfl, _, hg', _⟩
  · simp [Value.ownBlock]
  · intro e2
    simp only [Value.ownBlock, Option.some.injEq] at e2
    subst e2
    rw [hg] at hg'
    simp at hg'
    exact hne hg'.2
theorem markTake_any (base base' : Nat) (z : Int) (hv v : Value) (o : ByteArray) (n m k : Nat) (xs ys : List Value) (w : World) (hk : 0 < k) (hk2 : k ≤ 100000000) (hn : n ≤ 2000000) (hm : m ≤ 2000000) (h1 : w.ownsRow base 117 3 hv n xs) (h2 : w.ownsRow base' 9 1 v m ys) :
    Calls Try.prog 62 #[.agg #[.int .i64 z, hv, .string o, v], .int .i64 (k : Int)] w fun e w' => e = .returned (.int .i64 ((k + n * 3 + m : Nat) : Int)) ∧ (∃ cs, w'.ownsRow base 117 3 hv n cs ∧ Mh k n cs) ∧ (∃ ts, w'.ownsRow base' 9 1 v m ts ∧ Ms (k + n * 3) m ts) ∧ ∃ wm, w.grownBy wm hv.ownBlock ∧ wm.grownBy w' v.ownBlock := by
  obtain ⟨ao, ca, rfl, -, -, -⟩ := rs_of_owns h1
  obtain ⟨so, cs, rfl, -, -, -⟩ := rs_of_owns h2
  have H1 : Hid (w.ownsRow base 117 3 (.slice ao n ca) n xs) := h1
  have H2 : Hid (w.ownsRow base' 9 1 (.slice so m cs) m ys) := h2
  have HC : Hid (∀ u : World, u.ownsRow base 117 3 (.slice ao n ca) n xs → Calls Try.prog 84 #[.slice ao n ca, .int .i64 (k : Int)] u fun e w' => e = .returned (.int .i64 ((k + n * 3 : Nat) : Int)) ∧ (∃ cs, w'.ownsRow base 117 3 (.slice ao n ca) n cs ∧ Mh k n cs) ∧ u.grownBy w' (Value.slice ao n ca).ownBlock) := fun u h => markHeldS_any base _ n k xs u (by omega) hk (by omega) h
  obtain ⟨K, hK⟩ : ∃ K : Nat, K = k + n * 3 := ⟨_, rfl⟩
  have hKb : 0 < K ∧ K ≤ 1000000000 := by omega
  rw [← hK] at HC
  have HKe : Hid (K = k + n * 3) := hK
  have HD : Hid (∀ u : World, u.ownsRow base' 9 1 (.slice so m cs) m ys → Calls Try.prog 86 #[.slice so m cs, .int .i64 (K : Int)] u fun e w' => e = .returned (.int .i64 ((K + m : Nat) : Int)) ∧ (∃ ts, w'.ownsRow base' 9 1 (.slice so m cs) m ts ∧ Ms K m ts) ∧ u.grownBy w' (Value.slice so m cs).ownBlock) := fun u h => markStringS_any base' _ m K ys u (by omega) hKb.1 hKb.2 h
  have hbx : ∀ o' : Obj, Below w.heap.size w (w.alloc o') := fun o' => (Below.refl _ _).alloc (Nat.le_refl _) _
  have HBX : Hid (∀ o' : Obj, Below w.heap.size w (w.alloc o')) := hbx
  have X0 : Hid ((w.alloc (.cells #[.int .i64 z, .slice ao n ca, .string o, .slice so m cs] 47)).heap[w.heap.size]? = some (.cells #[.int .i64 z, .slice ao n ca, .string o, .slice so m cs] 47 (0, 0))) := heap_alloc_new w _
  have hnb : some w.heap.size ≠ (Value.slice ao n ca).ownBlock := fun e => by have := (h1.lt _ e.symm).2; omega
  have HNB : Hid (some w.heap.size ≠ (Value.slice ao n ca).ownBlock) := hnb
  clear h1 h2 hK hbx hnb
  go_enter Try.func62, Try.ntmps62
  go_wp2_with (first
    | (go_at_call 84; refine (HC.out _ (H1.out.alloc _)).mono ?_; rintro e w1 ⟨rfl, ⟨cs1, ho1, hM1⟩, hg1⟩; (have X1 := (hg1.block w.heap.size (by simp) HNB.out).trans X0.out); (have c3 : w1.cell? ⟨w.heap.size, 3, none⟩ = some (.slice so m cs) := by simp [World.cell?, X1]); (have ho2 := (H2.out.alloc (.cells #[.int .i64 z, .slice ao n ca, .string o, .slice so m cs] 47)).kept hg1 (rows_ne6 (H2.out.alloc (.cells #[.int .i64 z, .slice ao n ca, .string o, .slice so m cs] 47)) (H1.out.alloc _) (by decide))))
    | (go_at_call 86; refine (HD.out _ ho2).mono ?_; rintro e w2 ⟨rfl, ⟨ts, ho3, hM3⟩, hg2⟩)
    | fail)
  go_ret
  refine ⟨by rw [HKe.out]; exact congrArg (fun z => Ending.returned (Value.int .i64 z)) (by omega), ⟨cs1, ho1.kept hg2 (rows_ne6 ho1 ho2 (by decide)), hM1⟩, ⟨ts, ho3, by rw [← HKe.out]; exact hM3⟩, w1, (World.grownBy_alloc w _ _).trans hg1, hg2⟩
theorem heldTake_any (base base' : Nat) (z : Int) (hv v : Value) (o : ByteArray) (n m k : Nat) (xs ys : List Value) (w : World) (hk : 0 < k) (hk2 : k ≤ 100000000) (hn : n ≤ 2000000) (hm : m ≤ 2000000) (h1 : w.ownsRow base 117 3 hv n xs) (h2 : w.ownsRow base' 9 1 v m ys) (hM1 : Mh k n xs) (hM2 : Ms (k + n * 3) m ys) :
    Calls Try.prog 64 #[.agg #[.int .i64 z, hv, .string o, v], .int .i64 (k : Int)] w fun e w' => e = .returned (.int .i64 ((k + n * 3 + m : Nat) : Int)) ∧ Below w.heap.size w w' := by
  obtain ⟨ao, ca, rfl, -, -, -⟩ := rs_of_owns h1
  obtain ⟨so, cs, rfl, -, -, -⟩ := rs_of_owns h2
  have H1 : Hid (w.ownsRow base 117 3 (.slice ao n ca) n xs) := h1
  have H2 : Hid (w.ownsRow base' 9 1 (.slice so m cs) m ys) := h2
  have HC : Hid (∀ u : World, u.ownsRow base 117 3 (.slice ao n ca) n xs → Calls Try.prog 88 #[.slice ao n ca, .int .i64 (k : Int)] u fun e w' => e = .returned (.int .i64 ((k + n * 3 : Nat) : Int)) ∧ Below u.heap.size u w') := fun u h => heldHeldS_any base _ n k xs u (by omega) hk (by omega) h hM1
  obtain ⟨K, hK⟩ : ∃ K : Nat, K = k + n * 3 := ⟨_, rfl⟩
  have hKb : 0 < K ∧ K ≤ 1000000000 := by omega
  rw [← hK] at HC hM2
  have HKe : Hid (K = k + n * 3) := hK
  have HD : Hid (∀ u : World, u.ownsRow base' 9 1 (.slice so m cs) m ys → Calls Try.prog 89 #[.slice so m cs, .int .i64 (K : Int)] u fun e w' => e = .returned (.int .i64 ((K + m : Nat) : Int)) ∧ Below u.heap.size u w') := fun u h => heldStringS_any base' _ m K ys u (by omega) hKb.1 hKb.2 h hM2
  have HB0 : Hid (∀ o' : Obj, Below w.heap.size w (w.alloc o')) := fun o' => (Below.refl _ _).alloc (Nat.le_refl _) _
  clear h1 h2 hK hM1 hM2
  go_enter Try.func64, Try.ntmps64
  go_wp2_with (first
    | (go_at_call 88; refine (HC.out _ (H1.out.alloc _)).mono ?_; rintro e w1 ⟨rfl, hb1⟩; (have c3 := hb1.cell (p := ⟨w.heap.size, 3, none⟩) (by simp)); simp [go_sem] at c3)
    | (go_at_call 89; refine (HD.out _ (owns_keep (H2.out.alloc _) hb1)).mono ?_; rintro e w2 ⟨rfl, hb2⟩)
    | fail)
  go_ret
  exact ⟨by rw [HKe.out]; exact congrArg (fun z => Ending.returned (Value.int .i64 z)) (by omega), kb (kb (HB0.out _) hb1 (Nat.le_refl _)) hb2 (Nat.le_refl _)⟩
end Go.Proofs.Ytmliinglojmojaa.mk
/-
  MARKS OF AN END.
-/
namespace Go.Proofs.Ytmliinglojmojaa.mk
open Go.RowKit
set_option linter.unusedVariables false

theorem Ex.kept {u u' : World} {B : Nat} {cs : Array Value} {row : Option Nat} (h : Ex u B cs) (hg : u.grownBy u' row) (hne : some B ≠ row) : Ex u' B cs := by
  have := h.lt
  obtain ⟨t, h⟩ := h
  exact ⟨t, (hg.block B this hne).trans h⟩
set_option maxHeartbeats 1000000 in
theorem markEnd_any (base : Nat) (num : Int) (up : Bool) (life peer since : Int) (owes : Bool) (b nx : Int) (o : ByteArray) (av hv rv : Value) (n m l : Nat) (xs ys zs : List Value) (w : World) (hn : n ≤ 2000000) (hm : m ≤ 2000000) (hl : l ≤ 2000000) (hbs : base ≤ w.heap.size) (h1 : w.ownsRow base 115 4 av n xs) (h2 : w.ownsRow base 117 3 hv m ys) (h3 : w.ownsRow base 9 1 rv l zs) :
    Calls Try.prog 21 #[.agg #[.int .i64 num, .bool up, .int .i64 life, .int .i64 peer, .int .i64 since, .bool owes, .int .i64 b, av, .int .i64 nx, hv, .string o, rv], .int .i64 1] w fun e w' => e = .returned (.int .i64 ((1 + n * 4 + m * 3 + l : Nat) : Int)) ∧ (∃ cs, w'.ownsRow base 115 4 av n cs ∧ Mi 1 n cs) ∧ (∃ cs, w'.ownsRow base 117 3 hv m cs ∧ Mh (1 + n * 4) m cs) ∧ (∃ ts, w'.ownsRow base 9 1 rv l ts ∧ Ms (1 + n * 4 + m * 3) l ts) ∧ ∃ wa wb, w.grownBy wa av.ownBlock ∧ wa.grownBy wb hv.ownBlock ∧ wb.grownBy w' rv.ownBlock := by
  obtain ⟨ao, ca, rfl, -, -, -⟩ := rs_of_owns h1
  obtain ⟨io, cb, rfl, -, -, -⟩ := rs_of_owns h2
  obtain ⟨so, cc, rfl, -, -, -⟩ := rs_of_owns h3
  obtain ⟨K, hK⟩ : ∃ K : Nat, K = 1 + n * 4 := ⟨_, rfl⟩
  have hKb : 0 < K ∧ K ≤ 10000000 := by omega
  have HK : Hid (K = 1 + n * 4) := hK
  rw [← hK]
  have HC : Hid (∀ u : World, base ≤ u.heap.size → u.ownsRow base 115 4 (.slice ao n ca) n xs → Calls Try.prog 61 #[.agg #[.int .i64 b, .slice ao n ca], .int .i64 1] u fun e w' => e = .returned (.int .i64 (K : Int)) ∧ (∃ cs, w'.ownsRow base 115 4 (.slice ao n ca) n cs ∧ Mi 1 n cs) ∧ u.grownBy w' (Value.slice ao n ca).ownBlock) := fun u hb h => by rw [hK]; exact markSend_one base b _ n xs u hn hb h
  have HD : Hid (∀ u : World, u.ownsRow base 117 3 (.slice io m cb) m ys → u.ownsRow base 9 1 (.slice so l cc) l zs → Calls Try.prog 62 #[.agg #[.int .i64 nx, .slice io m cb, .string o, .slice so l cc], .int .i64 (K : Int)] u fun e w' => e = .returned (.int .i64 ((K + m * 3 + l : Nat) : Int)) ∧ (∃ cs, w'.ownsRow base 117 3 (.slice io m cb) m cs ∧ Mh K m cs) ∧ (∃ ts, w'.ownsRow base 9 1 (.slice so l cc) l ts ∧ Ms (K + m * 3) l ts) ∧ ∃ wm, u.grownBy wm (Value.slice io m cb).ownBlock ∧ wm.grownBy w' (Value.slice so l cc).ownBlock) := fun u g1 g2 => markTake_any base base nx _ _ o m l K ys zs u hKb.1 (by omega) hm hl g1 g2
  have X0 : Hid (Ex (w.alloc (.cells #[.int .i64 num, .bool up, .int .i64 life, .int .i64 peer, .int .i64 since, .bool owes, .int .i64 b, .slice ao n ca, .int .i64 nx, .slice io m cb, .string o, .slice so l cc] 49)) w.heap.size #[.int .i64 num, .bool up, .int .i64 life, .int .i64 peer, .int .i64 since, .bool owes, .int .i64 b, .slice ao n ca, .int .i64 nx, .slice io m cb, .string o, .slice so l cc]) := Ex.new w _ _
  have H1 : Hid ((w.alloc (.cells #[.int .i64 num, .bool up, .int .i64 life, .int .i64 peer, .int .i64 since, .bool owes, .int .i64 b, .slice ao n ca, .int .i64 nx, .slice io m cb, .string o, .slice so l cc] 49)).ownsRow base 115 4 (.slice ao n ca) n xs) := h1.alloc _
  have H2 : Hid ((w.alloc (.cells #[.int .i64 num, .bool up, .int .i64 life, .int .i64 peer, .int .i64 since, .bool owes, .int .i64 b, .slice ao n ca, .int .i64 nx, .slice io m cb, .string o, .slice so l cc] 49)).ownsRow base 117 3 (.slice io m cb) m ys) := h2.alloc _
  have H3 : Hid ((w.alloc (.cells #[.int .i64 num, .bool up, .int .i64 life, .int .i64 peer, .int .i64 since, .bool owes, .int .i64 b, .slice ao n ca, .int .i64 nx, .slice io m cb, .string o, .slice so l cc] 49)).ownsRow base 9 1 (.slice so l cc) l zs) := h3.alloc _
  have HNB : Hid (some w.heap.size ≠ (Value.slice ao n ca).ownBlock) := fun e => by have := (h1.lt _ e.symm).2; omega
  have HBS : Hid (base ≤ (w.alloc (.cells #[.int .i64 num, .bool up, .int .i64 life, .int .i64 peer, .int .i64 since, .bool owes, .int .i64 b, .slice ao n ca, .int .i64 nx, .slice io m cb, .string o, .slice so l cc] 49)).heap.size) := (by simp; omega : base ≤ (w.alloc (.cells #[.int .i64 num, .bool up, .int .i64 life, .int .i64 peer, .int .i64 since, .bool owes, .int .i64 b, .slice ao n ca, .int .i64 nx, .slice io m cb, .string o, .slice so l cc] 49)).heap.size)
  clear h1 h2 h3 hK
  go_enter Try.func21, Try.ntmps21
  go_wp2_with (first
    | (go_at_call 61; refine (HC.out _ HBS.out H1.out).mono ?_; rintro e w1 ⟨rfl, ⟨cs1, ho1, hM1⟩, hg1⟩; (have X1 := X0.out.kept hg1 HNB.out); (obtain ⟨c0, c1, c2, c3, c4, c5, c6, c7, c8, c9, c10, c11⟩ := X1.cells); (have k2 := H2.out.kept hg1 (rows_ne6 H2.out H1.out (by decide))); (have k3 := H3.out.kept hg1 (rows_ne6 H3.out H1.out (by decide))))
    | (go_at_call 62; refine (HD.out _ k2 k3).mono ?_; rintro e w2 ⟨rfl, ⟨cs2, ho2, hM2⟩, ⟨cs3, ho3, hM3⟩, wm, hg2, hg3⟩)
    | fail)
  go_ret
  exact ⟨rfl, ⟨cs1, (ho1.kept hg2 (rows_ne6 ho1 k2 (by decide))).kept hg3 (rows_ne6 (ho1.kept hg2 (rows_ne6 ho1 k2 (by decide))) (k3.kept hg2 (rows_ne6 k3 k2 (by decide))) (by decide)), hM1⟩, ⟨cs2, ho2, hM2⟩, ⟨cs3, ho3, hM3⟩, w1, wm, (World.grownBy_alloc w _ _).trans hg1, hg2, hg3⟩
set_option maxHeartbeats 1000000 in
theorem heldEnd_any (base : Nat) (num : Int) (up : Bool) (life peer since : Int) (owes : Bool) (b nx : Int) (o : ByteArray) (av hv rv : Value) (n m l : Nat) (xs ys zs : List Value) (w : World) (hn : n ≤ 2000000) (hm : m ≤ 2000000) (hl : l ≤ 2000000) (h1 : w.ownsRow base 115 4 av n xs) (h2 : w.ownsRow base 117 3 hv m ys) (h3 : w.ownsRow base 9 1 rv l zs) (M1 : Mi 1 n xs) (M2 : Mh (1 + n * 4) m ys) (M3 : Ms (1 + n * 4 + m * 3) l zs) :
    Calls Try.prog 22 #[.agg #[.int .i64 num, .bool up, .int .i64 life, .int .i64 peer, .int .i64 since, .bool owes, .int .i64 b, av, .int .i64 nx, hv, .string o, rv], .int .i64 1] w fun e w' => e = .returned (.int .i64 ((1 + n * 4 + m * 3 + l : Nat) : Int)) ∧ Below w.heap.size w w' := by
  obtain ⟨ao, ca, rfl, -, -, -⟩ := rs_of_owns h1
  obtain ⟨io, cb, rfl, -, -, -⟩ := rs_of_owns h2
  obtain ⟨so, cc, rfl, -, -, -⟩ := rs_of_owns h3
  obtain ⟨K, hK⟩ : ∃ K : Nat, K = 1 + n * 4 := ⟨_, rfl⟩
  have hKb : 0 < K ∧ K ≤ 10000000 := by omega
  have HK : Hid (K = 1 + n * 4) := hK
  rw [← hK]
  rw [← hK] at M2 M3
  have HC : Hid (∀ u : World, u.ownsRow base 115 4 (.slice ao n ca) n xs → Calls Try.prog 63 #[.agg #[.int .i64 b, .slice ao n ca], .int .i64 1] u fun e w' => e = .returned (.int .i64 (K : Int)) ∧ Below u.heap.size u w') := fun u h => by rw [hK]; exact heldSend_one base b _ n xs u hn h M1
  have HD : Hid (∀ u : World, u.ownsRow base 117 3 (.slice io m cb) m ys → u.ownsRow base 9 1 (.slice so l cc) l zs → Calls Try.prog 64 #[.agg #[.int .i64 nx, .slice io m cb, .string o, .slice so l cc], .int .i64 (K : Int)] u fun e w' => e = .returned (.int .i64 ((K + m * 3 + l : Nat) : Int)) ∧ Below u.heap.size u w') := fun u g1 g2 => heldTake_any base base nx _ _ o m l K ys zs u hKb.1 (by omega) hm hl g1 g2 M2 M3
  have X0 : Hid (Ex (w.alloc (.cells #[.int .i64 num, .bool up, .int .i64 life, .int .i64 peer, .int .i64 since, .bool owes, .int .i64 b, .slice ao n ca, .int .i64 nx, .slice io m cb, .string o, .slice so l cc] 49)) w.heap.size #[.int .i64 num, .bool up, .int .i64 life, .int .i64 peer, .int .i64 since, .bool owes, .int .i64 b, .slice ao n ca, .int .i64 nx, .slice io m cb, .string o, .slice so l cc]) := Ex.new w _ _
  have H1 : Hid ((w.alloc (.cells #[.int .i64 num, .bool up, .int .i64 life, .int .i64 peer, .int .i64 since, .bool owes, .int .i64 b, .slice ao n ca, .int .i64 nx, .slice io m cb, .string o, .slice so l cc] 49)).ownsRow base 115 4 (.slice ao n ca) n xs) := h1.alloc _
  have H2 : Hid ((w.alloc (.cells #[.int .i64 num, .bool up, .int .i64 life, .int .i64 peer, .int .i64 since, .bool owes, .int .i64 b, .slice ao n ca, .int .i64 nx, .slice io m cb, .string o, .slice so l cc] 49)).ownsRow base 117 3 (.slice io m cb) m ys) := h2.alloc _
  have H3 : Hid ((w.alloc (.cells #[.int .i64 num, .bool up, .int .i64 life, .int .i64 peer, .int .i64 since, .bool owes, .int .i64 b, .slice ao n ca, .int .i64 nx, .slice io m cb, .string o, .slice so l cc] 49)).ownsRow base 9 1 (.slice so l cc) l zs) := h3.alloc _
  have HB0 : Hid (Below w.heap.size w (w.alloc (.cells #[.int .i64 num, .bool up, .int .i64 life, .int .i64 peer, .int .i64 since, .bool owes, .int .i64 b, .slice ao n ca, .int .i64 nx, .slice io m cb, .string o, .slice so l cc] 49))) := (Below.refl _ _).alloc (Nat.le_refl _) _
  clear h1 h2 h3 hK M1 M2 M3
  go_enter Try.func22, Try.ntmps22
  go_wp2_with (first
    | (go_at_call 63; refine (HC.out _ H1.out).mono ?_; rintro e w1 ⟨rfl, hb1⟩; (have X1 := X0.out.keep hb1); (obtain ⟨c0, c1, c2, c3, c4, c5, c6, c7, c8, c9, c10, c11⟩ := X1.cells))
    | (go_at_call 64; refine (HD.out _ (owns_keep H2.out hb1) (owns_keep H3.out hb1)).mono ?_; rintro e w2 ⟨rfl, hb2⟩)
    | fail)
  go_ret
  exact ⟨rfl, kb (kb HB0.out hb1 (Nat.le_refl _)) hb2 (Nat.le_refl _)⟩
end Go.Proofs.Ytmliinglojmojaa.mk
/-
  WHILE A LAW ON ENDS RUNS: what is kept where a stretch of blocks turns.
-/
namespace Go.Proofs.Ytmliinglojmojaa.mk
open Go.RowKit
set_option linter.unusedVariables false

/-- all blocks but those from lo on and below hi are kept -/
structure Bet (lo hi : Nat) (w w' : World) : Prop where
  os : w'.os = w.os
  tape : w'.tape = w.tape
  output : w'.output = w.output
  size : w.heap.size ≤ w'.heap.size
  block : ∀ k, k < w.heap.size → k < lo ∨ hi ≤ k → w'.heap[k]? = w.heap[k]?
theorem Bet.trans {lo hi : Nat} {a b c : World} (h : Bet lo hi a b) (k : Bet lo hi b c) : Bet lo hi a c :=
  ⟨k.os.trans h.os, k.tape.trans h.tape, k.output.trans h.output, Nat.le_trans h.size k.size, fun i hi' ho => (k.block i (Nat.lt_of_lt_of_le hi' h.size) ho).trans (h.block i hi' ho)⟩
theorem Bet.of_below {lo hi : Nat} {w w' : World} (h : Below w.heap.size w w') : Bet lo hi w w' := ⟨h.os, h.tape, h.output, h.size, fun k hk _ => h.block k hk⟩
theorem Bet.of_grown {lo hi : Nat} {w w' : World} {row : Option Nat} (h : w.grownBy w' row) (hr : ∀ r, row = some r → lo ≤ r ∧ r < hi) : Bet lo hi w w' :=
  ⟨h.os, h.tape, h.output, h.size, fun k hk ho => h.block k hk (fun e => by have := hr k e.symm; omega)⟩
theorem Bet.below {lo hi B : Nat} {w w' : World} (h : Bet lo hi w w') (hB : B ≤ lo) (hs : B ≤ w.heap.size) : Below B w w' := ⟨h.os, h.tape, h.output, h.size, fun k hk => h.block k (by omega) (.inl (by omega))⟩
theorem owns_same {w w' : World} {base : Nat} {e : TypeId} {size : Nat} {v : Value} {n : Nat} {xs : List Value} (h : w.ownsRow base e size v n xs) (hb : ∀ g, v.ownBlock = some g → w'.heap[g]? = w.heap[g]?) : w'.ownsRow base e size v n xs := by
  refine ⟨h.1, ?_⟩
  rcases h.2 with h2 | ⟨g, cap, cur, rfl, h1, h2, h3, h4, h5, h6⟩
  · exact .inl h2
  · exact .inr ⟨g, cap, cur, rfl, h1, (hb g rfl).trans h2, h3, h4, h5, h6⟩
theorem Ex.bet {u u' : World} {B lo hi : Nat} {cs : Array Value} (h : Ex u B cs) (hb : Bet lo hi u u') (ho : B < lo ∨ hi ≤ B) : Ex u' B cs := by
  have := h.lt
  obtain ⟨t, h⟩ := h
  exact ⟨t, (hb.block B this ho).trans h⟩
/-- an owned row below hi -/
structure Rw (u : World) (lo hi : Nat) (t : TypeId) (z : Nat) (v : Value) (n : Nat) (xs : List Value) : Prop where
  own : u.ownsRow lo t z v n xs
  lt : ∀ r, v.ownBlock = some r → r < hi
theorem Rw.of {u : World} {lo : Nat} {t : TypeId} {z : Nat} {v : Value} {n : Nat} {xs : List Value} (h : u.ownsRow lo t z v n xs) : Rw u lo u.heap.size t z v n xs := ⟨h, fun r e => (h.lt r e).2⟩
theorem Rw.keep {u u' : World} {lo hi : Nat} {t : TypeId} {z : Nat} {v : Value} {n : Nat} {xs : List Value} (h : Rw u lo hi t z v n xs) (hb : Below u.heap.size u u') : Rw u' lo hi t z v n xs := ⟨owns_keep h.own hb, h.lt⟩
theorem Rw.bet {u u' : World} {lo hi lo' hi' : Nat} {t : TypeId} {z : Nat} {v : Value} {n : Nat} {xs : List Value} (h : Rw u lo hi t z v n xs) (hb : Bet lo' hi' u u') (ho : hi ≤ lo' ∨ hi' ≤ lo) : Rw u' lo hi t z v n xs :=
  ⟨owns_same h.own (fun g e => hb.block g (h.own.lt g e).2 (by have := h.lt g e; have := (h.own.lt g e).1; omega)), h.lt⟩
/-- the three rows of an end, in a stretch of blocks -/
structure R3 (u : World) (lo hi : Nat) (v1 : Value) (n1 : Nat) (x1 : List Value) (v2 : Value) (n2 : Nat) (x2 : List Value) (v3 : Value) (n3 : Nat) (x3 : List Value) : Prop where
  i : Rw u lo hi 115 4 v1 n1 x1
  h : Rw u lo hi 117 3 v2 n2 x2
  s : Rw u lo hi 9 1 v3 n3 x3
theorem R3.of {u : World} {lo : Nat} {v1 : Value} {n1 : Nat} {x1 : List Value} {v2 : Value} {n2 : Nat} {x2 : List Value} {v3 : Value} {n3 : Nat} {x3 : List Value} (h1 : u.ownsRow lo 115 4 v1 n1 x1) (h2 : u.ownsRow lo 117 3 v2 n2 x2) (h3 : u.ownsRow lo 9 1 v3 n3 x3) : R3 u lo u.heap.size v1 n1 x1 v2 n2 x2 v3 n3 x3 := ⟨.of h1, .of h2, .of h3⟩
theorem R3.keep {u u' : World} {lo hi : Nat} {v1 : Value} {n1 : Nat} {x1 : List Value} {v2 : Value} {n2 : Nat} {x2 : List Value} {v3 : Value} {n3 : Nat} {x3 : List Value} (h : R3 u lo hi v1 n1 x1 v2 n2 x2 v3 n3 x3) (hb : Below u.heap.size u u') : R3 u' lo hi v1 n1 x1 v2 n2 x2 v3 n3 x3 := ⟨h.i.keep hb, h.h.keep hb, h.s.keep hb⟩
theorem R3.alloc {u : World} {lo hi : Nat} {v1 : Value} {n1 : Nat} {x1 : List Value} {v2 : Value} {n2 : Nat} {x2 : List Value} {v3 : Value} {n3 : Nat} {x3 : List Value} (h : R3 u lo hi v1 n1 x1 v2 n2 x2 v3 n3 x3) (o : Obj) : R3 (u.alloc o) lo hi v1 n1 x1 v2 n2 x2 v3 n3 x3 := h.keep ((Below.refl _ _).alloc (Nat.le_refl _) _)
theorem R3.bet {u u' : World} {lo hi lo' hi' : Nat} {v1 : Value} {n1 : Nat} {x1 : List Value} {v2 : Value} {n2 : Nat} {x2 : List Value} {v3 : Value} {n3 : Nat} {x3 : List Value} (h : R3 u lo hi v1 n1 x1 v2 n2 x2 v3 n3 x3) (hb : Bet lo' hi' u u') (ho : hi ≤ lo' ∨ hi' ≤ lo) : R3 u' lo hi v1 n1 x1 v2 n2 x2 v3 n3 x3 := ⟨h.i.bet hb ho, h.h.bet hb ho, h.s.bet hb ho⟩
theorem R3.re {u : World} {lo hi : Nat} {E : En} {a b c : Option Addr} {ca cb cc : Nat} (h : R3 u lo hi (.slice a E.xs.length ca) E.xs.length (is E.xs) (.slice b E.hs.length cb) E.hs.length (hs E.hs) (.slice c E.rs.length cc) E.rs.length (ss E.rs)) : Re u E a b c := ⟨owns_rs h.i.own, owns_rs h.h.own, owns_rs h.s.own⟩
theorem markEnd_bet (lo hi : Nat) (num : Int) (up : Bool) (life peer since : Int) (owes : Bool) (b nx : Int) (o : ByteArray) (av hv rv : Value) (n m l : Nat) (xs ys zs : List Value) (w : World) (hn : n ≤ 2000000) (hm : m ≤ 2000000) (hl : l ≤ 2000000) (hbs : lo ≤ w.heap.size) (h : R3 w lo hi av n xs hv m ys rv l zs) (K : Nat) (hK : K = 1 + n * 4 + m * 3 + l) :
    Calls Try.prog 21 #[.agg #[.int .i64 num, .bool up, .int .i64 life, .int .i64 peer, .int .i64 since, .bool owes, .int .i64 b, av, .int .i64 nx, hv, .string o, rv], .int .i64 1] w fun e w' => e = .returned (.int .i64 (K : Int)) ∧ (∃ xs' ys' zs', R3 w' lo hi av n xs' hv m ys' rv l zs' ∧ Mi 1 n xs' ∧ Mh (1 + n * 4) m ys' ∧ Ms (1 + n * 4 + m * 3) l zs') ∧ Bet lo hi w w' := by
  subst hK
  refine (markEnd_any lo num up life peer since owes b nx o av hv rv n m l xs ys zs w hn hm hl hbs h.i.own h.h.own h.s.own).mono ?_
  rintro e w' ⟨rfl, ⟨cs, o1, M1⟩, ⟨ds, o2, M2⟩, ⟨ts, o3, M3⟩, wa, wb, g1, g2, g3⟩
  have r1 : ∀ r, av.ownBlock = some r → lo ≤ r ∧ r < hi := fun r e => ⟨(h.i.own.lt r e).1, h.i.lt r e⟩
  have r2 : ∀ r, hv.ownBlock = some r → lo ≤ r ∧ r < hi := fun r e => ⟨(h.h.own.lt r e).1, h.h.lt r e⟩
  have r3 : ∀ r, rv.ownBlock = some r → lo ≤ r ∧ r < hi := fun r e => ⟨(h.s.own.lt r e).1, h.s.lt r e⟩
  exact ⟨rfl, ⟨cs, ds, ts, ⟨⟨o1, h.i.lt⟩, ⟨o2, h.h.lt⟩, ⟨o3, h.s.lt⟩⟩, M1, M2, M3⟩, ((Bet.of_grown g1 r1).trans (Bet.of_grown g2 r2)).trans (Bet.of_grown g3 r3)⟩
theorem heldEnd_bet (lo hi : Nat) (num : Int) (up : Bool) (life peer since : Int) (owes : Bool) (b nx : Int) (o : ByteArray) (av hv rv : Value) (n m l : Nat) (xs ys zs : List Value) (w : World) (hn : n ≤ 2000000) (hm : m ≤ 2000000) (hl : l ≤ 2000000) (h : R3 w lo hi av n xs hv m ys rv l zs) (M1 : Mi 1 n xs) (M2 : Mh (1 + n * 4) m ys) (M3 : Ms (1 + n * 4 + m * 3) l zs) (K : Nat) (hK : K = 1 + n * 4 + m * 3 + l) :
    Calls Try.prog 22 #[.agg #[.int .i64 num, .bool up, .int .i64 life, .int .i64 peer, .int .i64 since, .bool owes, .int .i64 b, av, .int .i64 nx, hv, .string o, rv], .int .i64 1] w fun e w' => e = .returned (.int .i64 (K : Int)) ∧ Below w.heap.size w w' := by
  subst hK
  exact heldEnd_any lo num up life peer since owes b nx o av hv rv n m l xs ys zs w hn hm hl h.i.own h.h.own h.s.own M1 M2 M3
end Go.Proofs.Ytmliinglojmojaa.mk

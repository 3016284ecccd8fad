/-
  MARKS: what the laws' mark and held functions do to a Send.
-/
import Derived.Test.YtfjedpnagnnobaaArgI
namespace Go.Proofs.Ytfjedpnagnnobaa.mk
open Go.RowKit
set_option linter.unusedVariables false

/-- the cells as the marks from k on have left them -/
def Mi (k n : Nat) (cs : List Value) : Prop := ∀ i, i < n → cs[i * 4]? = some (.string (mkt (k + i * 4))) ∧ cs[i * 4 + 1]? = some (.bool ((((k + i * 4 : Nat) : Int) + 1) % 3 == 0)) ∧ cs[i * 4 + 2]? = some (.bool ((((k + i * 4 : Nat) : Int) + 1 + 1) % 3 == 0)) ∧ cs[i * 4 + 3]? = some (.int .i64 (((k + i * 4 : Nat) : Int) + 1 + 1 + 1))
theorem Mi.step {k i : Nat} {cs : List Value} (h : Mi k i cs) (hl : i * 4 + 3 < cs.length) :
    Mi k (i + 1) (put4 cs i (.string (mkt (k + i * 4))) (.bool ((((k + i * 4 : Nat) : Int) + 1) % 3 == 0)) (.bool ((((k + i * 4 : Nat) : Int) + 1 + 1) % 3 == 0)) (.int .i64 (((k + i * 4 : Nat) : Int) + 1 + 1 + 1))) := by
  intro j hj
  rcases Nat.lt_or_ge j i with h1 | h1
  · rw [put4_other (by omega), put4_other (by omega), put4_other (by omega), put4_other (by omega)]
    exact h j h1
  · obtain rfl : j = i := by omega
    exact put4_at hl
theorem markItemS_any (base : Nat) (v : Value) (n k : Nat) (xs : List Value) (w : World) (hn : n ≤ 1000000000) (hk : 0 < k) (hk2 : k ≤ 1000000000) (hown : w.ownsRow base 70 4 v n xs) :
    Calls Try.prog 63 #[v, .int .i64 k] w fun e w' => e = .returned (.int .i64 ((k + n * 4 : Nat) : Int)) ∧ (∃ cs, w'.ownsRow base 70 4 v n cs ∧ Mi k n cs) ∧ w.grownBy w' v.ownBlock := by
  obtain ⟨ao, cap, rfl, hcap, hmax, hrs⟩ := rs_of_owns hown
  have HO : Hid (w.ownsRow base 70 4 (.slice ao n cap) n xs) := hown
  clear hown
  go_enter Try.func63, Try.ntmps63
  go_wp2
  go_loopw [1, 5] (fun q i wr => ∃ j : Nat, j ≤ n ∧ i = .int .i64 j ∧ q = .int .i64 ((k + j * 4 : Nat) : Int) ∧ (∃ cs, wr.ownsRow base 70 4 (.slice ao n cap) n cs ∧ Mi k j cs) ∧ w.grownBy wr (Value.slice ao n cap).ownBlock) (fun _ i _ => n - (intOf i).toNat)
  case atStart => exact ⟨0, Nat.zero_le _, rfl, rfl, ⟨xs, HO.out, fun i hi => absurd hi (by omega)⟩, grow_below _ (Below.refl _ _)⟩
  case round =>
    obtain ⟨j, hj, rfl, rfl, ⟨cs, hown, hM⟩, hgr⟩ := hrel
    by_cases hlt : j < n
    · rcases hrs.ex with h | ⟨g, rfl, hg, hgc⟩
      · omega
      have hcl := hown.1
      have HK : Hid (∀ u : World, Calls Try.prog 74 #[.int .i64 ((k + j * 4 : Nat) : Int)] u fun e u' => e = .returned (.string (mkt (k + j * 4))) ∧ Below u.heap.size u u') := fun u => markText_any _ u (by omega) (by omega)
      clear hgc
      obtain ⟨q, hq⟩ : ∃ q, q = k + j * 4 := ⟨_, rfl⟩
      rw [← hq] at HK ⊢
      have hqb : q ≤ 8000000000 := by omega
      have HQ : Hid (q = k + j * 4) := hq
      clear hq
      have HW : Hid (wr.ownsRow base 70 4 (.slice (some ⟨g, 0, none⟩) n cap) n cs) := hown
      clear hown
      go_wp2_with (go_at_call 74; refine (HK.out _).mono ?_; rintro e w2 ⟨rfl, hb2⟩; (have ho2 := HW.out.kept (grow_below none hb2) (.inr (by simp [Value.ownBlock]))); (have e0 := ho2.cellAt (j * 4) (by omega)); (have e1 := ho2.cellAt (j * 4 + 1) (by omega)); (have e2 := ho2.cellAt (j * 4 + 2) (by omega)); (have e3 := ho2.cellAt (j * 4 + 3) (by omega)); (rw [List.getElem?_eq_getElem (by omega)] at e0 e1 e2 e3); (have f0 := ho2.frozenAt (j * 4)); (have f1 := ho2.frozenAt (j * 4 + 1)); (have f2 := ho2.frozenAt (j * 4 + 2)); (have f3 := ho2.frozenAt (j * 4 + 3)))
      go_roundw
      case rel =>
        have hq := HQ.out
        refine ⟨j + 1, by omega, by go_num, by go_num, ⟨_, owns_put4 ho2 j _ _ _ _, ?_⟩, grow1 _ (grow1 _ (grow1 _ (grow1 _ hgr hb2) (Below.refl _ _)) (Below.refl _ _)) (Below.refl _ _)⟩
        rw [hq]
        exact hM.step (by omega)
      case measure => simp [intOf]; omega
    · obtain rfl : j = n := by omega
      go_wp2
      go_ret
      exact ⟨rfl, ⟨cs, hown, hM⟩, hgr⟩
theorem heldItemS_any (base : Nat) (v : Value) (n k : Nat) (cs : List Value) (w : World) (hn : n ≤ 1000000000) (hk : 0 < k) (hk2 : k ≤ 1000000000) (hown : w.ownsRow base 70 4 v n cs) (hM : Mi k n cs) :
    Calls Try.prog 66 #[v, .int .i64 k] w fun e w' => e = .returned (.int .i64 ((k + n * 4 : Nat) : Int)) ∧ Below w.heap.size w w' := by
  obtain ⟨ao, cap, rfl, hcap, hmax, hrs⟩ := rs_of_owns hown
  have hcl := hown.1
  clear hown
  have HM : Hid (Mi k n cs) := hM
  clear hM
  go_enter Try.func66, Try.ntmps66
  go_wp2
  go_loopw [1, 5] (fun q i wr => ∃ j : Nat, j ≤ n ∧ i = .int .i64 j ∧ q = .int .i64 ((k + j * 4 : Nat) : Int) ∧ Below w.heap.size w wr) (fun _ i _ => n - (intOf i).toNat)
  case atStart => exact ⟨0, Nat.zero_le _, rfl, rfl, Below.refl _ _⟩
  case round =>
    obtain ⟨j, hj, rfl, rfl, hbel⟩ := hrel
    by_cases hlt : j < n
    · rcases hrs.ex with h | ⟨g, rfl, hg, hgc⟩
      · omega
      obtain ⟨m0, m1, m2, m3⟩ := HM.out j hlt
      have a0 := (hbel.cell (p := ⟨g, j * 4, none⟩) hg).trans ((hgc _ (by omega)).trans m0)
      have a1 := (hbel.cell (p := ⟨g, j * 4 + 1, none⟩) hg).trans ((hgc _ (by omega)).trans m1)
      have a2 := (hbel.cell (p := ⟨g, j * 4 + 2, none⟩) hg).trans ((hgc _ (by omega)).trans m2)
      have a3 := (hbel.cell (p := ⟨g, j * 4 + 3, none⟩) hg).trans ((hgc _ (by omega)).trans m3)
      have hgr : g < wr.heap.size := Nat.lt_of_lt_of_le hg hbel.size
      have HK : Hid (∀ u : World, Calls Try.prog 74 #[.int .i64 ((k + j * 4 : Nat) : Int)] u fun e u' => e = .returned (.string (mkt (k + j * 4))) ∧ Below u.heap.size u u') := fun u => markText_any _ u (by omega) (by omega)
      clear m0 m1 m2 m3 hgc
      obtain ⟨q, hq⟩ : ∃ q, q = k + j * 4 := ⟨_, rfl⟩
      rw [← hq] at a0 a1 a2 a3 HK ⊢
      have hqb : q ≤ 8000000000 := by omega
      have HQ : Hid (q = k + j * 4) := hq
      clear hq
      go_wp2
      go_region_held3 (fun w' => w'.cell? ⟨g, j * 4, none⟩ = some (.string (mkt q)) ∧ w'.cell? ⟨g, j * 4 + 1, none⟩ = some (.bool (((q : Int) + 1) % 3 == 0)) ∧ w'.cell? ⟨g, j * 4 + 2, none⟩ = some (.bool (((q : Int) + 1 + 1) % 3 == 0)) ∧ w'.cell? ⟨g, j * 4 + 3, none⟩ = some (.int .i64 ((q : Int) + 1 + 1 + 1)) ∧ Below wr.heap.size wr w')
        (first | assumption | exact ⟨a0, a1, a2, a3, (Below.refl _ _).drew⟩ | (go_split_ands; refine ⟨kp (by assumption) (by assumption) hb2 hgr, kp (by assumption) (by assumption) hb2 hgr, kp (by assumption) (by assumption) hb2 hgr, kp (by assumption) (by assumption) hb2 hgr, kb (by assumption) hb2 (Nat.le_refl _)⟩))
        (first | (go_at_call 74; refine (HK.out _).mono ?_; rintro e w2 ⟨rfl, hb2⟩))
      have hbl : Below wr.heap.size wr w2 := by go_split_ands; assumption
      have hd1 : w2.cell? ⟨g, j * 4 + 1, none⟩ = some (.bool (((q : Int) + 1) % 3 == 0)) := by go_split_ands; assumption
      have hd2 : w2.cell? ⟨g, j * 4 + 2, none⟩ = some (.bool (((q : Int) + 1 + 1) % 3 == 0)) := by go_split_ands; assumption
      have hd3 : w2.cell? ⟨g, j * 4 + 3, none⟩ = some (.int .i64 ((q : Int) + 1 + 1 + 1)) := by go_split_ands; assumption
      go_wp2
      go_roundw
      case rel => exact ⟨j + 1, by omega, by go_num, by have := HQ.out; go_num, hbel.trans (hbl.mono hbel.size)⟩
      case measure => simp [intOf]; omega
    · obtain rfl : j = n := by omega
      go_wp2
      go_ret
      exact ⟨rfl, hbel⟩
theorem markSend_one (base : Nat) (z : Int) (v : Value) (n : Nat) (xs : List Value) (w : World) (hn : n ≤ 2000000) (hbase : base ≤ w.heap.size) (hown : w.ownsRow base 70 4 v n xs) :
    Calls Try.prog 28 #[.agg #[.int .i64 z, v], .int .i64 1] w fun e w' => e = .returned (.int .i64 ((1 + n * 4 : Nat) : Int)) ∧ (∃ cs, w'.ownsRow base 70 4 v n cs ∧ Mi 1 n cs) ∧ w.grownBy w' v.ownBlock := by
  obtain ⟨ao, cap, rfl, hcap, hmax, hrs⟩ := rs_of_owns hown
  have HC : Hid (∀ u : World, u.ownsRow base 70 4 (.slice ao n cap) n xs → Calls Try.prog 63 #[.slice ao n cap, .int .i64 1] u fun e w' => e = .returned (.int .i64 ((1 + n * 4 : Nat) : Int)) ∧ (∃ cs, w'.ownsRow base 70 4 (.slice ao n cap) n cs ∧ Mi 1 n cs) ∧ u.grownBy w' (Value.slice ao n cap).ownBlock) := fun u h => markItemS_any base _ n 1 xs u (by omega) (by omega) (by omega) h
  go_enter Try.func28, Try.ntmps28
  go_wp2_with (go_at_call 63; refine (HC.out _ (hown.alloc _)).mono ?_; rintro e w1 ⟨rfl, hcs, hg⟩)
  go_ret
  exact ⟨rfl, hcs, (World.grownBy_alloc w _ _).trans hg⟩
theorem heldSend_one (base : Nat) (z : Int) (v : Value) (n : Nat) (cs : List Value) (w : World) (hn : n ≤ 2000000) (hown : w.ownsRow base 70 4 v n cs) (hM : Mi 1 n cs) :
    Calls Try.prog 30 #[.agg #[.int .i64 z, v], .int .i64 1] w fun e w' => e = .returned (.int .i64 ((1 + n * 4 : Nat) : Int)) ∧ Below w.heap.size w w' := by
  obtain ⟨ao, cap, rfl, hcap, hmax, hrs⟩ := rs_of_owns hown
  have HC : Hid (∀ u : World, u.ownsRow base 70 4 (.slice ao n cap) n cs → Calls Try.prog 66 #[.slice ao n cap, .int .i64 1] u fun e w' => e = .returned (.int .i64 ((1 + n * 4 : Nat) : Int)) ∧ Below u.heap.size u w') := fun u h => heldItemS_any base _ n 1 cs u (by omega) (by omega) (by omega) h hM
  go_enter Try.func30, Try.ntmps30
  go_wp2_with (go_at_call 66; refine (HC.out _ (hown.alloc _)).mono ?_; rintro e w1 ⟨rfl, hb1⟩)
  go_ret
  exact ⟨rfl, ((Below.refl _ _).alloc (Nat.le_refl _) _).trans (hb1.mono (by simp))⟩
end Go.Proofs.Ytfjedpnagnnobaa.mk

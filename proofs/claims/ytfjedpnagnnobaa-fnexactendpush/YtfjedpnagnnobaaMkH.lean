/-
  MARKS: what the laws' mark and held functions do to a slice of held parts.
-/
import Derived.Test.YtfjedpnagnnobaaTkC
namespace Go.Proofs.Ytfjedpnagnnobaa.mk
open Go.RowKit
set_option linter.unusedVariables false

/-- the cells as the marks from k on have left them -/
def Mh (k n : Nat) (cs : List Value) : Prop := ∀ i, i < n → cs[i * 3]? = some (.int .i64 ((k + i * 3 : Nat) : Int)) ∧ cs[i * 3 + 1]? = some (.string (mkt (k + i * 3 + 1))) ∧ cs[i * 3 + 2]? = some (.bool ((((k + i * 3 : Nat) : Int) + 1 + 1) % 3 == 0))
theorem Mh.step {k i : Nat} {cs : List Value} (h : Mh k i cs) (hl : i * 3 + 2 < cs.length) :
    Mh k (i + 1) (put3 cs i (.int .i64 ((k + i * 3 : Nat) : Int)) (.string (mkt (k + i * 3 + 1))) (.bool ((((k + i * 3 : Nat) : Int) + 1 + 1) % 3 == 0))) := by
  intro j hj
  rcases Nat.lt_or_ge j i with h1 | h1
  · rw [put3_other (by omega), put3_other (by omega), put3_other (by omega)]
    exact h j h1
  · obtain rfl : j = i := by omega
    exact put3_at hl
theorem markAt (q : Nat) (u : World) (hq : q ≤ 8000000000) : Calls Try.prog 74 #[.int .i64 ((q : Int) + 1)] u fun e u' => e = .returned (.string (mkt (q + 1))) ∧ Below u.heap.size u u' := by
  have := markText_any (q + 1) u (by omega) (by omega)
  rw [show ((q + 1 : Nat) : Int) = (q : Int) + 1 by omega] at this
  exact this
theorem markHeldS_any (base : Nat) (v : Value) (n k : Nat) (xs : List Value) (w : World) (hn : n ≤ 1000000000) (hk : 0 < k) (hk2 : k ≤ 1000000000) (hown : w.ownsRow base 125 3 v n xs) :
    Calls Try.prog 64 #[v, .int .i64 k] w fun e w' => e = .returned (.int .i64 ((k + n * 3 : Nat) : Int)) ∧ (∃ cs, w'.ownsRow base 125 3 v n cs ∧ Mh k n cs) ∧ w.grownBy w' v.ownBlock := by
  obtain ⟨ao, cap, rfl, hcap, hmax, hrs⟩ := rs_of_owns hown
  have HO : Hid (w.ownsRow base 125 3 (.slice ao n cap) n xs) := hown
  clear hown
  go_enter Try.func64, Try.ntmps64
  go_wp2
  go_loopw [1, 5] (fun q i wr => ∃ j : Nat, j ≤ n ∧ i = .int .i64 j ∧ q = .int .i64 ((k + j * 3 : Nat) : Int) ∧ (∃ cs, wr.ownsRow base 125 3 (.slice ao n cap) n cs ∧ Mh k j cs) ∧ w.grownBy wr (Value.slice ao n cap).ownBlock) (fun _ i _ => n - (intOf i).toNat)
  case atStart => exact ⟨0, Nat.zero_le _, rfl, rfl, ⟨xs, HO.out, fun i hi => absurd hi (by omega)⟩, grow_below _ (Below.refl _ _)⟩
  case round =>
    obtain ⟨j, hj, rfl, rfl, ⟨cs, hown, hM⟩, hgr⟩ := hrel
    by_cases hlt : j < n
    · rcases hrs.ex with h | ⟨g, rfl, hg, hgc⟩
      · omega
      have hcl := hown.1
      clear hgc
      obtain ⟨q, hq⟩ : ∃ q, q = k + j * 3 := ⟨_, rfl⟩
      rw [← hq]
      have hqb : q ≤ 8000000000 := by omega
      have HQ : Hid (q = k + j * 3) := hq
      clear hq
      have e0 := hown.cellAt (j * 3) (by omega)
      rw [List.getElem?_eq_getElem (by omega)] at e0
      have f0 := hown.frozenAt (j * 3)
      have HW : Hid (wr.ownsRow base 125 3 (.slice (some ⟨g, 0, none⟩) n cap) n cs) := hown
      have ho1 := (hown.stored (j * 3) (.int .i64 (q : Int))).1
      have HW1 : Hid ((wr.setCell ⟨g, j * 3, none⟩ (.int .i64 (q : Int))).ownsRow base 125 3 (.slice (some ⟨g, 0, none⟩) n cap) n (cs.set (j * 3) (.int .i64 (q : Int)))) := ho1
      have hcl2 : (cs.set (j * 3) (.int .i64 (q : Int))).length = n * 3 := by rw [List.length_set]; exact hcl
      clear hown ho1
      go_wp2_with (go_at_call 74; refine (markAt q _ hqb).mono ?_; rintro e w2 ⟨rfl, hb2⟩; (have ho2 := HW1.out.kept (grow_below none hb2) (.inr (by simp [Value.ownBlock]))); (have e1 := ho2.cellAt (j * 3 + 1) (by omega)); (have e2 := ho2.cellAt (j * 3 + 2) (by omega)); (rw [List.getElem?_eq_getElem (by omega)] at e1 e2); (have f1 := ho2.frozenAt (j * 3 + 1)); (have f2 := ho2.frozenAt (j * 3 + 2)))
      go_roundw
      case rel =>
        have hq := HQ.out
        refine ⟨j + 1, by omega, by go_num, by go_num, ⟨_, ((ho2.stored (j * 3 + 1) (.string (mkt (q + 1)))).1.stored (j * 3 + 2) (.bool (((q : Int) + 1 + 1) % 3 == 0))).1, ?_⟩, grow1 _ (grow1 _ (grow1 _ hgr (Below.refl _ _)) hb2) (Below.refl _ _)⟩
        rw [hq]
        exact hM.step (by omega)
      case measure => simp [intOf]; omega
    · obtain rfl : j = n := by omega
      go_wp2
      go_ret
      exact ⟨rfl, ⟨cs, hown, hM⟩, hgr⟩
theorem heldHeldS_any (base : Nat) (v : Value) (n k : Nat) (cs : List Value) (w : World) (hn : n ≤ 1000000000) (hk : 0 < k) (hk2 : k ≤ 1000000000) (hown : w.ownsRow base 125 3 v n cs) (hM : Mh k n cs) :
    Calls Try.prog 67 #[v, .int .i64 k] w fun e w' => e = .returned (.int .i64 ((k + n * 3 : Nat) : Int)) ∧ Below w.heap.size w w' := by
  obtain ⟨ao, cap, rfl, hcap, hmax, hrs⟩ := rs_of_owns hown
  have hcl := hown.1
  clear hown
  have HM : Hid (Mh k n cs) := hM
  clear hM
  go_enter Try.func67, Try.ntmps67
  go_wp2
  go_loopw [1, 5] (fun q i wr => ∃ j : Nat, j ≤ n ∧ i = .int .i64 j ∧ q = .int .i64 ((k + j * 3 : Nat) : Int) ∧ Below w.heap.size w wr) (fun _ i _ => n - (intOf i).toNat)
  case atStart => exact ⟨0, Nat.zero_le _, rfl, rfl, Below.refl _ _⟩
  case round =>
    obtain ⟨j, hj, rfl, rfl, hbel⟩ := hrel
    by_cases hlt : j < n
    · rcases hrs.ex with h | ⟨g, rfl, hg, hgc⟩
      · omega
      obtain ⟨m0, m1, m2⟩ := HM.out j hlt
      have a0 := (hbel.cell (p := ⟨g, j * 3, none⟩) hg).trans ((hgc _ (by omega)).trans m0)
      have a1 := (hbel.cell (p := ⟨g, j * 3 + 1, none⟩) hg).trans ((hgc _ (by omega)).trans m1)
      have a2 := (hbel.cell (p := ⟨g, j * 3 + 2, none⟩) hg).trans ((hgc _ (by omega)).trans m2)
      have hgr : g < wr.heap.size := Nat.lt_of_lt_of_le hg hbel.size
      clear m0 m1 m2 hgc
      obtain ⟨q, hq⟩ : ∃ q, q = k + j * 3 := ⟨_, rfl⟩
      rw [← hq] at a0 a1 a2 ⊢
      have hqb : q ≤ 8000000000 := by omega
      have HQ : Hid (q = k + j * 3) := hq
      clear hq
      go_wp2
      go_region_held3 (fun w' => w'.cell? ⟨g, j * 3 + 1, none⟩ = some (.string (mkt (q + 1))) ∧ w'.cell? ⟨g, j * 3 + 2, none⟩ = some (.bool (((q : Int) + 1 + 1) % 3 == 0)) ∧ Below wr.heap.size wr w')
        (first | assumption | exact ⟨a1, a2, (Below.refl _ _).drew⟩ | (go_split_ands; refine ⟨kp (by assumption) (by assumption) hb2 hgr, kp (by assumption) (by assumption) hb2 hgr, kb (by assumption) hb2 (Nat.le_refl _)⟩))
        (first | (go_at_call 74; refine (markAt q _ hqb).mono ?_; rintro e w2 ⟨rfl, hb2⟩))
      have hbl : Below wr.heap.size wr w2 := by go_split_ands; assumption
      have hd2 : w2.cell? ⟨g, j * 3 + 2, none⟩ = some (.bool (((q : Int) + 1 + 1) % 3 == 0)) := by go_split_ands; assumption
      go_wp2
      go_roundw
      case rel => exact ⟨j + 1, by omega, by go_num, by have := HQ.out; go_num, hbel.trans (hbl.mono hbel.size)⟩
      case measure => simp [intOf]; omega
    · obtain rfl : j = n := by omega
      go_wp2
      go_ret
      exact ⟨rfl, hbel⟩
end Go.Proofs.Ytfjedpnagnnobaa.mk

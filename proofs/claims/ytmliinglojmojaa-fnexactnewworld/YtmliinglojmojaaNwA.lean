/-
  MARKS OF WORLDS WHOSE ENDS HAVE NO ROWS.
-/
import Derived.Test.YtmliinglojmojaaNilM
import Derived.Test.YtmliinglojmojaaEnS
namespace Go.Proofs.Ytmliinglojmojaa.mk
open Go.RowKit
set_option linter.unusedVariables false

/-- ends whose rows are nil -/
def NilC (n : Nat) (cs : List Value) : Prop := ∀ i, i < n → cs[i * 12 + 7]? = some (.slice none 0 0) ∧ cs[i * 12 + 9]? = some (.slice none 0 0) ∧ cs[i * 12 + 11]? = some (.slice none 0 0)
/-- the cells as the marks from k on have left them -/
def Me (k n : Nat) (cs : List Value) : Prop := ∀ i, i < n → cs[i * 12]? = some (.int .i64 ((k + i * 9 : Nat) : Int)) ∧ cs[i * 12 + 1]? = some (.bool ((((k + i * 9 : Nat) : Int) + 1) % 3 == 0)) ∧ cs[i * 12 + 2]? = some (.int .i64 (((k + i * 9 : Nat) : Int) + 1 + 1)) ∧ cs[i * 12 + 3]? = some (.int .i64 (((k + i * 9 : Nat) : Int) + 1 + 1 + 1)) ∧ cs[i * 12 + 4]? = some (.int .i64 (((k + i * 9 : Nat) : Int) + 1 + 1 + 1 + 1)) ∧ cs[i * 12 + 5]? = some (.bool ((((k + i * 9 : Nat) : Int) + 1 + 1 + 1 + 1 + 1) % 3 == 0)) ∧ cs[i * 12 + 6]? = some (.int .i64 (((k + i * 9 : Nat) : Int) + 1 + 1 + 1 + 1 + 1 + 1)) ∧ cs[i * 12 + 7]? = some (.slice none 0 0) ∧ cs[i * 12 + 8]? = some (.int .i64 (((k + i * 9 : Nat) : Int) + 1 + 1 + 1 + 1 + 1 + 1 + 1)) ∧ cs[i * 12 + 9]? = some (.slice none 0 0) ∧ cs[i * 12 + 10]? = some (.string (mkt (k + i * 9 + 8))) ∧ cs[i * 12 + 11]? = some (.slice none 0 0)
theorem Me.step {k i : Nat} {cs : List Value} (h : Me k i cs) (hl : i * 12 + 11 < cs.length) :
    Me k (i + 1) (putE cs i (.int .i64 ((k + i * 9 : Nat) : Int)) (.bool ((((k + i * 9 : Nat) : Int) + 1) % 3 == 0)) (.int .i64 (((k + i * 9 : Nat) : Int) + 1 + 1)) (.int .i64 (((k + i * 9 : Nat) : Int) + 1 + 1 + 1)) (.int .i64 (((k + i * 9 : Nat) : Int) + 1 + 1 + 1 + 1)) (.bool ((((k + i * 9 : Nat) : Int) + 1 + 1 + 1 + 1 + 1) % 3 == 0)) (.int .i64 (((k + i * 9 : Nat) : Int) + 1 + 1 + 1 + 1 + 1 + 1)) (.slice none 0 0) (.int .i64 (((k + i * 9 : Nat) : Int) + 1 + 1 + 1 + 1 + 1 + 1 + 1)) (.slice none 0 0) (.string (mkt (k + i * 9 + 8))) (.slice none 0 0)) := by
  intro j hj
  rcases Nat.lt_or_ge j i with h1 | h1
  · rw [putE_other (by omega), putE_other (by omega), putE_other (by omega), putE_other (by omega), putE_other (by omega), putE_other (by omega), putE_other (by omega), putE_other (by omega), putE_other (by omega), putE_other (by omega), putE_other (by omega), putE_other (by omega)]
    exact h j h1
  · obtain rfl : j = i := by omega
    exact putE_at hl
theorem NilC.step {n i : Nat} {cs : List Value} (h : NilC n cs) (hl : i * 12 + 11 < cs.length) {a0 a1 a2 a3 a4 a5 a6 a8 a10 : Value} : NilC n (putE cs i a0 a1 a2 a3 a4 a5 a6 (.slice none 0 0) a8 (.slice none 0 0) a10 (.slice none 0 0)) := by
  intro j hj
  rcases Nat.lt_or_ge j i with h1 | h1
  · rw [putE_other (by omega), putE_other (by omega), putE_other (by omega)]
    exact h j hj
  rcases Nat.eq_or_lt_of_le h1 with rfl | h2
  · have := putE_at (cs := cs) (k := i) (a0 := a0) (a1 := a1) (a2 := a2) (a3 := a3) (a4 := a4) (a5 := a5) (a6 := a6) (a8 := a8) (a10 := a10) (a7 := .slice none 0 0) (a9 := .slice none 0 0) (a11 := .slice none 0 0) hl
    exact ⟨this.2.2.2.2.2.2.2.1, this.2.2.2.2.2.2.2.2.2.1, this.2.2.2.2.2.2.2.2.2.2.2⟩
  · rw [putE_other (by omega), putE_other (by omega), putE_other (by omega)]
    exact h j hj
/-- a row with three cells as they were -/
theorem putE_nil {cs : List Value} {k : Nat} {a0 a1 a2 a3 a4 a5 a6 a8 a10 : Value} (h7 : cs[k * 12 + 7]? = some (.slice none 0 0)) (h9 : cs[k * 12 + 9]? = some (.slice none 0 0)) (h11 : cs[k * 12 + 11]? = some (.slice none 0 0)) :
    (((((((((cs.set (k * 12) a0).set (k * 12 + 1) a1).set (k * 12 + 2) a2).set (k * 12 + 3) a3).set (k * 12 + 4) a4).set (k * 12 + 5) a5).set (k * 12 + 6) a6).set (k * 12 + 8) a8).set (k * 12 + 10) a10) = putE cs k a0 a1 a2 a3 a4 a5 a6 (.slice none 0 0) a8 (.slice none 0 0) a10 (.slice none 0 0) := by
  apply List.ext_getElem?
  intro j
  unfold putE
  simp only [List.getElem?_set, List.length_set]
  have e7 : k * 12 + 7 < cs.length := (List.getElem?_eq_some_iff.1 h7).1
  have e9 : k * 12 + 9 < cs.length := (List.getElem?_eq_some_iff.1 h9).1
  have e11 : k * 12 + 11 < cs.length := (List.getElem?_eq_some_iff.1 h11).1
  by_cases c7 : k * 12 + 7 = j
  · subst c7
    simp [e7, (List.getElem?_eq_some_iff.1 h7).2]
  by_cases c9 : k * 12 + 9 = j
  · subst c9
    simp [e9, (List.getElem?_eq_some_iff.1 h9).2]
  by_cases c11 : k * 12 + 11 = j
  · subst c11
    simp [e11, (List.getElem?_eq_some_iff.1 h11).2]
  simp [c7, c9, c11]
theorem mtx (z : Int) (k : Nat) (u : World) (h0 : 0 < k) (h : k ≤ 1000000000000) (hz : (k : Int) = z) : Calls Try.prog 85 #[.int .i64 z] u fun e w' => e = .returned (.string (mkt k)) ∧ Below u.heap.size u w' := by
  subst hz
  exact markText_any k u h0 h
set_option maxRecDepth 100000 in
set_option maxHeartbeats 4000000 in
theorem markEndS_nil (base : Nat) (v : Value) (n k : Nat) (xs : List Value) (w : World) (hn : n ≤ 1000000) (hk : 0 < k) (hk2 : k ≤ 1000000000) (hown : w.ownsRow base 49 12 v n xs) (hN : NilC n xs) :
    Calls Try.prog 39 #[v, .int .i64 k] w fun e w' => e = .returned (.int .i64 ((k + n * 9 : Nat) : Int)) ∧ (∃ cs, w'.ownsRow base 49 12 v n cs ∧ Me k n cs) ∧ w.grownBy w' v.ownBlock := by
  obtain ⟨ao, cap, rfl, hcap, hmax, hrs⟩ := rs_of_owns hown
  have HO : Hid (w.ownsRow base 49 12 (.slice ao n cap) n xs) := hown
  clear hown
  go_enter Try.func39, Try.ntmps39
  go_wp2
  go_loopw [1, 5] (fun q i wr => ∃ j : Nat, j ≤ n ∧ i = .int .i64 j ∧ q = .int .i64 ((k + j * 9 : Nat) : Int) ∧ (∃ cs, wr.ownsRow base 49 12 (.slice ao n cap) n cs ∧ Me k j cs ∧ NilC n cs) ∧ w.grownBy wr (Value.slice ao n cap).ownBlock) (fun _ i _ => n - (intOf i).toNat)
  case atStart => exact ⟨0, Nat.zero_le _, rfl, rfl, ⟨xs, HO.out, fun i hi => absurd hi (by omega), hN⟩, grow_below _ (Below.refl _ _)⟩
  case round =>
    clear hN
    obtain ⟨j, hj, rfl, rfl, ⟨cs, hown, hM, hN⟩, hgr⟩ := hrel
    by_cases hlt : j < n
    · rcases hrs.ex with h | ⟨g, rfl, hg, hgc⟩
      · omega
      have hcl := hown.1
      have HK : Hid (∀ u : World, Calls Try.prog 85 #[.int .i64 (((k + j * 9 : Nat) : Int) + 1 + 1 + 1 + 1 + 1 + 1 + 1 + 1)] u fun e u' => e = .returned (.string (mkt (k + j * 9 + 8))) ∧ Below u.heap.size u u') := fun u => mtx _ (k + j * 9 + 8) u (by omega) (by omega) (by omega)
      clear hgc
      obtain ⟨n7, n9, n11⟩ := hN j hlt
      obtain ⟨q, hq⟩ : ∃ q, q = k + j * 9 := ⟨_, rfl⟩
      rw [← hq] at HK ⊢
      have hqb : q ≤ 2000000000 := by omega
      have HQ : Hid (q = k + j * 9) := hq
      clear hq
      have hgw : g < wr.heap.size := (hown.lt g rfl).2
      have HW : Hid (wr.ownsRow base 49 12 (.slice (some ⟨g, 0, none⟩) n cap) n cs) := hown
      have N1 : Hid (cs[j * 12 + 7]? = some (.slice none 0 0) ∧ cs[j * 12 + 9]? = some (.slice none 0 0) ∧ cs[j * 12 + 11]? = some (.slice none 0 0)) := ⟨n7, n9, n11⟩
      have HNN : Hid (NilC n cs) := hN
      have e0 := hown.cellAt (j * 12) (by omega)
      have f0 := hown.frozenAt (j * 12)
      have e1 := hown.cellAt (j * 12 + 1) (by omega)
      have f1 := hown.frozenAt (j * 12 + 1)
      have e2 := hown.cellAt (j * 12 + 2) (by omega)
      have f2 := hown.frozenAt (j * 12 + 2)
      have e3 := hown.cellAt (j * 12 + 3) (by omega)
      have f3 := hown.frozenAt (j * 12 + 3)
      have e4 := hown.cellAt (j * 12 + 4) (by omega)
      have f4 := hown.frozenAt (j * 12 + 4)
      have e5 := hown.cellAt (j * 12 + 5) (by omega)
      have f5 := hown.frozenAt (j * 12 + 5)
      have e6 := hown.cellAt (j * 12 + 6) (by omega)
      have f6 := hown.frozenAt (j * 12 + 6)
      have e7 := hown.cellAt (j * 12 + 7) (by omega)
      have f7 := hown.frozenAt (j * 12 + 7)
      have e8 := hown.cellAt (j * 12 + 8) (by omega)
      have f8 := hown.frozenAt (j * 12 + 8)
      have e9 := hown.cellAt (j * 12 + 9) (by omega)
      have f9 := hown.frozenAt (j * 12 + 9)
      have e10 := hown.cellAt (j * 12 + 10) (by omega)
      have f10 := hown.frozenAt (j * 12 + 10)
      have e11 := hown.cellAt (j * 12 + 11) (by omega)
      have f11 := hown.frozenAt (j * 12 + 11)
      rw [n7] at e7
      rw [n9] at e9
      rw [n11] at e11
      rw [List.getElem?_eq_getElem (by omega)] at e0 e1 e2 e3 e4 e5 e6 e8 e10
      clear hown n7 n9 n11 hN
      go_wp2_with (first
        | (go_at_call 83; refine (markItemS_nil _ _).mono ?_; rintro e w1 ⟨rfl, hb1⟩; (have sz1 := hb1.size); (have c8 := hb1.cell (p := ⟨g, j * 12 + 8, none⟩) (by simp; omega)); (have d8 := hb1.frozen (p := ⟨g, j * 12 + 8, none⟩) (by simp; omega)); (have c9 := hb1.cell (p := ⟨g, j * 12 + 9, none⟩) (by simp; omega)); (have d9 := hb1.frozen (p := ⟨g, j * 12 + 9, none⟩) (by simp; omega)); (have c10 := hb1.cell (p := ⟨g, j * 12 + 10, none⟩) (by simp; omega)); (have d10 := hb1.frozen (p := ⟨g, j * 12 + 10, none⟩) (by simp; omega)); (have c11 := hb1.cell (p := ⟨g, j * 12 + 11, none⟩) (by simp; omega)); (have d11 := hb1.frozen (p := ⟨g, j * 12 + 11, none⟩) (by simp; omega)); simp [go_sem, e8, e9, e10, e11, f8, f9, f10, f11] at c8 d8 c9 d9 c10 d10 c11 d11 sz1)
        | (go_at_call 84; refine (markHeldS_nil _ _).mono ?_; rintro e w2 ⟨rfl, hb2⟩; (have sz2 := hb2.size); (have c10' := hb2.cell (p := ⟨g, j * 12 + 10, none⟩) (by simp; omega)); (have d10' := hb2.frozen (p := ⟨g, j * 12 + 10, none⟩) (by simp; omega)); (have c11' := hb2.cell (p := ⟨g, j * 12 + 11, none⟩) (by simp; omega)); (have d11' := hb2.frozen (p := ⟨g, j * 12 + 11, none⟩) (by simp; omega)); simp [go_sem, c10, c11, d10, d11] at c10' d10' c11' d11' sz2)
        | (go_at_call 85; refine (HK.out _).mono ?_; rintro e w3 ⟨rfl, hb3⟩; (have sz3 := hb3.size); (have k10 := (hb3.cell (p := ⟨g, j * 12 + 10, none⟩) (by show g < _; omega)).trans c10'); (have l10 := (hb3.frozen (p := ⟨g, j * 12 + 10, none⟩) (by show g < _; omega)).trans d10'); (have k11 := (hb3.cell (p := ⟨g, j * 12 + 11, none⟩) (by show g < _; omega)).trans c11'); (have l11 := (hb3.frozen (p := ⟨g, j * 12 + 11, none⟩) (by show g < _; omega)).trans d11'))
        | (go_at_call 86; refine (markStringS_nil _ _).mono ?_; rintro e w4 ⟨rfl, hb4⟩)
        | fail)
      go_roundw
      case rel =>
        have hq := HQ.out
        have O1 := owns_keep ((((((((HW.out.stored (j * 12) (.int .i64 (q : Int))).1.stored (j * 12 + 1) (.bool (((q : Int) + 1) % 3 == 0))).1.stored (j * 12 + 2) (.int .i64 ((q : Int) + 1 + 1))).1.stored (j * 12 + 3) (.int .i64 ((q : Int) + 1 + 1 + 1))).1.stored (j * 12 + 4) (.int .i64 ((q : Int) + 1 + 1 + 1 + 1))).1.stored (j * 12 + 5) (.bool (((q : Int) + 1 + 1 + 1 + 1 + 1) % 3 == 0))).1.stored (j * 12 + 6) (.int .i64 ((q : Int) + 1 + 1 + 1 + 1 + 1 + 1))).1) hb1
        have O2 := owns_keep (O1.stored (j * 12 + 8) (.int .i64 ((q : Int) + 1 + 1 + 1 + 1 + 1 + 1 + 1))).1 hb2
        have O3 := owns_keep (((owns_keep O2 hb3).stored (j * 12 + 10) (.string (mkt (q + 8)))).1) hb4
        rw [putE_nil N1.out.1 N1.out.2.1 N1.out.2.2] at O3
        refine ⟨j + 1, by omega, by go_num, by go_num, ⟨_, O3, ?_, HNN.out.step (by omega)⟩, ((((((((((((hgr.trans (grow_set _ ⟨g, j * 12, none⟩ _)).trans (grow_set _ ⟨g, j * 12 + 1, none⟩ _)).trans (grow_set _ ⟨g, j * 12 + 2, none⟩ _)).trans (grow_set _ ⟨g, j * 12 + 3, none⟩ _)).trans (grow_set _ ⟨g, j * 12 + 4, none⟩ _)).trans (grow_set _ ⟨g, j * 12 + 5, none⟩ _)).trans (grow_set _ ⟨g, j * 12 + 6, none⟩ _)).trans (grow_below _ hb1)).trans (grow_set _ ⟨g, j * 12 + 8, none⟩ _)).trans (grow_below _ hb2)).trans (grow_below _ hb3)).trans (grow_set _ ⟨g, j * 12 + 10, none⟩ _)).trans (grow_below _ hb4)⟩
        rw [hq]
        exact hM.step (by omega)
      case measure => simp [intOf]; omega
    · obtain rfl : j = n := by omega
      go_wp2
      go_ret
      exact ⟨rfl, ⟨cs, hown, hM⟩, hgr⟩
set_option maxRecDepth 100000 in
set_option maxHeartbeats 4000000 in
theorem heldEndS_nil (base : Nat) (v : Value) (n k : Nat) (cs : List Value) (w : World) (hn : n ≤ 1000000) (hk : 0 < k) (hk2 : k ≤ 1000000000) (hown : w.ownsRow base 49 12 v n cs) (hM : Me k n cs) :
    Calls Try.prog 42 #[v, .int .i64 k] w fun e w' => e = .returned (.int .i64 ((k + n * 9 : Nat) : Int)) ∧ Below w.heap.size w w' := by
  obtain ⟨ao, cap, rfl, hcap, hmax, hrs⟩ := rs_of_owns hown
  have hcl := hown.1
  clear hown
  have HM : Hid (Me k n cs) := hM
  clear hM
  go_enter Try.func42, Try.ntmps42
  go_wp2
  go_loopw [1, 5] (fun q i wr => ∃ j : Nat, j ≤ n ∧ i = .int .i64 j ∧ q = .int .i64 ((k + j * 9 : Nat) : Int) ∧ Below w.heap.size w wr) (fun _ i _ => n - (intOf i).toNat)
  case atStart => exact ⟨0, Nat.zero_le _, rfl, rfl, Below.refl _ _⟩
  case round =>
    obtain ⟨j, hj, rfl, rfl, hbel⟩ := hrel
    by_cases hlt : j < n
    · rcases hrs.ex with h | ⟨g, rfl, hg, hgc⟩
      · omega
      have hm := HM.out j hlt
      have e0 : wr.cell? ⟨g, j * 12, none⟩ = some (.int .i64 ((k + j * 9 : Nat) : Int)) := (hbel.cell (p := ⟨g, j * 12, none⟩) hg).trans ((hgc _ (by omega)).trans hm.1)
      have e1 : wr.cell? ⟨g, j * 12 + 1, none⟩ = some (.bool ((((k + j * 9 : Nat) : Int) + 1) % 3 == 0)) := (hbel.cell (p := ⟨g, j * 12 + 1, none⟩) hg).trans ((hgc _ (by omega)).trans hm.2.1)
      have e2 : wr.cell? ⟨g, j * 12 + 2, none⟩ = some (.int .i64 (((k + j * 9 : Nat) : Int) + 1 + 1)) := (hbel.cell (p := ⟨g, j * 12 + 2, none⟩) hg).trans ((hgc _ (by omega)).trans hm.2.2.1)
      have e3 : wr.cell? ⟨g, j * 12 + 3, none⟩ = some (.int .i64 (((k + j * 9 : Nat) : Int) + 1 + 1 + 1)) := (hbel.cell (p := ⟨g, j * 12 + 3, none⟩) hg).trans ((hgc _ (by omega)).trans hm.2.2.2.1)
      have e4 : wr.cell? ⟨g, j * 12 + 4, none⟩ = some (.int .i64 (((k + j * 9 : Nat) : Int) + 1 + 1 + 1 + 1)) := (hbel.cell (p := ⟨g, j * 12 + 4, none⟩) hg).trans ((hgc _ (by omega)).trans hm.2.2.2.2.1)
      have e5 : wr.cell? ⟨g, j * 12 + 5, none⟩ = some (.bool ((((k + j * 9 : Nat) : Int) + 1 + 1 + 1 + 1 + 1) % 3 == 0)) := (hbel.cell (p := ⟨g, j * 12 + 5, none⟩) hg).trans ((hgc _ (by omega)).trans hm.2.2.2.2.2.1)
      have e6 : wr.cell? ⟨g, j * 12 + 6, none⟩ = some (.int .i64 (((k + j * 9 : Nat) : Int) + 1 + 1 + 1 + 1 + 1 + 1)) := (hbel.cell (p := ⟨g, j * 12 + 6, none⟩) hg).trans ((hgc _ (by omega)).trans hm.2.2.2.2.2.2.1)
      have e7 : wr.cell? ⟨g, j * 12 + 7, none⟩ = some (.slice none 0 0) := (hbel.cell (p := ⟨g, j * 12 + 7, none⟩) hg).trans ((hgc _ (by omega)).trans hm.2.2.2.2.2.2.2.1)
      have e8 : wr.cell? ⟨g, j * 12 + 8, none⟩ = some (.int .i64 (((k + j * 9 : Nat) : Int) + 1 + 1 + 1 + 1 + 1 + 1 + 1)) := (hbel.cell (p := ⟨g, j * 12 + 8, none⟩) hg).trans ((hgc _ (by omega)).trans hm.2.2.2.2.2.2.2.2.1)
      have e9 : wr.cell? ⟨g, j * 12 + 9, none⟩ = some (.slice none 0 0) := (hbel.cell (p := ⟨g, j * 12 + 9, none⟩) hg).trans ((hgc _ (by omega)).trans hm.2.2.2.2.2.2.2.2.2.1)
      have e10 : wr.cell? ⟨g, j * 12 + 10, none⟩ = some (.string (mkt (k + j * 9 + 8))) := (hbel.cell (p := ⟨g, j * 12 + 10, none⟩) hg).trans ((hgc _ (by omega)).trans hm.2.2.2.2.2.2.2.2.2.2.1)
      have e11 : wr.cell? ⟨g, j * 12 + 11, none⟩ = some (.slice none 0 0) := (hbel.cell (p := ⟨g, j * 12 + 11, none⟩) hg).trans ((hgc _ (by omega)).trans hm.2.2.2.2.2.2.2.2.2.2.2)
      have hgr : g < wr.heap.size := Nat.lt_of_lt_of_le hg hbel.size
      have HK : Hid (∀ u : World, Calls Try.prog 85 #[.int .i64 (((k + j * 9 : Nat) : Int) + 1 + 1 + 1 + 1 + 1 + 1 + 1 + 1)] u fun e u' => e = .returned (.string (mkt (k + j * 9 + 8))) ∧ Below u.heap.size u u') := fun u => mtx _ (k + j * 9 + 8) u (by omega) (by omega) (by omega)
      clear hm hgc
      obtain ⟨q, hq⟩ : ∃ q, q = k + j * 9 := ⟨_, rfl⟩
      rw [← hq] at e0 e1 e2 e3 e4 e5 e6 e8 e10 HK ⊢
      have hqb : q ≤ 2000000000 := by omega
      have HQ : Hid (q = k + j * 9) := hq
      clear hq
      go_wp2_with (first
        | (go_at_call 87; refine (heldItemS_nil _ _).mono ?_; rintro e w1 ⟨rfl, hb1⟩; (have sz1 := hb1.size); (have c8 := (hb1.cell (p := ⟨g, j * 12 + 8, none⟩) hgr).trans e8); (have c9 := (hb1.cell (p := ⟨g, j * 12 + 9, none⟩) hgr).trans e9); (have c10 := (hb1.cell (p := ⟨g, j * 12 + 10, none⟩) hgr).trans e10); (have c11 := (hb1.cell (p := ⟨g, j * 12 + 11, none⟩) hgr).trans e11))
        | (go_at_call 88; refine (heldHeldS_nil _ _).mono ?_; rintro e w2 ⟨rfl, hb2⟩; (have sz2 := hb2.size); (have d10 := (hb2.cell (p := ⟨g, j * 12 + 10, none⟩) (by show g < _; omega)).trans c10); (have d11 := (hb2.cell (p := ⟨g, j * 12 + 11, none⟩) (by show g < _; omega)).trans c11))
        | (go_at_call 89; refine (heldStringS_nil _ _).mono ?_; rintro e w4 ⟨rfl, hb4⟩)
        | fail)
      go_region_held3 (fun w' => w'.cell? ⟨g, j * 12 + 10, none⟩ = some (.string (mkt (q + 8))) ∧ w'.cell? ⟨g, j * 12 + 11, none⟩ = some (.slice none 0 0) ∧ Below w2.heap.size w2 w')
        (first | assumption | exact ⟨d10, d11, (Below.refl _ _).drew⟩ | (go_split_ands; refine ⟨kp (by assumption) (by assumption) hb3 (by show g < _; omega), kp (by assumption) (by assumption) hb3 (by show g < _; omega), kb (by assumption) hb3 (Nat.le_refl _)⟩))
        (first | (go_at_call 85; refine (HK.out _).mono ?_; rintro e w3 ⟨rfl, hb3⟩))
      have hbl : Below w2.heap.size w2 w3 := by go_split_ands; assumption
      have hd1 : w3.cell? ⟨g, j * 12 + 11, none⟩ = some (.slice none 0 0) := by go_split_ands; assumption
      go_wp2_with (first
        | (go_at_call 89; refine (heldStringS_nil _ _).mono ?_; rintro e w4 ⟨rfl, hb4⟩)
        | fail)
      go_roundw
      case rel => exact ⟨j + 1, by omega, by go_num, by have := HQ.out; go_num, kb (kb (kb (kb hbel hb1 (Nat.le_refl _)) hb2 (Nat.le_refl _)) hbl (Nat.le_refl _)) hb4 (Nat.le_refl _)⟩
      case measure => simp [intOf]; omega
    · obtain rfl : j = n := by omega
      go_wp2
      go_ret
      exact ⟨rfl, hbel⟩
theorem markParcelS_nil (k : Int) (w : World) : Calls Try.prog 40 #[.slice none 0 0, .int .i64 k] w fun e w' => e = .returned (.int .i64 k) ∧ Below w.heap.size w w' := by
  go_enter Try.func40, Try.ntmps40
  go_wp2
  go_loopw [1, 5] (fun q i wr => i = .int .i64 0 ∧ q = .int .i64 k ∧ Below w.heap.size w wr) (fun _ _ _ => 0)
  case atStart => exact ⟨rfl, rfl, Below.refl _ _⟩
  case round =>
    obtain ⟨rfl, rfl, hbel⟩ := hrel
    go_wp2
    go_ret
    exact ⟨rfl, hbel⟩
theorem heldParcelS_nil (k : Int) (w : World) : Calls Try.prog 43 #[.slice none 0 0, .int .i64 k] w fun e w' => e = .returned (.int .i64 k) ∧ Below w.heap.size w w' := by
  go_enter Try.func43, Try.ntmps43
  go_wp2
  go_loopw [1, 5] (fun q i wr => i = .int .i64 0 ∧ q = .int .i64 k ∧ Below w.heap.size w wr) (fun _ _ _ => 0)
  case atStart => exact ⟨rfl, rfl, Below.refl _ _⟩
  case round =>
    obtain ⟨rfl, rfl, hbel⟩ := hrel
    go_wp2
    go_ret
    exact ⟨rfl, hbel⟩
theorem markRecordS_nil (k : Int) (w : World) : Calls Try.prog 41 #[.slice none 0 0, .int .i64 k] w fun e w' => e = .returned (.int .i64 k) ∧ Below w.heap.size w w' := by
  go_enter Try.func41, Try.ntmps41
  go_wp2
  go_loopw [1, 5] (fun q i wr => i = .int .i64 0 ∧ q = .int .i64 k ∧ Below w.heap.size w wr) (fun _ _ _ => 0)
  case atStart => exact ⟨rfl, rfl, Below.refl _ _⟩
  case round =>
    obtain ⟨rfl, rfl, hbel⟩ := hrel
    go_wp2
    go_ret
    exact ⟨rfl, hbel⟩
theorem heldRecordS_nil (k : Int) (w : World) : Calls Try.prog 44 #[.slice none 0 0, .int .i64 k] w fun e w' => e = .returned (.int .i64 k) ∧ Below w.heap.size w w' := by
  go_enter Try.func44, Try.ntmps44
  go_wp2
  go_loopw [1, 5] (fun q i wr => i = .int .i64 0 ∧ q = .int .i64 k ∧ Below w.heap.size w wr) (fun _ _ _ => 0)
  case atStart => exact ⟨rfl, rfl, Below.refl _ _⟩
  case round =>
    obtain ⟨rfl, rfl, hbel⟩ := hrel
    go_wp2
    go_ret
    exact ⟨rfl, hbel⟩
end Go.Proofs.Ytmliinglojmojaa.mk

/-
  WHAT WAS TAKEN IS A BEGINNING OF WHAT WAS GIVEN: plain mathematics.
-/
import Derived.Test.YtmliinglojmojaaRcA
namespace Go.Proofs.Ytmliinglojmojaa.mk
open Go.RowKit
set_option linter.unusedVariables false

/-- of one talk -/
def sameT (x y : Rc) : Bool := decide (x.frm = y.frm) && decide (x.a = y.a) && decide (x.b = y.b)
theorem sameT_iff {x y : Rc} : sameT x y = true ↔ x.frm = y.frm ∧ x.a = y.a ∧ x.b = y.b := by simp [sameT, and_assoc]
theorem sameT_refl (x : Rc) : sameT x x = true := sameT_iff.2 ⟨rfl, rfl, rfl⟩
theorem sameT_comm (x y : Rc) : sameT x y = sameT y x := by
  unfold sameT
  simp only [eq_comm]
theorem sameT_trans {x y z : Rc} (h : sameT x y = true) : sameT x z = sameT y z := by
  obtain ⟨h1, h2, h3⟩ := sameT_iff.1 h
  unfold sameT
  rw [h1, h2, h3]
/-- how many of the first k are of x's talk -/
def cntT (x : Rc) (gv : List Rc) (k : Nat) : Nat := ((gv.take k).filter (sameT x)).length
theorem cntT_zero (x : Rc) (gv : List Rc) : cntT x gv 0 = 0 := by simp [cntT]
theorem cntT_succ (x : Rc) (gv : List Rc) (k : Nat) (h : k < gv.length) : cntT x gv (k + 1) = cntT x gv k + (if sameT x gv[k] then 1 else 0) := by
  unfold cntT
  rw [List.take_succ_eq_append_getElem h, List.filter_append, List.length_append]
  congr 1
  cases e : sameT x gv[k] <;> simp [e]
theorem cntT_mono (x : Rc) (gv : List Rc) {k l : Nat} (h : k ≤ l) : cntT x gv k ≤ cntT x gv l := by
  unfold cntT
  have e : gv.take k = (gv.take l).take k := by rw [List.take_take, Nat.min_eq_left h]
  rw [e]
  exact ((List.take_sublist k (gv.take l)).filter _).length_le
theorem cntT_same {x y : Rc} (h : sameT x y = true) (gv : List Rc) (k : Nat) : cntT x gv k = cntT y gv k := by
  unfold cntT
  congr 2
  funext z
  exact sameT_trans h
/-- the message that was taken is the one given in its turn -/
def There (gv : List Rc) (x : Rc) (n : Nat) : Prop := ∃ k, ∃ h : k < gv.length, sameT x gv[k] = true ∧ cntT x gv k = n ∧ gv[k].text = x.text
def RightP (gv tk : List Rc) : Prop := ∀ i (h : i < tk.length), There gv tk[i] (cntT tk[i] tk i)
/-- the first place from b on of one of x's talk, or the length -/
def nxt (gv : List Rc) (x : Rc) (b : Nat) : Nat := if h : b < gv.length then (if sameT x gv[b] then b else nxt gv x (b + 1)) else b
termination_by gv.length - b
theorem nxt_stop {gv : List Rc} {x : Rc} {b : Nat} (h : ¬ b < gv.length) : nxt gv x b = b := by rw [nxt, dif_neg h]
theorem nxt_hit {gv : List Rc} {x : Rc} {b : Nat} (h : b < gv.length) (hs : sameT x gv[b] = true) : nxt gv x b = b := by rw [nxt, dif_pos h, if_pos hs]
theorem nxt_go {gv : List Rc} {x : Rc} {b : Nat} (h : b < gv.length) (hs : sameT x gv[b] = false) : nxt gv x b = nxt gv x (b + 1) := by rw [nxt, dif_pos h, if_neg (by simp [hs])]
theorem nxt_spec (gv : List Rc) (x : Rc) : ∀ (n b : Nat), gv.length - b = n → b ≤ gv.length → b ≤ nxt gv x b ∧ nxt gv x b ≤ gv.length ∧ cntT x gv (nxt gv x b) = cntT x gv b ∧ (∀ h : nxt gv x b < gv.length, sameT x gv[nxt gv x b] = true) := by
  intro n
  induction n with
  | zero =>
    intro b hb hl
    rw [nxt_stop (by omega)]
    exact ⟨Nat.le_refl _, hl, rfl, fun h => absurd h (by omega)⟩
  | succ n ih =>
    intro b hb hl
    have hlt : b < gv.length := by omega
    cases hs : sameT x gv[b] with
    | true =>
      have e := nxt_hit hlt hs
      refine ⟨by rw [e]; exact Nat.le_refl _, by rw [e]; exact hl, by rw [e], ?_⟩
      intro h
      have : ∀ q (hq : q < gv.length), q = b → sameT x gv[q] = true := fun q hq e => by subst e; exact hs
      exact this _ h e
    | false =>
      have e := nxt_go hlt hs
      obtain ⟨h1, h2, h3, h4⟩ := ih (b + 1) (by omega) (by omega)
      have hc := cntT_succ x gv b hlt
      rw [hs] at hc
      refine ⟨by rw [e]; omega, by rw [e]; exact h2, by rw [e, h3, hc]; simp, ?_⟩
      intro h
      have : ∀ q (hq : q < gv.length), q = nxt gv x (b + 1) → sameT x gv[q] = true := fun q hq e2 => by subst e2; exact h4 hq
      exact this _ h e
/-- the next one of the talk behind place b, ahead of which there are n of it, is the n-th -/
theorem there_iff {gv : List Rc} {x : Rc} {n b : Nat} (hb : b ≤ gv.length) (hn : cntT x gv b = n) : There gv x n ↔ ∃ h : nxt gv x b < gv.length, gv[nxt gv x b].text = x.text := by
  obtain ⟨h1, h2, h3, h4⟩ := nxt_spec gv x _ b rfl hb
  constructor
  · rintro ⟨k, hk, hs, hc, ht⟩
    have e : k = nxt gv x b := by
      rcases Nat.lt_trichotomy k (nxt gv x b) with h | h | h
      · -- one more stands ahead of the place
        have c1 := cntT_succ x gv k hk
        rw [hs] at c1
        have c2 := cntT_mono x gv (show k + 1 ≤ nxt gv x b by omega)
        simp at c1
        omega
      · exact h
      · have hl : nxt gv x b < gv.length := by omega
        have c1 := cntT_succ x gv (nxt gv x b) hl
        rw [h4 hl] at c1
        have c2 := cntT_mono x gv (show nxt gv x b + 1 ≤ k by omega)
        simp at c1
        omega
    have : ∀ q (hq : q < gv.length), q = k → gv[q].text = x.text := fun q hq e2 => by subst e2; exact ht
    exact ⟨by omega, this _ _ e.symm⟩
  · rintro ⟨h, ht⟩
    exact ⟨nxt gv x b, h, h4 h, by omega, ht⟩
theorem nxt_cnt {gv : List Rc} {x : Rc} {n b : Nat} (hb : b ≤ gv.length) (hn : cntT x gv b = n) (h : nxt gv x b < gv.length) : cntT x gv (nxt gv x b + 1) = n + 1 := by
  obtain ⟨h1, h2, h3, h4⟩ := nxt_spec gv x _ b rfl hb
  rw [cntT_succ x gv _ h, h4 h, h3, hn]
  simp
open Classical in
noncomputable def rightOk (gv tk : List Rc) : Bool := decide (RightP gv tk)
theorem rightOk_yes {gv tk : List Rc} (h : RightP gv tk) : rightOk gv tk = true := by simpa [rightOk] using h
theorem rightOk_no {gv tk : List Rc} {i : Nat} (hi : i < tk.length) (h : ¬ There gv tk[i] (cntT tk[i] tk i)) : rightOk gv tk = false := by
  cases e : rightOk gv tk
  · rfl
  · exact absurd ((by simpa [rightOk] using e : RightP gv tk) i hi) h
end Go.Proofs.Ytmliinglojmojaa.mk

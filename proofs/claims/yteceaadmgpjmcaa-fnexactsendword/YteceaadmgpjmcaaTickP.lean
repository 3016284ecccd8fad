/-
  TICKING: what a tick does to items (plain); slices of numbers; blocks that lie.
-/
import Derived.Test.YteceaadmgpjmcaaCopyA
import Derived.Test.YteceaadmgpjmcaaBase
namespace Go.Proofs.Yteceaadmgpjmcaa.mk
open Go.RowKit
set_option linter.unusedVariables false

def tickIt (x : It) : It := if x.has then x else if x.since = -1 ∨ x.since = 3 then ⟨x.text, x.last, x.has, 0⟩ else ⟨x.text, x.last, x.has, x.since + 1⟩
def fires (x : It) : Prop := x.has = false ∧ (x.since = -1 ∨ x.since = 3)
instance (x : It) : Decidable (fires x) := by unfold fires; infer_instance
/-- the first k items have ticked -/
def tkn (k : Nat) (xs : List It) : List It := (xs.take k).map tickIt ++ xs.drop k
def snt (b : Nat) (xs : List It) : Nat → List Int
  | 0 => []
  | k + 1 => snt b xs k ++ (if h : k < xs.length then (if fires xs[k] then [((b + k : Nat) : Int)] else []) else [])
theorem tkn_length (k : Nat) (xs : List It) : (tkn k xs).length = xs.length := by simp [tkn]; omega
theorem tkn_zero (xs : List It) : tkn 0 xs = xs := by simp [tkn]
theorem tkn_at (k : Nat) (xs : List It) (h : k < xs.length) : (tkn k xs)[k]'(by rw [tkn_length]; exact h) = xs[k] := by
  unfold tkn
  rw [List.getElem_append_right (by simp; omega)]
  simp [List.length_take, Nat.min_eq_left (Nat.le_of_lt h)]
theorem tkn_succ (k : Nat) (xs : List It) (h : k < xs.length) : tkn (k + 1) xs = (tkn k xs).set k (tickIt xs[k]) := by
  unfold tkn
  have hl : ((xs.take k).map tickIt).length = k := by simp; omega
  have e : (xs.take (k + 1)).map tickIt = (xs.take k).map tickIt ++ [tickIt xs[k]] := by rw [← List.take_append_getElem h, List.map_append]; rfl
  rw [List.set_append_right _ _ (by omega), hl, Nat.sub_self, List.drop_eq_getElem_cons h, List.set_cons_zero, e, List.append_assoc]
  rfl
theorem snt_yes (b : Nat) (xs : List It) (k : Nat) (h : k < xs.length) (hf : fires xs[k]) : snt b xs (k + 1) = snt b xs k ++ [((b + k : Nat) : Int)] := by simp [snt, h, hf]
theorem snt_no (b : Nat) (xs : List It) (k : Nat) (h : k < xs.length) (hf : ¬ fires xs[k]) : snt b xs (k + 1) = snt b xs k := by simp [snt, h, hf]
theorem snt_length (b : Nat) (xs : List It) (k : Nat) : (snt b xs k).length ≤ k := by
  induction k with
  | zero => simp [snt]
  | succ k ih =>
    unfold snt
    split
    · split <;> simp <;> omega
    · simp; omega
theorem tick_fires {x : It} (h : fires x) : tickIt x = ⟨x.text, x.last, x.has, 0⟩ := by
  unfold fires at h
  unfold tickIt
  rw [if_neg (by simp [h.1]), if_pos h.2]
theorem tick_has {x : It} (h : x.has = true) : tickIt x = x := by unfold tickIt; rw [if_pos h]
theorem tick_older {x : It} (h : x.has = false) (h2 : ¬ (x.since = -1 ∨ x.since = 3)) : tickIt x = ⟨x.text, x.last, x.has, x.since + 1⟩ := by
  unfold tickIt
  rw [if_neg (by simp [h]), if_neg h2]
def ns (l : List Int) : List Value := l.map (Value.int .i64)
theorem ns_append (a b : List Int) : ns (a ++ b) = ns a ++ ns b := by simp [ns]
theorem ns_length (a : List Int) : (ns a).length = a.length := by simp [ns]
/-- the items' cells where one item's since is turned -/
theorem is_since (xs : List It) (k : Nat) (h : k < xs.length) (n : Int) : (is xs).set (k * 4 + 3) (.int .i64 n) = is (xs.set k ⟨xs[k].text, xs[k].last, xs[k].has, n⟩) := by
  apply List.ext_getElem?
  intro j
  have hl := is_length xs
  have hl2 := is_length (xs.set k ⟨xs[k].text, xs[k].last, xs[k].has, n⟩)
  rw [List.length_set] at hl2
  rcases Nat.lt_or_ge j (xs.length * 4) with hj | hj
  · obtain ⟨m, r, hr, rfl⟩ : ∃ m r, r < 4 ∧ j = m * 4 + r := ⟨j / 4, j % 4, by omega, by omega⟩
    have hi : m < xs.length := by omega
    have hi2 : m < (xs.set k ⟨xs[k].text, xs[k].last, xs[k].has, n⟩).length := by rw [List.length_set]; exact hi
    obtain ⟨a0, a1, a2, a3⟩ := is_at xs m hi
    obtain ⟨b0, b1, b2, b3⟩ := is_at (xs.set k ⟨xs[k].text, xs[k].last, xs[k].has, n⟩) m hi2
    by_cases ek : m = k
    · subst ek
      rw [List.getElem_set_self] at b0 b1 b2 b3
      rcases (show r = 0 ∨ r = 1 ∨ r = 2 ∨ r = 3 by omega) with rfl | rfl | rfl | rfl
      · rw [List.getElem?_set_ne (by omega), Nat.add_zero, a0, b0]
      · rw [List.getElem?_set_ne (by omega), a1, b1]
      · rw [List.getElem?_set_ne (by omega), a2, b2]
      · rw [List.getElem?_set_self (by omega), b3]
    · rw [List.getElem_set_ne (by omega)] at b0 b1 b2 b3
      rw [List.getElem?_set_ne (by omega)]
      rcases (show r = 0 ∨ r = 1 ∨ r = 2 ∨ r = 3 by omega) with rfl | rfl | rfl | rfl
      · rw [Nat.add_zero, a0, b0]
      · rw [a1, b1]
      · rw [a2, b2]
      · rw [a3, b3]
  · rw [List.getElem?_eq_none (by rw [List.length_set]; omega), List.getElem?_eq_none (by omega)]
theorem Holds.since {b : Nat} {xs : List It} {cs : List Value} (h : Holds b xs cs) (hn : xs.length ≤ 60) (k : Nat) (hk : k < xs.length) (n : Int) :
    Holds b (xs.set k ⟨xs[k].text, xs[k].last, xs[k].has, n⟩) (cs.set ((b + k) % 60 * 4 + 3) (.int .i64 n)) := by
  obtain ⟨hl, h0, h1, h2⟩ := h
  refine ⟨by rw [List.length_set, hl], ?_, ?_, fun i hi => ?_⟩
  · rw [List.getElem?_set_ne (by omega), h0]
  · rw [List.getElem?_set_ne (by omega), h1, List.length_set]
  · rw [List.length_set] at hi
    have a := h2 i hi
    by_cases ek : i = k
    · subst ek
      rw [List.getElem_set_self, List.getElem?_set_ne (by omega), List.getElem?_set_ne (by omega), List.getElem?_set_ne (by omega), List.getElem?_set_self (by omega)]
      exact ⟨a.1, a.2.1, a.2.2.1, rfl⟩
    · have hne : (b + i) % 60 ≠ (b + k) % 60 := by omega
      rw [List.getElem_set_ne (by omega), List.getElem?_set_ne (by omega), List.getElem?_set_ne (by omega), List.getElem?_set_ne (by omega), List.getElem?_set_ne (by omega)]
      exact a
end Go.Proofs.Yteceaadmgpjmcaa.mk

/-
  WORDS: what a word does to items (plain).
-/
import Derived.Test.YteceaadmgpjmcaaWordA
namespace Go.Proofs.Yteceaadmgpjmcaa.mk
open Go.RowKit
set_option linter.unusedVariables false

/-- what the lowest k bits of a mask tell of the first k items -/
def hdn (m : Nat) (xs : List It) : Nat → List It
  | 0 => xs
  | k + 1 => if h : k < xs.length then (if m / 2 ^ k % 2 = 1 ∧ 0 ≤ xs[k].since then (hdn m xs k).set k ⟨xs[k].text, xs[k].last, true, xs[k].since⟩ else hdn m xs k) else hdn m xs k
theorem hdn_length (m : Nat) (xs : List It) (k : Nat) : (hdn m xs k).length = xs.length := by
  induction k with
  | zero => rfl
  | succ k ih =>
    unfold hdn
    split
    · split
      · rw [List.length_set, ih]
      · exact ih
    · exact ih
theorem hdn_past (m : Nat) (xs : List It) (k j : Nat) (h : k ≤ j) : (hdn m xs k)[j]? = xs[j]? := by
  induction k with
  | zero => rfl
  | succ k ih =>
    unfold hdn
    split
    · split
      · rw [List.getElem?_set_ne (by omega), ih (by omega)]
      · exact ih (by omega)
    · exact ih (by omega)
theorem hdn_at (m : Nat) (xs : List It) (k : Nat) (h : k < xs.length) : (hdn m xs k)[k]'(by rw [hdn_length]; exact h) = xs[k] := by
  have := hdn_past m xs k k (Nat.le_refl _)
  rw [List.getElem?_eq_getElem (by rw [hdn_length]; exact h), List.getElem?_eq_getElem h] at this
  exact Option.some.inj this
theorem hdn_yes (m : Nat) (xs : List It) (k : Nat) (h : k < xs.length) (h1 : m / 2 ^ k % 2 = 1) (h2 : 0 ≤ xs[k].since) : hdn m xs (k + 1) = (hdn m xs k).set k ⟨xs[k].text, xs[k].last, true, xs[k].since⟩ := by
  rw [hdn, dif_pos h, if_pos ⟨h1, h2⟩]
theorem hdn_no (m : Nat) (xs : List It) (k : Nat) (h : k < xs.length → ¬ (m / 2 ^ k % 2 = 1 ∧ 0 ≤ (xs[k]?.map It.since).getD (-1))) : hdn m xs (k + 1) = hdn m xs k := by
  rw [hdn]
  split
  · rename_i hk
    have := h hk
    rw [List.getElem?_eq_getElem hk] at this
    rw [if_neg (by simpa using this)]
  · rfl
theorem hdn_end (m : Nat) (xs : List It) (k : Nat) (h : xs.length ≤ k) : hdn m xs k = hdn m xs xs.length := by
  induction k with
  | zero => rw [show xs.length = 0 by omega]
  | succ k ih =>
    by_cases e : xs.length = k + 1
    · rw [e]
    · rw [hdn_no m xs k (fun hk => by omega), ih (by omega)]
theorem hdn_min (m : Nat) (xs : List It) : hdn m xs (min 8 xs.length) = hdn m xs 8 := by
  rcases Nat.lt_or_ge 8 xs.length with h | h
  · rw [Nat.min_eq_left (by omega)]
  · rw [Nat.min_eq_right h, hdn_end m xs 8 h]
theorem Holds.had {b : Nat} {xs : List It} {cs : List Value} (h : Holds b xs cs) (hn : xs.length ≤ 60) (k : Nat) (hk : k < xs.length) :
    Holds b (xs.set k ⟨xs[k].text, xs[k].last, true, xs[k].since⟩) (cs.set ((b + k) % 60 * 4 + 2) (.bool true)) := by
  obtain ⟨hl, h0, h1, h2⟩ := h
  refine ⟨by rw [List.length_set, hl], ?_, ?_, fun i hi => ?_⟩
  · rw [List.getElem?_set_ne (by omega), h0]
  · rw [List.getElem?_set_ne (by omega), h1, List.length_set]
  · rw [List.length_set] at hi
    have a := h2 i hi
    by_cases ek : i = k
    · subst ek
      rw [List.getElem_set_self, List.getElem?_set_ne (by omega), List.getElem?_set_ne (by omega), List.getElem?_set_self (by omega), List.getElem?_set_ne (by omega)]
      exact ⟨a.1, a.2.1, rfl, a.2.2.2⟩
    · have hne : (b + i) % 60 ≠ (b + k) % 60 := by omega
      rw [List.getElem_set_ne (by omega), List.getElem?_set_ne (by omega), List.getElem?_set_ne (by omega), List.getElem?_set_ne (by omega), List.getElem?_set_ne (by omega)]
      exact a
theorem Holds.drop {b : Nat} {xs : List It} {cs : List Value} (h : Holds b xs cs) (hn : xs.length ≤ 60) (d : Nat) (hd : d ≤ xs.length) :
    Holds (b + d) (xs.drop d) (cs.set 240 (.int .i64 ((b + d : Nat) : Int))) := by
  obtain ⟨hl, h0, h1, h2⟩ := h
  refine ⟨by rw [List.length_set, hl], ?_, ?_, fun i hi => ?_⟩
  · rw [List.getElem?_set_self (by omega)]
  · rw [List.getElem?_set_ne (by omega), h1, List.length_drop, show b + d + (xs.length - d) = b + xs.length by omega]
  · rw [List.length_drop] at hi
    have a := h2 (d + i) (by omega)
    rw [List.getElem_drop, List.getElem?_set_ne (by omega), List.getElem?_set_ne (by omega), List.getElem?_set_ne (by omega), List.getElem?_set_ne (by omega), show b + d + i = b + (d + i) by omega]
    exact a
theorem is_had (xs : List It) (k : Nat) (h : k < xs.length) : (is xs).set (k * 4 + 2) (.bool true) = is (xs.set k ⟨xs[k].text, xs[k].last, true, xs[k].since⟩) := by
  apply List.ext_getElem?
  intro j
  have hl := is_length xs
  have hl2 := is_length (xs.set k ⟨xs[k].text, xs[k].last, true, xs[k].since⟩)
  rw [List.length_set] at hl2
  rcases Nat.lt_or_ge j (xs.length * 4) with hj | hj
  · obtain ⟨m, r, hr, rfl⟩ : ∃ m r, r < 4 ∧ j = m * 4 + r := ⟨j / 4, j % 4, by omega, by omega⟩
    have hi : m < xs.length := by omega
    have hi2 : m < (xs.set k ⟨xs[k].text, xs[k].last, true, xs[k].since⟩).length := by rw [List.length_set]; exact hi
    obtain ⟨a0, a1, a2, a3⟩ := is_at xs m hi
    obtain ⟨b0, b1, b2, b3⟩ := is_at (xs.set k ⟨xs[k].text, xs[k].last, true, xs[k].since⟩) m hi2
    by_cases ek : m = k
    · subst ek
      rw [List.getElem_set_self] at b0 b1 b2 b3
      rcases (show r = 0 ∨ r = 1 ∨ r = 2 ∨ r = 3 by omega) with rfl | rfl | rfl | rfl
      · rw [List.getElem?_set_ne (by omega), Nat.add_zero, a0, b0]
      · rw [List.getElem?_set_ne (by omega), a1, b1]
      · rw [List.getElem?_set_self (by omega), b2]
      · rw [List.getElem?_set_ne (by omega), a3, b3]
    · rw [List.getElem_set_ne (by omega)] at b0 b1 b2 b3
      rw [List.getElem?_set_ne (by omega)]
      rcases (show r = 0 ∨ r = 1 ∨ r = 2 ∨ r = 3 by omega) with rfl | rfl | rfl | rfl
      · rw [Nat.add_zero, a0, b0]
      · rw [a1, b1]
      · rw [a2, b2]
      · rw [a3, b3]
  · rw [List.getElem?_eq_none (by rw [List.length_set]; omega), List.getElem?_eq_none (by omega)]
def WdOk (b : Int) (xs : List It) (next mask : Int) : Prop := b ≤ next ∧ next ≤ b + (front xs : Int) ∧ 0 ≤ mask ∧ mask ≤ 255
instance (b : Int) (xs : List It) (next mask : Int) : Decidable (WdOk b xs next mask) := by unfold WdOk; infer_instance
open Classical in
noncomputable def wordOf (b : Int) (xs : List It) (next mask : Int) : Int × List It :=
  if sdOk b xs = true then (if WdOk b xs next mask then (next, hdn mask.toNat (xs.drop (next - b).toNat) 8) else (b, xs)) else (0, [])
def WordPost (w : World) (b : Int) (xs : List It) (next mask : Int) (e : Ending) (w' : World) : Prop :=
  (∃ a1 c1, e = .returned (.agg #[.int .i64 (wordOf b xs next mask).1, .slice a1 (wordOf b xs next mask).2.length c1]) ∧ w'.ownsRow w.heap.size 87 4 (.slice a1 (wordOf b xs next mask).2.length c1) (wordOf b xs next mask).2.length (is (wordOf b xs next mask).2)) ∧ Below w.heap.size w w'
end Go.Proofs.Yteceaadmgpjmcaa.mk

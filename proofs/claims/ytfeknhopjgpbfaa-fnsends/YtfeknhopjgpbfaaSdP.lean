/-
  DRAWN SENDS: what a push, a tick and a word keep (plain).
-/
import Derived.Test.YtfeknhopjgpbfaaPushP
import Derived.Test.YtfeknhopjgpbfaaTickB
import Derived.Test.YtfeknhopjgpbfaaWordB
namespace Go.Proofs.Ytfeknhopjgpbfaa.mk
open Go.RowKit
set_option linter.unusedVariables false

/-- a Send as it is drawn -/
def Wk (b : Int) (xs : List It) : Prop := 0 ≤ b ∧ b ≤ 1000000 ∧ xs.length ≤ 60 ∧ ∀ i (h : i < xs.length), xs[i].text.size ≤ 20
/-- a Send as it is drawn or spoilt -/
def Wl (b : Int) (xs : List It) : Prop := -1 ≤ b ∧ b ≤ 1000001 ∧ xs.length ≤ 61 ∧ ∀ i (h : i < xs.length), xs[i].text.size ≤ 50
theorem Wk.wl {b : Int} {xs : List It} (h : Wk b xs) : Wl b xs := ⟨by have := h.1; omega, by have := h.2.1; omega, by have := h.2.2.1; omega, fun i hi => by have := h.2.2.2 i hi; omega⟩
theorem Wk.big {b : Int} {xs : List It} (h : Wk b xs) : xs.length ≤ 1048576 ∧ ∀ i (h : i < xs.length), xs[i].text.size ≤ 1048576 := ⟨by have := h.2.2.1; omega, fun i hi => by have := h.2.2.2 i hi; omega⟩
theorem Wl.big {b : Int} {xs : List It} (h : Wl b xs) : xs.length ≤ 1048576 ∧ ∀ i (h : i < xs.length), xs[i].text.size ≤ 1048576 := ⟨by have := h.2.2.1; omega, fun i hi => by have := h.2.2.2 i hi; omega⟩
theorem Wk.none : Wk 0 [] := ⟨by omega, by omega, by simp, fun i h => by simp at h⟩
theorem wk_ok {b : Int} {xs : List It} (h : sdOk b xs = true) : Wk b xs := by
  have := sdOk_of h
  exact ⟨this.1.1, this.1.2.1, this.1.2.2.1, fun i hi => (this.2 i hi).1⟩
theorem cut_sizes (s : ByteArray) : ∀ p ∈ cut s, p.1.size ≤ 20 := by
  induction h : s.size using Nat.strongRecOn generalizing s with
  | _ m ih =>
    intro p hp
    by_cases hlt : 20 < s.size
    · rw [cut_step s hlt] at hp
      rcases List.mem_cons.1 hp with rfl | hp
      · simp [ByteArray.size_extract]; omega
      · exact ih _ (by rw [ByteArray.size_extract]; omega) _ rfl p hp
    · rw [cut_last s hlt] at hp
      simp at hp
      subst hp
      show s.size ≤ 20
      omega
theorem push_wk {b : Int} {xs : List It} (s : ByteArray) (h : (pushOf b xs s).2.2 = 0) : Wk (pushOf b xs s).1 (pushOf b xs s).2.1 := by
  unfold pushOf at h ⊢
  split
  · rename_i hv
    have hk := wk_ok hv.1
    split
    · exact Wk.none
    · rename_i hf
      unfold Full at hf
      refine ⟨hk.1, hk.2.1, by simp; omega, fun i hi => ?_⟩
      by_cases hl : i < xs.length
      · simp only [List.getElem_append_left hl]
        exact hk.2.2.2 i hl
      · simp only [List.getElem_append_right (Nat.le_of_not_lt hl), List.getElem_map]
        exact cut_sizes s _ (List.getElem_mem _)
  · exact Wk.none
theorem tickIt_text (x : It) : (tickIt x).text = x.text ∧ (tickIt x).has = x.has := by
  unfold tickIt
  split
  · simp
  · split <;> simp
theorem tkn_low (k : Nat) (xs : List It) (i : Nat) (hi : i < xs.length) (hk : i < k) : (tkn k xs)[i]'(by rw [tkn_length]; exact hi) = tickIt xs[i] := by
  unfold tkn
  rw [List.getElem_append_left (by simp; omega)]
  simp
theorem tkn_high (k : Nat) (xs : List It) (i : Nat) (hi : i < xs.length) (hk : k ≤ i) : (tkn k xs)[i]'(by rw [tkn_length]; exact hi) = xs[i] := by
  unfold tkn
  rw [List.getElem_append_right (by simp; omega)]
  simp [List.length_take, List.getElem_drop]
  congr 1
  omega
theorem tick_wk (b : Int) (xs : List It) : Wk (tickOf b xs).1 (tickOf b xs).2.1 := by
  unfold tickOf
  split
  · rename_i hv
    have hk := wk_ok hv
    refine ⟨hk.1, hk.2.1, by simp only [tkn_length]; exact hk.2.2.1, fun i hi => ?_⟩
    simp only [tkn_length] at hi
    by_cases hl : i < min 8 xs.length
    · simp only [tkn_low _ xs i hi hl, (tickIt_text _).1]
      exact hk.2.2.2 i hi
    · simp only [tkn_high (min 8 xs.length) xs i hi (by omega)]
      exact hk.2.2.2 i hi
  · exact Wk.none
theorem tick_ok {b : Int} {xs : List It} (h : sdOk b xs = true) : sdOk b (tkn (min 8 xs.length) xs) = true := by
  have hk := sdOk_of h
  refine sdOk_yes ⟨by rw [tkn_length]; exact hk.1, fun i hi => ?_⟩
  rw [tkn_length] at hi
  have q := hk.2 i hi
  by_cases hl : i < min 8 xs.length
  · rw [tkn_low _ xs i hi hl]
    unfold ItOk at q ⊢
    obtain ⟨q1, q2, q3, q4, q5⟩ := q
    unfold tickIt
    split
    · exact ⟨q1, q2, q3, q4, q5⟩
    · rename_i hh
      simp at hh
      split
      · exact ⟨q1, by simp, by simp, .inl (by omega), .inl hh⟩
      · exact ⟨q1, by simp; omega, by simp; omega, .inl (by omega), .inl hh⟩
  · rw [tkn_high _ xs i hi (by omega)]
    exact q
theorem hdn_one (m : Nat) (xs : List It) (k : Nat) : ∀ i (hi : i < xs.length), ∃ x, (hdn m xs k)[i]? = some x ∧ x.text = xs[i].text ∧ x.since = xs[i].since ∧ (x.has = xs[i].has ∨ 0 ≤ xs[i].since) := by
  induction k with
  | zero => intro i hi; exact ⟨xs[i], List.getElem?_eq_getElem hi, rfl, rfl, .inl rfl⟩
  | succ k ih =>
    intro i hi
    unfold hdn
    split
    · split
      · rename_i hk hc
        by_cases e : k = i
        · subst e
          exact ⟨⟨xs[k].text, xs[k].last, true, xs[k].since⟩, by rw [List.getElem?_set_self (by rw [hdn_length]; exact hi)], rfl, rfl, .inr hc.2⟩
        · rw [List.getElem?_set_ne e]
          exact ih i hi
      · exact ih i hi
    · exact ih i hi
theorem word_ok {b : Int} {xs : List It} (next mask : Int) (h : sdOk b xs = true) : sdOk (wordOf b xs next mask).1 (wordOf b xs next mask).2 = true := by
  unfold wordOf
  rw [if_pos h]
  split
  · rename_i hw
    unfold WdOk at hw
    have hk := sdOk_of h
    have hh := hk.1
    unfold HdOk at hh
    have hf := front_le xs
    refine sdOk_yes ⟨?_, fun i hi => ?_⟩
    · unfold HdOk
      simp only [hdn_length, List.length_drop]
      omega
    · simp only [hdn_length, List.length_drop] at hi
      have hd : i < (xs.drop (next - b).toNat).length := by rw [List.length_drop]; exact hi
      obtain ⟨x, e, e1, e2, e3⟩ := hdn_one mask.toNat (xs.drop (next - b).toNat) 8 i hd
      rw [List.getElem?_eq_getElem (by rw [hdn_length]; exact hd)] at e
      have e' := Option.some.inj e
      rw [List.getElem_drop] at e1 e2 e3
      have q := hk.2 ((next - b).toNat + i) (by omega)
      simp only [e']
      unfold ItOk at q ⊢
      obtain ⟨q1, q2, q3, q4, q5⟩ := q
      rw [e1, e2]
      refine ⟨q1, q2, q3, by omega, ?_⟩
      rcases e3 with e3 | e3
      · rw [e3]; exact q5
      · exact .inr e3
  · exact h
theorem word_wk (b : Int) (xs : List It) (next mask : Int) : Wk (wordOf b xs next mask).1 (wordOf b xs next mask).2 := by
  by_cases h : sdOk b xs = true
  · exact wk_ok (word_ok next mask h)
  · unfold wordOf
    rw [if_neg h]
    exact Wk.none
end Go.Proofs.Ytfeknhopjgpbfaa.mk

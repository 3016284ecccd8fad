/-
  A TICK of an end: what it gives (plain).
-/
import Derived.Test.YtfjedpnagnnobaaGreatAdP
import Derived.Test.YtfjedpnagnnobaaGreatTickC
import Derived.Test.YtfjedpnagnnobaaGreatTkW
import Derived.Test.YtfjedpnagnnobaaGreatRiseB
namespace Go.Proofs.YtfjedpnagnnobaaGreat.mk
open Go.RowKit
set_option linter.unusedVariables false

/-- the packet that brings number q -/
def datOf (num life peer : Int) (b : Nat) (ys : List It) (q : Int) : Pk := ⟨2, num, life, peer, 0, 0, q, ((ys[(q - (b : Int)).toNat]?).getD ⟨⟨#[]⟩, false, false, 0⟩).last, ((ys[(q - (b : Int)).toNat]?).getD ⟨⟨#[]⟩, false, false, 0⟩).text⟩
def wordOf (num life peer nx : Int) (m : Nat) : Pk := ⟨1, num, life, peer, nx, (m : Int), 0, false, ⟨#[]⟩⟩
theorem datOf_at (num life peer : Int) (b k : Nat) (ys : List It) (h : k < ys.length) : datOf num life peer b ys ((b + k : Nat) : Int) = ⟨2, num, life, peer, 0, 0, ((b + k : Nat) : Int), ys[k].last, ys[k].text⟩ := by
  have e : (((b + k : Nat) : Int) - (b : Int)).toNat = k := by omega
  unfold datOf
  rw [e, List.getElem?_eq_getElem h]
  rfl
theorem snt_form (b : Nat) (xs : List It) (K : Nat) : ∀ i (h : i < (snt b xs K).length), ∃ k, k < xs.length ∧ k < K ∧ (snt b xs K)[i] = ((b + k : Nat) : Int) := by
  induction K with
  | zero => intro i h; simp [snt] at h
  | succ K ih =>
    intro i h
    rcases Nat.lt_or_ge i (snt b xs K).length with q | q
    · obtain ⟨k, h1, h2, h3⟩ := ih i q
      refine ⟨k, h1, by omega, ?_⟩
      simp only [snt]
      rw [List.getElem_append_left q]
      exact h3
    · have hl : (snt b xs (K + 1)).length ≤ (snt b xs K).length + 1 := by
        simp only [snt, List.length_append]
        split
        · split <;> simp
        · simp
      by_cases hk : K < xs.length
      · by_cases hf : fires xs[K]
        · refine ⟨K, hk, by omega, ?_⟩
          simp only [snt_yes b xs K hk hf]
          rw [List.getElem_append_right q]
          simp
        · rw [snt_no b xs K hk hf] at h
          omega
      · simp only [snt, dif_neg hk, List.append_nil] at h
        omega
theorem tkn_text (k : Nat) (xs : List It) (i : Nat) (h : i < xs.length) : ((tkn k xs)[i]'(by rw [tkn_length]; exact h)).text = xs[i].text ∧ ((tkn k xs)[i]'(by rw [tkn_length]; exact h)).last = xs[i].last := by
  have ht : ∀ x : It, (tickIt x).text = x.text ∧ (tickIt x).last = x.last := by
    intro x
    unfold tickIt
    split
    · exact ⟨rfl, rfl⟩
    · split <;> exact ⟨rfl, rfl⟩
  have e : (tkn k xs)[i]? = some (if i < k then tickIt xs[i] else xs[i]) := by
    unfold tkn
    by_cases hik : i < k
    · rw [List.getElem?_append_left (by simp; omega), if_pos hik, List.getElem?_map, List.getElem?_take_of_lt hik, List.getElem?_eq_getElem h]
      rfl
    · rw [List.getElem?_append_right (by simp; omega), if_neg hik, List.getElem?_drop]
      have e : k + (i - ((xs.take k).map tickIt).length) = i := by simp; omega
      rw [e, List.getElem?_eq_getElem h]
  rw [List.getElem?_eq_getElem (by rw [tkn_length]; exact h)] at e
  injection e with e
  rw [e]
  split
  · exact ht _
  · exact ⟨rfl, rfl⟩
def sinceOf (s : Int) : Int := min (s + 1) 1000000
open Classical in
/-- what a tick gives -/
noncomputable def tickE (e : En) : Int × En × List Pk :=
  if enOk e.num e.up e.life e.peer e.since e.owes e.b e.xs e.nx e.hs e.o e.rs = true then
    (if e.up = true then
      (if e.owes = true ∨ 6 ≤ sinceOf e.since then
        (0, { e with since := 0, owes := false, xs := tkn (min 8 e.xs.length) e.xs }, (snt e.b.toNat e.xs (min 8 e.xs.length)).map (datOf e.num e.life e.peer e.b.toNat e.xs) ++ [wordOf e.num e.life e.peer e.nx (tells e.nx.toNat e.hs)])
      else (0, { e with since := sinceOf e.since, xs := tkn (min 8 e.xs.length) e.xs }, (snt e.b.toNat e.xs (min 8 e.xs.length)).map (datOf e.num e.life e.peer e.b.toNat e.xs)))
    else (0, e, []))
  else (1, zeroE, [])
end Go.Proofs.YtfjedpnagnnobaaGreat.mk

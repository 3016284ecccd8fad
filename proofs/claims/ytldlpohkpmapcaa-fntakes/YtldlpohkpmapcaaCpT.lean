/-
  COPIES of a Take: spec.l5Copy.
-/
import Derived.Test.YtldlpohkpmapcaaBase
namespace Go.Proofs.Ytldlpohkpmapcaa.mk
open Go.RowKit
set_option linter.unusedVariables false

theorem hs_one (xs : List Hd) : ∀ u ∈ hs xs, u.oneCell' = true := by
  intro u hu
  obtain ⟨x, _, hx⟩ := List.mem_flatMap.1 hu
  simp [Hd.vals] at hx
  rcases hx with rfl | rfl | rfl <;> rfl
theorem ss_one (xs : List ByteArray) : ∀ u ∈ ss xs, u.oneCell' = true := by
  intro u hu
  obtain ⟨x, _, hx⟩ := List.mem_map.1 hu
  subst hx
  rfl
theorem rs_news {w : World} {ao : Option Addr} {n : Nat} {cs : List Value} (h : Rs w ao n cs) (h0 : n = 0 → cs = []) : ∀ ad, ao = some ad → ∀ j u, cs[j]? = some u → w.cell? (ad.add j) = some u := by
  intro ad had j u hj
  rcases h.ex with q | ⟨g, e, hg, hc⟩
  · rw [h0 q] at hj; simp at hj
  · rw [e] at had
    cases had
    have hl : j < cs.length := by
      rcases Nat.lt_or_ge j cs.length with q | q
      · exact q
      · rw [List.getElem?_eq_none q] at hj; simp at hj
    have ea : (⟨g, 0, none⟩ : Addr).add j = ⟨g, j, none⟩ := by unfold Addr.add; split <;> simp_all
    rw [ea, hc j hl, hj]
theorem rows_ne7 {w : World} {b b' : Nat} {e e' : TypeId} {sz sz' n n' : Nat} {v v' : Value} {xs xs' : List Value} (h : w.ownsRow b e sz v n xs) (h' : w.ownsRow b' e' sz' v' n' xs') (hne : e ≠ e') : v.ownBlock = none ∨ v.ownBlock ≠ v'.ownBlock := by
  rcases h.2 with ⟨rfl, _⟩ | ⟨g, cap, cur, rfl, _, hg, _⟩
  · exact .inl rfl
  right
  rcases h'.2 with ⟨rfl, _⟩ | ⟨g', cap', cur', rfl, _, hg', _⟩
  · simp [Value.ownBlock]
  · intro e2
    simp only [Value.ownBlock, Option.some.injEq] at e2
    subst e2
    rw [hg] at hg'
    simp at hg'
    exact hne hg'.2
theorem own0 (e : TypeId) (size : Nat) (W : World) (base : Nat) (hb : base ≤ W.heap.size) (H : Nat) (hH : W.heap.size = H) : (W.alloc (.cells #[] e)).ownsRow base e size (.slice (some ⟨H, 0, none⟩) 0 0) 0 [] := by
  subst hH
  exact World.ownsRow_lit W #[] 0 hb (Nat.zero_le _) (by simp)
end Go.Proofs.Ytldlpohkpmapcaa.mk

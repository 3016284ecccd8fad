/-
  TWELVE TICKS: how often a part is sent (plain).
-/
import Derived.Test.YtfeknhopjgpbfaaSdP
namespace Go.Proofs.Ytfeknhopjgpbfaa.mk
open Go.RowKit
set_option linter.unusedVariables false

theorem snt_place (b : Nat) (xs : List It) (K : Nat) : ∀ (i : Nat) (h : i < (snt b xs K).length), ∃ (q : Nat) (hq : q < xs.length), q < K ∧ fires xs[q] ∧ (snt b xs K)[i] = ((b + q : Nat) : Int) := by
  induction K with
  | zero => intro i h; simp [snt] at h
  | succ K ih =>
    intro i h
    by_cases hK : K < xs.length
    · by_cases hf : fires xs[K]
      · have e := snt_yes b xs K hK hf
        by_cases hi : i < (snt b xs K).length
        · obtain ⟨q, hq, h1, h2, h3⟩ := ih i hi
          refine ⟨q, hq, by omega, h2, ?_⟩
          rw [← h3]
          simp only [e, List.getElem_append_left hi]
        · refine ⟨K, hK, by omega, hf, ?_⟩
          have hl : i = (snt b xs K).length := by rw [e] at h; simp at h; omega
          subst hl
          simp only [e, List.getElem_append_right (Nat.le_refl _), Nat.sub_self, List.getElem_cons_zero]
      · have e := snt_no b xs K hK hf
        rw [e] at h
        obtain ⟨q, hq, h1, h2, h3⟩ := ih i h
        refine ⟨q, hq, by omega, h2, ?_⟩
        rw [← h3]
        simp only [e]
    · have e : snt b xs (K + 1) = snt b xs K := by simp [snt, hK]
      rw [e] at h
      obtain ⟨q, hq, h1, h2, h3⟩ := ih i h
      refine ⟨q, hq, by omega, h2, ?_⟩
      rw [← h3]
      simp only [e]
theorem snt_asc (b : Nat) (xs : List It) (K : Nat) : ∀ (i j : Nat) (hi : i < (snt b xs K).length) (hj : j < (snt b xs K).length), i < j → (snt b xs K)[i] < (snt b xs K)[j] := by
  induction K with
  | zero => intro i j h; simp [snt] at h
  | succ K ih =>
    intro i j hi hj hij
    by_cases hK : K < xs.length
    · by_cases hf : fires xs[K]
      · have e := snt_yes b xs K hK hf
        have hj' : j ≤ (snt b xs K).length := by rw [e] at hj; simp at hj; omega
        have hi' : i < (snt b xs K).length := by omega
        simp only [e, List.getElem_append_left hi']
        by_cases hjl : j < (snt b xs K).length
        · simp only [List.getElem_append_left hjl]
          exact ih i j hi' hjl hij
        · have hl : j = (snt b xs K).length := by omega
          subst hl
          simp only [List.getElem_append_right (Nat.le_refl _), Nat.sub_self, List.getElem_cons_zero]
          obtain ⟨q, hq, h1, h2, h3⟩ := snt_place b xs K i hi'
          rw [h3]
          omega
      · have e := snt_no b xs K hK hf
        simp only [e] at hi hj ⊢
        exact ih i j hi hj hij
    · have e : snt b xs (K + 1) = snt b xs K := by simp [snt, hK]
      simp only [e] at hi hj ⊢
      exact ih i j hi hj hij
theorem snt_all (b : Nat) (xs : List It) (K q : Nat) (hq : q < xs.length) (hK : q < K) (hf : fires xs[q]) : ∃ j : Nat, (snt b xs K)[j]? = some ((b + q : Nat) : Int) := by
  induction K with
  | zero => omega
  | succ K ih =>
    by_cases e : q = K
    · subst e
      exact ⟨(snt b xs q).length, by rw [snt_yes b xs q hq hf]; simp⟩
    · obtain ⟨j, hj⟩ := ih (by omega)
      refine ⟨j, ?_⟩
      have hl : j < (snt b xs K).length := (List.getElem?_eq_some_iff.1 hj).1
      unfold snt
      rw [List.getElem?_append_left hl]
      exact hj
/-- what is known of an item ahead of tick i: t times it was sent, the last time at l -/
def Tm (i : Int) (x : It) (t l : Int) : Prop :=
  x.has = false → (x.since = -1 ∧ i = 0 ∧ t = 0) ∨ (0 ≤ x.since ∧ x.since ≤ 3 ∧ 0 ≤ t ∧ i ≤ 4 * t + x.since ∧ 4 * t + x.since ≤ i + 3 ∧ (0 < t → l = i - 1 - x.since))
theorem Tm.start {x : It} (h : -1 ≤ x.since) (h3 : x.since ≤ 3) (l : Int) : Tm 0 x 0 l := by
  intro _
  by_cases e : x.since = -1
  · exact .inl ⟨e, rfl, rfl⟩
  · exact .inr ⟨by omega, h3, by omega, by omega, by omega, fun h => by omega⟩
theorem Tm.fire {i : Int} {x : It} {t l : Int} (h : Tm i x t l) (hi : 0 ≤ i) (hf : fires x) : (0 < t → i - l = 4) ∧ Tm (i + 1) (tickIt x) (t + 1) i := by
  have e := tick_fires hf
  unfold fires at hf
  rcases h hf.1 with ⟨h1, h2, h3⟩ | ⟨h1, h2, h3, h4, h5, h6⟩
  · refine ⟨fun q => by omega, fun _ => .inr ?_⟩
    rw [e]
    dsimp only
    exact ⟨by omega, by omega, by omega, by omega, by omega, fun _ => by omega⟩
  · have hs : x.since = 3 := by omega
    refine ⟨fun q => by have := h6 q; omega, fun _ => .inr ?_⟩
    rw [e]
    dsimp only
    exact ⟨by omega, by omega, by omega, by omega, by omega, fun _ => by omega⟩
theorem Tm.wait {i : Int} {x : It} {t l : Int} (h : Tm i x t l) (hf : ¬ fires x) : Tm (i + 1) (tickIt x) t l := by
  cases hh : x.has with
  | true =>
    rw [tick_has hh]
    intro q
    rw [hh] at q
    cases q
  | false =>
    have hn : ¬ (x.since = -1 ∨ x.since = 3) := fun q => hf ⟨hh, q⟩
    rcases h hh with ⟨h1, h2, h3⟩ | ⟨h1, h2, h3, h4, h5, h6⟩
    · exact absurd (.inl h1) hn
    · rw [tick_older hh hn]
      intro _
      dsimp only
      refine .inr ⟨by omega, by omega, h3, by omega, by omega, fun q => ?_⟩
      have := h6 q
      omega
theorem Tm.three {x : It} {t l : Int} (h : Tm 12 x t l) (hh : x.has = false) : t = 3 := by
  rcases h hh with ⟨h1, h2, h3⟩ | ⟨h1, h2, h3, h4, h5, h6⟩ <;> omega
def TmAll (i : Int) (zs : List It) (T L : List Int) : Prop := T.length = 8 ∧ L.length = 8 ∧ ∀ p (h : p < zs.length), p < 8 → Tm i zs[p] (T[p]?.getD 0) (L[p]?.getD 0)
theorem TmAll.start {b : Int} {zs : List It} (h : sdOk b zs = true) : TmAll 0 zs [0, 0, 0, 0, 0, 0, 0, 0] [0, 0, 0, 0, 0, 0, 0, 0] := by
  refine ⟨rfl, rfl, fun p hp h8 => ?_⟩
  have q := (sdOk_of h).2 p hp
  have e : ([0, 0, 0, 0, 0, 0, 0, 0] : List Int)[p]?.getD 0 = 0 := by
    rcases (by omega : p = 0 ∨ p = 1 ∨ p = 2 ∨ p = 3 ∨ p = 4 ∨ p = 5 ∨ p = 6 ∨ p = 7) with rfl | rfl | rfl | rfl | rfl | rfl | rfl | rfl <;> rfl
  rw [e]
  exact Tm.start q.2.1 q.2.2.1 _
/-- of the places that were sent the first k are counted -/
def Cnt (b : Nat) (S : List Int) (k : Nat) (i : Int) (T L T' L' : List Int) : Prop :=
  T'.length = 8 ∧ L'.length = 8 ∧ ∀ p, p < 8 → ((∃ j, j < k ∧ S[j]? = some ((b + p : Nat) : Int)) → T'[p]? = some (T[p]?.getD 0 + 1) ∧ L'[p]? = some i) ∧ ((¬ ∃ j, j < k ∧ S[j]? = some ((b + p : Nat) : Int)) → T'[p]? = T[p]? ∧ L'[p]? = L[p]?)
theorem Cnt.start (b : Nat) (S : List Int) (i : Int) {T L : List Int} (hT : T.length = 8) (hL : L.length = 8) : Cnt b S 0 i T L T L :=
  ⟨hT, hL, fun p hp => ⟨fun ⟨j, hj, _⟩ => by omega, fun _ => ⟨rfl, rfl⟩⟩⟩
theorem Cnt.step {b : Nat} {xs : List It} {K k q : Nat} {i : Int} {T L T' L' : List Int} (h : Cnt b (snt b xs K) k i T L T' L') (hk : k < (snt b xs K).length) (hq : (snt b xs K)[k] = ((b + q : Nat) : Int)) (h8 : q < 8) :
    T'[q]? = T[q]? ∧ L'[q]? = L[q]? ∧ Cnt b (snt b xs K) (k + 1) i T L (T'.set q (T[q]?.getD 0 + 1)) (L'.set q i) := by
  have hn : ¬ ∃ j, j < k ∧ (snt b xs K)[j]? = some ((b + q : Nat) : Int) := by
    rintro ⟨j, hj, e⟩
    have hjl : j < (snt b xs K).length := by omega
    rw [List.getElem?_eq_getElem hjl] at e
    have e2 := Option.some.inj e
    have := snt_asc b xs K j k hjl hk hj
    omega
  obtain ⟨hT, hL, hp⟩ := h
  obtain ⟨e1, e2⟩ := (hp q h8).2 hn
  refine ⟨e1, e2, by rw [List.length_set]; exact hT, by rw [List.length_set]; exact hL, fun p hp8 => ⟨?_, ?_⟩⟩
  · rintro ⟨j, hj, e⟩
    by_cases epq : p = q
    · subst epq
      exact ⟨by rw [List.getElem?_set_self (by omega)], by rw [List.getElem?_set_self (by omega)]⟩
    · have hjk : j ≠ k := by
        rintro rfl
        rw [List.getElem?_eq_getElem hk] at e
        have e2 := Option.some.inj e
        omega
      rw [List.getElem?_set_ne (by omega), List.getElem?_set_ne (by omega)]
      exact (hp p hp8).1 ⟨j, by omega, e⟩
  · intro hno
    have epq : p ≠ q := by
      rintro rfl
      exact hno ⟨k, by omega, by rw [List.getElem?_eq_getElem hk, hq]⟩
    rw [List.getElem?_set_ne (by omega), List.getElem?_set_ne (by omega)]
    exact (hp p hp8).2 (fun ⟨j, hj, e⟩ => hno ⟨j, by omega, e⟩)
theorem TmAll.next {b : Nat} {zs : List It} {i : Int} {T L T' L' : List Int} (h : TmAll i zs T L) (hi : 0 ≤ i) (hc : Cnt b (snt b zs (min 8 zs.length)) (snt b zs (min 8 zs.length)).length i T L T' L') : TmAll (i + 1) (tkn (min 8 zs.length) zs) T' L' := by
  obtain ⟨hT, hL, hp⟩ := hc
  refine ⟨hT, hL, fun p hpl h8 => ?_⟩
  rw [tkn_length] at hpl
  rw [tkn_low _ zs p hpl (by omega)]
  have ht := h.2.2 p hpl h8
  by_cases hf : fires zs[p]
  · obtain ⟨j, hj⟩ := snt_all b zs (min 8 zs.length) p hpl (by omega) hf
    obtain ⟨e1, e2⟩ := (hp p h8).1 ⟨j, (List.getElem?_eq_some_iff.1 hj).1, hj⟩
    rw [e1, e2]
    exact (ht.fire hi hf).2
  · obtain ⟨e1, e2⟩ := (hp p h8).2 (by
      rintro ⟨j, hj, e⟩
      obtain ⟨q, hq, h1, h2, h3⟩ := snt_place b zs (min 8 zs.length) j hj
      rw [List.getElem?_eq_getElem hj, h3] at e
      have e2 := Option.some.inj e
      have : q = p := by omega
      subst this
      exact hf h2)
    rw [e1, e2]
    exact ht.wait hf
theorem place_of {b K : Nat} {xs : List It} {S : List Int} (hS : S = snt b xs K) (i : Nat) (h : i < S.length) : ∃ (q : Nat) (hq : q < xs.length), q < K ∧ fires xs[q] ∧ S[i] = ((b + q : Nat) : Int) := by
  subst hS
  exact snt_place b xs K i h
theorem asc_of {b K : Nat} {xs : List It} {S : List Int} (hS : S = snt b xs K) (i j : Nat) (hi : i < S.length) (hj : j < S.length) (hij : i < j) : S[i] < S[j] := by
  subst hS
  exact snt_asc b xs K i j hi hj hij
theorem cnt_step {b K k q : Nat} {xs : List It} {S : List Int} {i : Int} {T L T' L' : List Int} (hS : S = snt b xs K) (h : Cnt b S k i T L T' L') (hk : k < S.length) (hq : S[k] = ((b + q : Nat) : Int)) (h8 : q < 8) :
    T'[q]? = T[q]? ∧ L'[q]? = L[q]? ∧ Cnt b S (k + 1) i T L (T'.set q (T[q]?.getD 0 + 1)) (L'.set q i) := by
  subst hS
  exact h.step hk hq h8
theorem cnt_end {b : Nat} {zs us : List It} {S : List Int} {i : Int} {T L T' L' : List Int} (hS : S = snt b zs (min 8 zs.length)) (hU : us = tkn (min 8 zs.length) zs) (h : TmAll i zs T L) (hi : 0 ≤ i) (hc : Cnt b S S.length i T L T' L') : TmAll (i + 1) us T' L' := by
  subst hS hU
  exact h.next hi hc
theorem Tm.few {i : Int} {x : It} {t l : Int} (h : Tm i x t l) (hf : fires x) (hi : 0 ≤ i) (h12 : i ≤ 12) : 0 ≤ t ∧ t ≤ 4 := by
  rcases h hf.1 with ⟨h1, h2, h3⟩ | ⟨h1, h2, h3, h4, h5, h6⟩ <;> omega
end Go.Proofs.Ytfeknhopjgpbfaa.mk

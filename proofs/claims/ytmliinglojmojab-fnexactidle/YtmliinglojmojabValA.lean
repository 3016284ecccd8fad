/-
  VALID SENDS: spec.ValidSend and impl.ValidSend.
-/
import Derived.Test.YtmliinglojmojabBase
namespace Go.Proofs.Ytmliinglojmojab.mk
open Go.RowKit
set_option linter.unusedVariables false

def ItOk (i : Nat) (x : It) : Prop := x.text.size ≤ 20 ∧ -1 ≤ x.since ∧ x.since ≤ 3 ∧ (i < 8 ∨ x.since = -1) ∧ (x.has = false ∨ 0 ≤ x.since)
instance (i : Nat) (x : It) : Decidable (ItOk i x) := by unfold ItOk; infer_instance
def HdOk (b : Int) (n : Nat) : Prop := 0 ≤ b ∧ b ≤ 1000000 ∧ n ≤ 60 ∧ b + n ≤ 1000000
instance (b : Int) (n : Nat) : Decidable (HdOk b n) := by unfold HdOk; infer_instance
def SdOk (b : Int) (xs : List It) : Prop := HdOk b xs.length ∧ ∀ i (h : i < xs.length), ItOk i xs[i]
open Classical in
noncomputable def sdOk (b : Int) (xs : List It) : Bool := decide (SdOk b xs)
theorem sdOk_yes {b : Int} {xs : List It} (h : SdOk b xs) : sdOk b xs = true := by simp [sdOk, h]
theorem sdOk_no {b : Int} {xs : List It} (h : ¬ SdOk b xs) : sdOk b xs = false := by simp [sdOk, h]
theorem sdOk_of {b : Int} {xs : List It} (h : sdOk b xs = true) : SdOk b xs := by simpa [sdOk] using h
theorem ret_b {a b : Bool} (h : a = b) : Ending.returned (.bool a) = .returned (.bool b) := by rw [h]
theorem l1In_true (n lo hi : Int) (w : World) (h1 : lo ≤ n) (h2 : n ≤ hi) : Calls Try.prog 24 #[.int .i64 n, .int .i64 lo, .int .i64 hi] w fun e w' => e = .returned (.bool true) ∧ w = w' := by
  go_enter Try.func24, Try.ntmps24
  go_wp2
  go_ret
  exact ⟨ret_b (by simp), rfl⟩
theorem l1In_false (n lo hi : Int) (w : World) (h : n < lo ∨ hi < n) : Calls Try.prog 24 #[.int .i64 n, .int .i64 lo, .int .i64 hi] w fun e w' => e = .returned (.bool false) ∧ w = w' := by
  by_cases h1 : lo ≤ n
  · have h2 : hi < n := by omega
    clear h
    go_enter Try.func24, Try.ntmps24
    go_wp2
    go_ret
    exact ⟨ret_b (by simp; omega), rfl⟩
  · clear h
    go_enter Try.func24, Try.ntmps24
    go_wp2
    go_ret
    exact ⟨ret_b rfl, rfl⟩
theorem within_true (n lo hi : Int) (w : World) (h1 : lo ≤ n) (h2 : n ≤ hi) : Calls Try.prog 61 #[.int .i64 n, .int .i64 lo, .int .i64 hi] w fun e w' => e = .returned (.bool true) ∧ w = w' := by
  go_enter Try.func61, Try.ntmps61
  go_wp2
  go_ret
  exact ⟨ret_b (by simp), rfl⟩
theorem within_false (n lo hi : Int) (w : World) (h : n < lo ∨ hi < n) : Calls Try.prog 61 #[.int .i64 n, .int .i64 lo, .int .i64 hi] w fun e w' => e = .returned (.bool false) ∧ w = w' := by
  by_cases h1 : lo ≤ n
  · have h2 : hi < n := by omega
    clear h
    go_enter Try.func61, Try.ntmps61
    go_wp2
    go_ret
    exact ⟨ret_b (by simp; omega), rfl⟩
  · clear h
    go_enter Try.func61, Try.ntmps61
    go_wp2
    go_ret
    exact ⟨ret_b rfl, rfl⟩
set_option maxHeartbeats 1000000 in
theorem specValid_any (b : Int) (ao : Option Addr) (cap : Nat) (xs : List It) (w : World) (hm : xs.length ≤ 1048576) (hz : ∀ i (h : i < xs.length), xs[i].text.size ≤ 1048576) (hr : Rs w ao xs.length (is xs)) :
    Calls Try.prog 39 #[.agg #[.int .i64 b, .slice ao xs.length cap]] w fun e w' => e = .returned (.bool (sdOk b xs)) ∧ Below w.heap.size w w' := by
  by_cases h1 : 60 < xs.length
  · go_enter Try.func39, Try.ntmps39
    go_wp2
    go_ret
    exact ⟨ret_b (by rw [sdOk_no (fun h => by have := h.1; unfold HdOk at this; omega)]), (Below.refl _ _).alloc (Nat.le_refl _) _⟩
  by_cases h2 : b < 0 ∨ 1000000 < b
  · go_enter Try.func39, Try.ntmps39
    go_wp2_with (go_at_call 24; first | (refine (l1In_true _ _ _ _ (by omega) (by omega)).mono ?_; rintro e w' ⟨rfl, rfl⟩) | (refine (l1In_false _ _ _ _ (by omega)).mono ?_; rintro e w' ⟨rfl, rfl⟩))
    go_ret
    exact ⟨ret_b (by rw [sdOk_no (fun h => by have := h.1; unfold HdOk at this; omega)]), (Below.refl _ _).alloc (Nat.le_refl _) _⟩
  by_cases h3 : 1000000 < b + xs.length
  · go_enter Try.func39, Try.ntmps39
    go_wp2_with (go_at_call 24; first | (refine (l1In_true _ _ _ _ (by omega) (by omega)).mono ?_; rintro e w' ⟨rfl, rfl⟩) | (refine (l1In_false _ _ _ _ (by omega)).mono ?_; rintro e w' ⟨rfl, rfl⟩))
    go_ret
    exact ⟨ret_b (by rw [sdOk_no (fun h => by have := h.1; unfold HdOk at this; omega)]), (Below.refl _ _).alloc (Nat.le_refl _) _⟩
  have HH : Hid (HdOk b xs.length) := (by unfold HdOk; omega : HdOk b xs.length)
  have HR : Hid (Rs w ao xs.length (is xs)) := hr
  have HZ : Hid (∀ i (h : i < xs.length), xs[i].text.size ≤ 1048576) := hz
  clear hr hz
  go_enter Try.func39, Try.ntmps39
  go_wp2_with (go_at_call 24; first | (refine (l1In_true _ _ _ _ (by omega) (by omega)).mono ?_; rintro e w' ⟨rfl, rfl⟩) | (refine (l1In_false _ _ _ _ (by omega)).mono ?_; rintro e w' ⟨rfl, rfl⟩))
  have hb0 : Below w.heap.size w (w.alloc (.cells #[.int .i64 b, .slice ao xs.length cap] 42)) := (Below.refl _ _).alloc (Nat.le_refl _) _
  go_loopw [3] (fun i wr => ∃ k : Nat, k ≤ xs.length ∧ i = .int .i64 k ∧ (∀ j (h : j < xs.length), j < k → ItOk j xs[j]) ∧ Below (w.heap.size + 1) (w.alloc (.cells #[.int .i64 b, .slice ao xs.length cap] 42)) wr) (fun i _ => xs.length - (intOf i).toNat)
  case atStart => exact ⟨0, Nat.zero_le _, rfl, fun j _ h => absurd h (by omega), Below.refl _ _⟩
  case round =>
    obtain ⟨k, hk, rfl, hall, hbel⟩ := hrel
    have hbel0 : Below w.heap.size w wr := hb0.trans (hbel.mono (by omega))
    have c1 : wr.cell? ⟨w.heap.size, 1, none⟩ = some (.slice ao xs.length cap) := by
      rw [hbel.cell (p := ⟨w.heap.size, 1, none⟩) (by show _ < _; simp)]; simp [go_sem]
    have HL : Hid (∀ j (h : j < xs.length), j < k → ItOk j xs[j]) := hall
    clear hall
    have hwr : w.heap.size < wr.heap.size := by have := hbel.size; simp at this; omega
    by_cases hlt : k < xs.length
    · rcases HR.out.ex with h | ⟨g, rfl, hg, hgc⟩
      · omega
      obtain ⟨a0, a1, a2, a3⟩ := Rs.item (n := 0) hg hgc hbel0 k hlt
      have hsz := HZ.out k hlt
      clear hgc
      have HI : Hid (ItOk k xs[k] ↔ ItOk k ⟨xs[k].text, xs[k].last, xs[k].has, xs[k].since⟩) := Iff.rfl
      generalize hs : xs[k].text = s at *
      generalize xs[k].last = l at *
      generalize xs[k].has = hh at *
      generalize xs[k].since = n at *
      clear hs
      by_cases hok : ItOk k ⟨s, l, hh, n⟩
      · have q := hok
        unfold ItOk at q
        obtain ⟨q1, q2, q3, q4, q5⟩ := q
        dsimp only at q1 q2 q3 q4 q5
        have HN : Hid (∀ j (h : j < xs.length), j < k + 1 → ItOk j xs[j]) := fun j h hj => by
          rcases Nat.lt_or_ge j k with h1 | h1
          · exact HL.out j h h1
          · obtain rfl : j = k := by omega
            exact HI.out.2 hok
        clear hok
        rcases q4 with q4 | q4
        all_goals rcases q5 with q5 | q5
        all_goals first | (exfalso; omega) | skip
        all_goals go_wp2_with (go_at_call 24; first | (refine (l1In_true _ _ _ _ (by omega) (by omega)).mono ?_; rintro e w' ⟨rfl, rfl⟩) | (refine (l1In_false _ _ _ _ (by omega)).mono ?_; rintro e w' ⟨rfl, rfl⟩))
        all_goals refine ⟨⟨k + 1, by omega, by go_num, HN.out, hbel.alloc (by omega) _⟩, by simp [intOf]; omega⟩
      · have HF : Hid (sdOk b xs = false) := sdOk_no (fun h => hok (HI.out.1 (h.2 k hlt)))
        have hcase : 20 < s.size ∨ (s.size ≤ 20 ∧ (n < -1 ∨ 3 < n)) ∨ (s.size ≤ 20 ∧ -1 ≤ n ∧ n ≤ 3 ∧ 8 ≤ k ∧ n ≠ -1) ∨ (s.size ≤ 20 ∧ n = -1 ∧ hh = true) := by
          unfold ItOk at hok
          dsimp only at hok
          cases hh
          · simp only [true_or, and_true] at hok
            omega
          · simp only [Bool.true_eq_false, false_or] at hok
            simp only [and_true]
            omega
        clear hok HI HL
        rcases hcase with e | ⟨e0, e⟩ | ⟨e0, e1, e2, e3, e4⟩ | ⟨e0, e1, e2⟩
        · go_wp2_with (go_at_call 24; first | (refine (l1In_true _ _ _ _ (by omega) (by omega)).mono ?_; rintro e w' ⟨rfl, rfl⟩) | (refine (l1In_false _ _ _ _ (by omega)).mono ?_; rintro e w' ⟨rfl, rfl⟩))
          go_ret
          exact ⟨ret_b (by rw [HF.out]), hbel0.alloc (by omega) _⟩
        · go_wp2_with (go_at_call 24; first | (refine (l1In_true _ _ _ _ (by omega) (by omega)).mono ?_; rintro e w' ⟨rfl, rfl⟩) | (refine (l1In_false _ _ _ _ (by omega)).mono ?_; rintro e w' ⟨rfl, rfl⟩))
          go_ret
          exact ⟨ret_b (by rw [HF.out]), hbel0.alloc (by omega) _⟩
        · go_wp2_with (go_at_call 24; first | (refine (l1In_true _ _ _ _ (by omega) (by omega)).mono ?_; rintro e w' ⟨rfl, rfl⟩) | (refine (l1In_false _ _ _ _ (by omega)).mono ?_; rintro e w' ⟨rfl, rfl⟩))
          go_ret
          exact ⟨ret_b (by rw [HF.out]), hbel0.alloc (by omega) _⟩
        · subst e1 e2
          go_wp2_with (go_at_call 24; first | (refine (l1In_true _ _ _ _ (by omega) (by omega)).mono ?_; rintro e w' ⟨rfl, rfl⟩) | (refine (l1In_false _ _ _ _ (by omega)).mono ?_; rintro e w' ⟨rfl, rfl⟩))
          all_goals go_ret
          all_goals exact ⟨ret_b (by rw [HF.out]), hbel0.alloc (by omega) _⟩
    · obtain rfl : k = xs.length := by omega
      go_wp2
      go_ret
      exact ⟨ret_b (by rw [sdOk_yes ⟨HH.out, fun i h => HL.out i h h⟩]), hbel0⟩
end Go.Proofs.Ytmliinglojmojab.mk

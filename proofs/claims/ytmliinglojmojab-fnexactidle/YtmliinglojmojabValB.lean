/-
  VALID SENDS: impl.ValidSend.
-/
import Derived.Test.YtmliinglojmojabValA
namespace Go.Proofs.Ytmliinglojmojab.mk
open Go.RowKit
set_option linter.unusedVariables false
theorem wasSent_any (s : ByteArray) (l hh : Bool) (n : Int) (w : World) :
    Calls Try.prog 79 #[.agg #[.string s, .bool l, .bool hh, .int .i64 n]] w fun e w' => e = .returned (.bool (!(n == -1))) ∧ Below w.heap.size w w' := by
  go_enter Try.func79, Try.ntmps79
  go_wp2
  go_ret
  exact ⟨rfl, (Below.refl _ _).alloc (Nat.le_refl _) _⟩
theorem wasSent_yes (s : ByteArray) (l hh : Bool) (n : Int) (w : World) (h : n ≠ -1) :
    Calls Try.prog 79 #[.agg #[.string s, .bool l, .bool hh, .int .i64 n]] w fun e w' => e = .returned (.bool true) ∧ Below w.heap.size w w' := by
  have h' : (n == -1) = false := by simpa using h
  have := wasSent_any s l hh n w
  rw [h'] at this
  exact this
theorem wasSent_no (s : ByteArray) (l hh : Bool) (w : World) :
    Calls Try.prog 79 #[.agg #[.string s, .bool l, .bool hh, .int .i64 (-1)]] w fun e w' => e = .returned (.bool false) ∧ Below w.heap.size w w' := wasSent_any s l hh (-1) w
theorem it_big {k : Nat} {s : ByteArray} {l hh : Bool} {n : Int} (h : 20 < s.size) : decide (ItOk k ⟨s, l, hh, n⟩) = false := decide_eq_false fun q => by have := q.1; dsimp only at this; omega
theorem it_far {k : Nat} {s : ByteArray} {l hh : Bool} {n : Int} (h : n < -1 ∨ 3 < n) : decide (ItOk k ⟨s, l, hh, n⟩) = false := decide_eq_false fun q => by have h1 := q.2.1; have h2 := q.2.2.1; dsimp only at h1 h2; omega
theorem it_never {k : Nat} {s : ByteArray} {l hh : Bool} (h : ¬ 20 < s.size) : decide (ItOk k ⟨s, l, hh, -1⟩) = !hh := by
  have : s.size ≤ 20 := by omega
  cases hh <;> simp [ItOk, this]
theorem it_sent {k : Nat} {s : ByteArray} {l hh : Bool} {n : Int} (h : ¬ 20 < s.size) (h2 : ¬ (n < -1 ∨ 3 < n)) (h3 : n ≠ -1) : decide (ItOk k ⟨s, l, hh, n⟩) = decide ((k : Int) < 8) := by
  have h0 : s.size ≤ 20 := by omega
  have h4 : -1 ≤ n := by omega
  have h5 : n ≤ 3 := by omega
  have h6 : 0 ≤ n := by omega
  simp [ItOk, h0, h3, h4, h5, h6]
  omega
theorem validAt_any (s : ByteArray) (l hh : Bool) (n : Int) (k : Nat) (w : World) (hsz : s.size ≤ 1048576) (hk : k ≤ 1000000) :
    Calls Try.prog 73 #[.agg #[.string s, .bool l, .bool hh, .int .i64 n], .int .i64 k] w fun e w' => e = .returned (.bool (decide (ItOk k ⟨s, l, hh, n⟩))) ∧ Below w.heap.size w w' := by
  have hb0 : ∀ o : Obj, Below w.heap.size w (w.alloc o) := fun o => (Below.refl _ _).alloc (Nat.le_refl _) _
  have HB : Hid (∀ o : Obj, Below w.heap.size w (w.alloc o)) := hb0
  clear hb0
  obtain ⟨D, hD⟩ : ∃ D, D = decide (ItOk k ⟨s, l, hh, n⟩) := ⟨_, rfl⟩
  rw [← hD]
  have HD : Hid (D = decide (ItOk k ⟨s, l, hh, n⟩)) := hD
  clear hD
  by_cases e1 : 20 < s.size
  · go_enter Try.func73, Try.ntmps73
    go_wp2
    go_ret
    exact ⟨ret_b (by rw [HD.out, it_big e1]), HB.out _⟩
  by_cases e2 : n < -1 ∨ 3 < n
  · go_enter Try.func73, Try.ntmps73
    go_wp2_with (go_at_call 61; first | (refine (within_true _ _ _ _ (by omega) (by omega)).mono ?_; rintro e w' ⟨rfl, rfl⟩) | (refine (within_false _ _ _ _ (by omega)).mono ?_; rintro e w' ⟨rfl, rfl⟩))
    go_ret
    exact ⟨ret_b (by rw [HD.out, it_far e2]), HB.out _⟩
  by_cases e3 : n = -1
  · subst e3
    go_enter Try.func73, Try.ntmps73
    go_wp2_with (first | (go_at_call 61; first | (refine (within_true _ _ _ _ (by omega) (by omega)).mono ?_; rintro e w' ⟨rfl, rfl⟩) | (refine (within_false _ _ _ _ (by omega)).mono ?_; rintro e w' ⟨rfl, rfl⟩)) | (go_at_call 79; refine (wasSent_no _ _ _ _).mono ?_; rintro e w1 ⟨rfl, hb1⟩; (have d2 := hb1.cell (p := ⟨w.heap.size, 2, none⟩) (by simp)); simp [go_sem] at d2))
    go_ret
    exact ⟨ret_b (by rw [HD.out, it_never e1]), (HB.out _).trans (hb1.mono (by simp))⟩
  · go_enter Try.func73, Try.ntmps73
    go_wp2_with (first | (go_at_call 61; first | (refine (within_true _ _ _ _ (by omega) (by omega)).mono ?_; rintro e w' ⟨rfl, rfl⟩) | (refine (within_false _ _ _ _ (by omega)).mono ?_; rintro e w' ⟨rfl, rfl⟩)) | (go_at_call 79; refine (wasSent_yes _ _ _ _ _ e3).mono ?_; rintro e w1 ⟨rfl, hb1⟩))
    go_ret
    exact ⟨ret_b (by rw [HD.out, it_sent e1 e2 e3]), (HB.out _).trans (hb1.mono (by simp))⟩
set_option maxHeartbeats 1000000 in
theorem implValid_any (b : Int) (ao : Option Addr) (cap : Nat) (xs : List It) (w : World) (hm : xs.length ≤ 1048576) (hz : ∀ i (h : i < xs.length), xs[i].text.size ≤ 1048576) (hr : Rs w ao xs.length (is xs)) :
    Calls Try.prog 64 #[.agg #[.int .i64 b, .slice ao xs.length cap]] w fun e w' => e = .returned (.bool (sdOk b xs)) ∧ Below w.heap.size w w' := by
  by_cases h2 : b < 0 ∨ 1000000 < b
  · go_enter Try.func64, Try.ntmps64
    go_wp2_with (go_at_call 61; first | (refine (within_true _ _ _ _ (by omega) (by omega)).mono ?_; rintro e w' ⟨rfl, rfl⟩) | (refine (within_false _ _ _ _ (by omega)).mono ?_; rintro e w' ⟨rfl, rfl⟩))
    go_ret
    exact ⟨ret_b (by rw [sdOk_no (fun h => by have := h.1; unfold HdOk at this; omega)]), (Below.refl _ _).alloc (Nat.le_refl _) _⟩
  by_cases h1 : 60 < xs.length
  · go_enter Try.func64, Try.ntmps64
    go_wp2_with (go_at_call 61; first | (refine (within_true _ _ _ _ (by omega) (by omega)).mono ?_; rintro e w' ⟨rfl, rfl⟩) | (refine (within_false _ _ _ _ (by omega)).mono ?_; rintro e w' ⟨rfl, rfl⟩))
    go_ret
    exact ⟨ret_b (by rw [sdOk_no (fun h => by have := h.1; unfold HdOk at this; omega)]), (Below.refl _ _).alloc (Nat.le_refl _) _⟩
  by_cases h3 : 1000000 < b + xs.length
  · go_enter Try.func64, Try.ntmps64
    go_wp2_with (go_at_call 61; first | (refine (within_true _ _ _ _ (by omega) (by omega)).mono ?_; rintro e w' ⟨rfl, rfl⟩) | (refine (within_false _ _ _ _ (by omega)).mono ?_; rintro e w' ⟨rfl, rfl⟩))
    go_ret
    exact ⟨ret_b (by rw [sdOk_no (fun h => by have := h.1; unfold HdOk at this; omega)]), (Below.refl _ _).alloc (Nat.le_refl _) _⟩
  have HH : Hid (HdOk b xs.length) := (by unfold HdOk; omega : HdOk b xs.length)
  have HR : Hid (Rs w ao xs.length (is xs)) := hr
  have HZ : Hid (∀ i (h : i < xs.length), xs[i].text.size ≤ 1048576) := hz
  clear hr hz
  go_enter Try.func64, Try.ntmps64
  go_wp2_with (go_at_call 61; first | (refine (within_true _ _ _ _ (by omega) (by omega)).mono ?_; rintro e w' ⟨rfl, rfl⟩) | (refine (within_false _ _ _ _ (by omega)).mono ?_; rintro e w' ⟨rfl, rfl⟩))
  have hb0 : Below w.heap.size w (w.alloc (.cells #[.int .i64 b, .slice ao xs.length cap] 42)) := (Below.refl _ _).alloc (Nat.le_refl _) _
  go_loopw [27] (fun i wr => ∃ k : Nat, k ≤ xs.length ∧ i = .int .i64 k ∧ (∀ j (h : j < xs.length), j < k → ItOk j xs[j]) ∧ Below w.heap.size w wr) (fun i _ => xs.length - (intOf i).toNat)
  case atStart => exact ⟨0, Nat.zero_le _, rfl, fun j _ h => absurd h (by omega), hb0⟩
  case round =>
    obtain ⟨k, hk, rfl, hall, hbel⟩ := hrel
    have HL : Hid (∀ j (h : j < xs.length), j < k → ItOk j xs[j]) := hall
    clear hall
    by_cases hlt : k < xs.length
    · rcases HR.out.ex with h | ⟨g, rfl, hg, hgc⟩
      · omega
      obtain ⟨a0, a1, a2, a3⟩ := Rs.item (n := 0) hg hgc hbel k hlt
      have hsz := HZ.out k hlt
      clear hgc
      have HI : Hid (ItOk k xs[k] ↔ ItOk k ⟨xs[k].text, xs[k].last, xs[k].has, xs[k].since⟩) := Iff.rfl
      generalize hs : xs[k].text = s at *
      generalize xs[k].last = l at *
      generalize xs[k].has = hh at *
      generalize xs[k].since = n at *
      clear hs
      by_cases hok : ItOk k ⟨s, l, hh, n⟩
      · have HN : Hid (∀ j (h : j < xs.length), j < k + 1 → ItOk j xs[j]) := fun j h hj => by
          rcases Nat.lt_or_ge j k with h1 | h1
          · exact HL.out j h h1
          · obtain rfl : j = k := by omega
            exact HI.out.2 hok
        have hd : decide (ItOk k ⟨s, l, hh, n⟩) = true := decide_eq_true hok
        have HC : Hid (∀ u : World, Calls Try.prog 73 #[.agg #[.string s, .bool l, .bool hh, .int .i64 n], .int .i64 k] u fun e u' => e = .returned (.bool true) ∧ Below u.heap.size u u') := fun u => by have := validAt_any s l hh n k u hsz (by omega); rw [hd] at this; exact this
        clear hok hd
        go_wp2_with (go_at_call 73; refine (HC.out _).mono ?_; rintro e w1 ⟨rfl, hb1⟩)
        refine ⟨⟨k + 1, by omega, by go_num, HN.out, kb (hbel.alloc hbel.size _) hb1 (Nat.le_refl _)⟩, by simp [intOf]; omega⟩
      · have HF : Hid (sdOk b xs = false) := sdOk_no (fun h => hok (HI.out.1 (h.2 k hlt)))
        have hd : decide (ItOk k ⟨s, l, hh, n⟩) = false := decide_eq_false hok
        have HC : Hid (∀ u : World, Calls Try.prog 73 #[.agg #[.string s, .bool l, .bool hh, .int .i64 n], .int .i64 k] u fun e u' => e = .returned (.bool false) ∧ Below u.heap.size u u') := fun u => by have := validAt_any s l hh n k u hsz (by omega); rw [hd] at this; exact this
        clear hok hd
        go_wp2_with (go_at_call 73; refine (HC.out _).mono ?_; rintro e w1 ⟨rfl, hb1⟩)
        go_ret
        exact ⟨ret_b (by rw [HF.out]), kb (hbel.alloc hbel.size _) hb1 (Nat.le_refl _)⟩
    · obtain rfl : k = xs.length := by omega
      go_wp2
      go_ret
      exact ⟨ret_b (by rw [sdOk_yes ⟨HH.out, fun i h => HL.out i h h⟩]), hbel⟩
end Go.Proofs.Ytmliinglojmojab.mk

/-
  WORDS: how many at the front have been sent: spec.l4Front, the ring's sentEnd.
-/
import Derived.Test.YteceaadmgpjmcaaTickA
import Derived.Test.YteceaadmgpjmcaaCopyA
namespace Go.Proofs.Yteceaadmgpjmcaa.mk
open Go.RowKit
set_option linter.unusedVariables false

def front : List It → Nat
  | [] => 0
  | x :: xs => if 0 ≤ x.since then front xs + 1 else 0
theorem front_le (xs : List It) : front xs ≤ xs.length := by
  induction xs with
  | nil => exact Nat.le_refl _
  | cons x xs ih => rw [front, List.length_cons]; split <;> omega
theorem front_at (xs : List It) (k : Nat) (h : k < xs.length) : front (xs.drop k) = if 0 ≤ xs[k].since then front (xs.drop (k + 1)) + 1 else 0 := by
  rw [List.drop_eq_getElem_cons h, front]
theorem front_end (xs : List It) : front (xs.drop xs.length) = 0 := by rw [List.drop_length, front]
set_option maxHeartbeats 1000000 in
theorem l4Front_any (b : Int) (ao : Option Addr) (cap : Nat) (xs : List It) (w : World) (hm : xs.length ≤ 1048576) (hr : Rs w ao xs.length (is xs)) :
    Calls Try.prog 63 #[.agg #[.int .i64 b, .slice ao xs.length cap]] w fun e w' => e = .returned (.int .i64 (front xs : Int)) ∧ Below w.heap.size w w' := by
  have HR : Hid (Rs w ao xs.length (is xs)) := hr
  have hbox := Bx.new w 38 #[.int .i64 b, .slice ao xs.length cap]
  have x1 := hbox.cell 1
  simp at x1
  clear hr
  go_enter Try.func63, Try.ntmps63
  go_wp2
  go_loopw [3] (fun i wr => ∃ k : Nat, k ≤ xs.length ∧ i = .int .i64 k ∧ k + front (xs.drop k) = front xs ∧ wr = (w.alloc (.cells #[.int .i64 b, .slice ao xs.length cap] 38))) (fun i _ => xs.length - (intOf i).toNat)
  case atStart => exact ⟨0, Nat.zero_le _, rfl, by simp, rfl⟩
  case round =>
    obtain ⟨k, hk, rfl, hfr, rfl⟩ := hrel
    have bel : Below w.heap.size w (w.alloc (.cells #[.int .i64 b, .slice ao xs.length cap] 38)) := (Below.refl _ _).alloc (Nat.le_refl _) _
    have HB : Hid (Below w.heap.size w (w.alloc (.cells #[.int .i64 b, .slice ao xs.length cap] 38))) := bel
    by_cases hlt : k < xs.length
    · rcases HR.out.ex with h | ⟨g, rfl, hg, hgc⟩
      · omega
      obtain ⟨c0, c1, c2, c3⟩ := is_at xs k hlt
      have hil := is_length xs
      have q3 : (w.alloc (.cells #[.int .i64 b, .slice (some ⟨g, 0, none⟩) xs.length cap] 38)).cell? ⟨g, k * 4 + 3, none⟩ = some (.int .i64 xs[k].since) := (bel.cell (p := ⟨g, k * 4 + 3, none⟩) hg).trans ((hgc _ (by omega)).trans c3)
      rw [front_at xs k hlt] at hfr
      clear c0 c1 c2 c3 hgc bel hil
      by_cases hs : 0 ≤ xs[k].since
      · rw [if_pos hs] at hfr
        have HF : Hid (k + (front (xs.drop (k + 1)) + 1) = front xs) := hfr
        clear hfr
        generalize xs[k].since = n at *
        go_wp2
        refine ⟨⟨k + 1, by omega, by go_num, by have := HF.out; omega, trivial⟩, by simp [intOf]; omega⟩
      · rw [if_neg hs] at hfr
        have HF : Hid (k + 0 = front xs) := hfr
        clear hfr
        generalize xs[k].since = n at *
        go_wp2
        go_ret
        exact ⟨by rw [← HF.out]; simp, HB.out⟩
    · obtain rfl : k = xs.length := by omega
      rw [front_end] at hfr
      have HF : Hid (xs.length + 0 = front xs) := hfr
      clear hfr bel
      go_wp2
      go_ret
      exact ⟨by rw [← HF.out]; simp, HB.out⟩
set_option maxHeartbeats 1000000 in
theorem sentEnd_any (base : Nat) (R : Rl) (b : Nat) (cs : List Value) (xs : List It) (w : World) (hb : b ≤ 1000000) (hn : xs.length ≤ 60) (hv : ∀ i (h : i < xs.length), -1 ≤ xs[i].since ∧ xs[i].since ≤ 3) (hr : Ring base R cs w) (hH : Holds b xs cs) :
    Calls Try.prog 87 #[.pointer (some ⟨R, 0, none⟩)] w fun x w' => x = .returned (.int .i64 ((b + front xs : Nat) : Int)) ∧ Below w.heap.size w w' := by
  have hF0 := (hr.cell 240 (by omega)).trans hH.2.1
  have HR : Hid (Ring base R cs w) := hr
  have HH : Hid (Holds b xs cs) := hH
  have HV : Hid (∀ i (h : i < xs.length), -1 ≤ xs[i].since ∧ xs[i].since ≤ 3) := hv
  clear hr hH hv
  go_enter Try.func87, Try.ntmps87
  go_wp2
  go_loopw [3] (fun i wr => ∃ k : Nat, k ≤ xs.length ∧ i = .int .i64 ((b + k : Nat) : Int) ∧ k + front (xs.drop k) = front xs ∧ Below w.heap.size w wr) (fun i _ => b + xs.length - (intOf i).toNat)
  case atStart => exact ⟨0, Nat.zero_le _, rfl, by simp, Below.refl _ _⟩
  case round =>
    obtain ⟨k, hk, rfl, hfr, hbel⟩ := hrel
    have hring := HR.out.keep hbel
    have hH := HH.out
    have hE := (hring.cell 241 (by omega)).trans hH.2.2.1
    obtain ⟨q, hq⟩ : ∃ q, q = b + k := ⟨_, rfl⟩
    obtain ⟨E, hEq⟩ : ∃ E, E = b + xs.length := ⟨_, rfl⟩
    rw [← hEq] at hE
    rw [← hq]
    have hqb : q ≤ 1000100 := by omega
    have hEb : E ≤ 1000100 := by omega
    by_cases hlt : k < xs.length
    · have hQE : q < E := by omega
      obtain ⟨c0, c1, c2, c3⟩ := hH.2.2.2 k hlt
      simp only [← hq] at c0 c1 c2 c3
      have p0 := (hring.cell (q % 60 * 4) (by omega)).trans c0
      have p1 := (hring.cell (q % 60 * 4 + 1) (by omega)).trans c1
      have p2 := (hring.cell (q % 60 * 4 + 2) (by omega)).trans c2
      have p3 := (hring.cell (q % 60 * 4 + 3) (by omega)).trans c3
      have hv := HV.out k hlt
      have HQ : Hid (q = b + k) := hq
      rw [front_at xs k hlt] at hfr
      by_cases hs : 0 ≤ xs[k].since
      · rw [if_pos hs] at hfr
        have HF : Hid (k + (front (xs.drop (k + 1)) + 1) = front xs) := hfr
        clear hfr c0 c1 c2 c3 hH hq hEq
        generalize xs[k].text = s at *
        generalize xs[k].last = l at *
        generalize xs[k].has = h at *
        generalize xs[k].since = n at *
        go_wp2_with (first | (go_at_call 84; refine (at_any R q _ (by omega)).mono ?_; rintro x w' ⟨rfl, rfl⟩) | (go_at_call 89; refine (wasSent_yes _ _ _ _ _ (by omega)).mono ?_; rintro x w2 ⟨rfl, hb2⟩))
        refine ⟨⟨k + 1, by omega, by have := HQ.out; go_num, by have := HF.out; omega, kb hbel hb2 (Nat.le_refl _)⟩, by have := HQ.out; simp [intOf]; omega⟩
      · rw [if_neg hs] at hfr
        have HF : Hid (k + 0 = front xs) := hfr
        have hs1 : xs[k].since = -1 := by omega
        rw [hs1] at p3
        clear hfr c0 c1 c2 c3 hH hq hEq hv hs hs1
        generalize xs[k].text = s at *
        generalize xs[k].last = l at *
        generalize xs[k].has = h at *
        go_wp2_with (first | (go_at_call 84; refine (at_any R q _ (by omega)).mono ?_; rintro x w' ⟨rfl, rfl⟩) | (go_at_call 89; refine (wasSent_no _ _ _ _).mono ?_; rintro x w2 ⟨rfl, hb2⟩))
        go_ret
        exact ⟨by rw [HQ.out, ← HF.out]; simp, kb hbel hb2 (Nat.le_refl _)⟩
    · obtain rfl : k = xs.length := by omega
      have hQE : ¬ q < E := by omega
      rw [front_end] at hfr
      have HF : Hid (xs.length + 0 = front xs) := hfr
      have HQ : Hid (q = b + xs.length) := hq
      clear hfr hq hEq hlt hH
      go_wp2
      go_ret
      exact ⟨by rw [HQ.out, ← HF.out]; simp, hbel⟩
end Go.Proofs.Yteceaadmgpjmcaa.mk

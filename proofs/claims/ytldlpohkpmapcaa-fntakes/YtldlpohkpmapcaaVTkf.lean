/-
  VALID TAKES: impl.ValidTake, of any row.
-/
import Derived.Test.YtldlpohkpmapcaaVTkC
import Derived.Test.YtldlpohkpmapcaaTsA
namespace Go.Proofs.Ytldlpohkpmapcaa.mk.f
open Go.RowKit
set_option linter.unusedVariables false

set_option maxHeartbeats 1000000 in
theorem implValidTake_any (nx : Int) (ao so : Option Addr) (ca cs : Nat) (xs : List Hd) (o : ByteArray) (rs : List ByteArray) (w : World) (hn : xs.length ≤ 1048576) (ht : ∀ i (h : i < xs.length), xs[i].text.size ≤ 1048576) (ho : o.size ≤ 1048576) (hk : rs.length ≤ 1048576) (hz : ∀ i (h : i < rs.length), rs[i].size ≤ 1048576) (hr : Rq w ao so xs rs) :
    Calls Try.prog 9 #[.agg #[.int .i64 nx, .slice ao xs.length ca, .string o, .slice so rs.length cs]] w fun e w' => e = .returned (.bool (tkOk nx xs o rs)) ∧ Below w.heap.size w w' := by
  by_cases h1 : nx < 0 ∨ 1000000 < nx
  · go_enter Try.func9, Try.ntmps9
    go_wp2_with (go_at_call 23; first | (refine (within_true _ _ _ _ (by omega) (by omega)).mono ?_; rintro e w' ⟨rfl, rfl⟩) | (refine (within_false _ _ _ _ (by omega)).mono ?_; rintro e w' ⟨rfl, rfl⟩))
    go_ret
    exact ⟨ret_b (by rw [tkOk_no (fun h => by have := h.1; unfold TkHd at this; omega)]), (Below.refl _ _).alloc (Nat.le_refl _) _⟩
  by_cases h3 : 200 < o.size
  · go_enter Try.func9, Try.ntmps9
    go_wp2_with (go_at_call 23; first | (refine (within_true _ _ _ _ (by omega) (by omega)).mono ?_; rintro e w' ⟨rfl, rfl⟩) | (refine (within_false _ _ _ _ (by omega)).mono ?_; rintro e w' ⟨rfl, rfl⟩))
    go_ret
    exact ⟨ret_b (by rw [tkOk_no (fun h => by have := h.1; unfold TkHd at this; omega)]), (Below.refl _ _).alloc (Nat.le_refl _) _⟩
  by_cases h4 : 4 < rs.length
  · go_enter Try.func9, Try.ntmps9
    go_wp2_with (go_at_call 23; first | (refine (within_true _ _ _ _ (by omega) (by omega)).mono ?_; rintro e w' ⟨rfl, rfl⟩) | (refine (within_false _ _ _ _ (by omega)).mono ?_; rintro e w' ⟨rfl, rfl⟩))
    go_ret
    exact ⟨ret_b (by rw [tkOk_no (fun h => by have := h.1; unfold TkHd at this; omega)]), (Below.refl _ _).alloc (Nat.le_refl _) _⟩
  have HH : Hid (TkHd nx o rs.length) := (by unfold TkHd; omega : TkHd nx o rs.length)
  have HR : Hid (Rq w ao so xs rs) := hr
  have HZ : Hid (∀ i (h : i < rs.length), rs[i].size ≤ 1048576) := hz
  have HV : Hid (∀ u : World, Rs u ao xs.length (hs xs) → Calls Try.prog 24 #[.agg #[.int .i64 nx, .slice ao xs.length ca, .string o, .slice so rs.length cs]] u fun e w' => e = .returned (.bool (hsOk nx xs o rs.length)) ∧ Below u.heap.size u w') := fun u h => hasValidHeld_any nx ao so ca cs xs o rs u hn ht ho hk (by omega) (by omega) h
  clear hr hz ht
  go_enter Try.func9, Try.ntmps9
  go_wp2_with (go_at_call 23; first | (refine (within_true _ _ _ _ (by omega) (by omega)).mono ?_; rintro e w' ⟨rfl, rfl⟩) | (refine (within_false _ _ _ _ (by omega)).mono ?_; rintro e w' ⟨rfl, rfl⟩))
  have hb0 : Below w.heap.size w (w.alloc (.cells #[.int .i64 nx, .slice ao xs.length ca, .string o, .slice so rs.length cs] 30)) := (Below.refl _ _).alloc (Nat.le_refl _) _
  have HB0 : Hid (Below w.heap.size w (w.alloc (.cells #[.int .i64 nx, .slice ao xs.length ca, .string o, .slice so rs.length cs] 30))) := hb0
  clear hb0
  go_loopw [24] (fun i wr => ∃ k : Nat, k ≤ rs.length ∧ i = .int .i64 k ∧ (∀ j (h : j < rs.length), j < k → rs[j].size ≤ 200) ∧ wr = (w.alloc (.cells #[.int .i64 nx, .slice ao xs.length ca, .string o, .slice so rs.length cs] 30))) (fun i _ => rs.length - (intOf i).toNat)
  case atStart => exact ⟨0, Nat.zero_le _, rfl, fun j _ h => absurd h (by omega), rfl⟩
  case round =>
    obtain ⟨k, hkk, rfl, hall, rfl⟩ := hrel
    have HL : Hid (∀ j (h : j < rs.length), j < k → rs[j].size ≤ 200) := hall
    clear hall
    by_cases hlt : k < rs.length
    · rcases HR.out.ready.ex with h | ⟨g, kk, rfl, hg, hgc⟩
      · omega
      have hsz := HZ.out k hlt
      have a0 : (w.alloc (.cells #[.int .i64 nx, .slice ao xs.length ca, .string o, .slice (some ⟨g, kk, none⟩) rs.length cs] 30)).cell? ⟨g, kk + k, none⟩ = some (.string rs[k]) := (HB0.out.cell (p := ⟨g, kk + k, none⟩) hg).trans ((hgc _ (by rw [ss_length]; exact hlt)).trans (ss_at rs k hlt))
      clear hgc
      obtain ⟨s, hs⟩ : ∃ s, s = rs[k] := ⟨_, rfl⟩
      rw [← hs] at a0 hsz
      have HS : Hid (s = rs[k]) := hs
      clear hs
      by_cases hbig : 200 < s.size
      · go_wp2
        go_ret
        exact ⟨ret_b (by rw [tkOk_no (fun h => by have := h.2.1 k hlt; rw [← HS.out] at this; omega)]), HB0.out⟩
      · go_wp2
        refine ⟨⟨k + 1, by omega, by go_num, fun j h hj => ?_, trivial⟩, by simp [intOf]; omega⟩
        rcases Nat.lt_or_ge j k with h1 | h1
        · exact HL.out j h h1
        · obtain rfl : j = k := by omega
          rw [← HS.out]; omega
    · obtain rfl : k = rs.length := by omega
      by_cases hv : HsOk nx xs o rs.length
      · have dv := hsOk_yes hv
        rw [dv] at HV
        go_wp2_with (go_at_call 24; refine (HV.out _ (HR.out.held.keep HB0.out)).mono ?_; rintro e w1 ⟨rfl, hb1⟩)
        go_ret
        exact ⟨ret_b (by rw [tkOk_yes ⟨HH.out, fun i h => HL.out i h h, hv⟩]), kb HB0.out hb1 (Nat.le_refl _)⟩
      · have dv := hsOk_no hv
        rw [dv] at HV
        go_wp2_with (go_at_call 24; refine (HV.out _ (HR.out.held.keep HB0.out)).mono ?_; rintro e w1 ⟨rfl, hb1⟩)
        go_ret
        exact ⟨ret_b (by rw [tkOk_no (fun h => hv h.2.2)]), kb HB0.out hb1 (Nat.le_refl _)⟩
end Go.Proofs.Ytldlpohkpmapcaa.mk.f

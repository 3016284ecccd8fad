/-
  VALID TAKES: impl.ValidTake.
-/
import Derived.Test.YtmliinglojmojabVTkB
namespace Go.Proofs.Ytmliinglojmojab.mk
open Go.RowKit
set_option linter.unusedVariables false

/-- every held part is right -/
def HsOk (nx : Int) (xs : List Hd) (o : ByteArray) (nr : Nat) : Prop := ∀ i (h : i < xs.length), HOk nx o nr (lowAt nx xs i) xs[i]
open Classical in
noncomputable def hsOk (nx : Int) (xs : List Hd) (o : ByteArray) (nr : Nat) : Bool := decide (HsOk nx xs o nr)
theorem hsOk_yes {nx : Int} {xs : List Hd} {o : ByteArray} {nr : Nat} (h : HsOk nx xs o nr) : hsOk nx xs o nr = true := by simp [hsOk, h]
theorem hsOk_no {nx : Int} {xs : List Hd} {o : ByteArray} {nr : Nat} (h : ¬ HsOk nx xs o nr) : hsOk nx xs o nr = false := by simp [hsOk, h]
set_option maxHeartbeats 2000000 in
theorem hasValidHeld_any (nx : Int) (ao so : Option Addr) (ca cs : Nat) (xs : List Hd) (o : ByteArray) (rs : List ByteArray) (w : World) (hn : xs.length ≤ 1048576) (ht : ∀ i (h : i < xs.length), xs[i].text.size ≤ 1048576) (ho : o.size ≤ 1048576) (hk : rs.length ≤ 1048576) (h0 : 0 ≤ nx) (h1 : nx ≤ 1000000) (hr : Rs w ao xs.length (hs xs)) :
    Calls Try.prog 74 #[.agg #[.int .i64 nx, .slice ao xs.length ca, .string o, .slice so rs.length cs]] w fun e w' => e = .returned (.bool (hsOk nx xs o rs.length)) ∧ Below w.heap.size w w' := by
  have HR : Hid (Rs w ao xs.length (hs xs)) := hr
  have HT : Hid (∀ i (h : i < xs.length), xs[i].text.size ≤ 1048576) := ht
  have HLS : Hid (∀ u : World, Calls Try.prog 80 #[.int .i64 nx] u fun e w' => e = .returned (.int .i64 (min (nx + 8) 1000000 - 1)) ∧ u = w') := fun u => lastSeq_any nx u h0 h1
  obtain ⟨LS, hLS⟩ : ∃ LS : Int, LS = min (nx + 8) 1000000 - 1 := ⟨_, rfl⟩
  rw [← hLS] at HLS
  have HL0 : Hid (LS = min (nx + 8) 1000000 - 1) := hLS
  clear hr ht hLS
  go_enter Try.func74, Try.ntmps74
  go_wp2
  have hb0 : Below w.heap.size w (w.alloc (.cells #[.int .i64 nx, .slice ao xs.length ca, .string o, .slice so rs.length cs] 46)) := (Below.refl _ _).alloc (Nat.le_refl _) _
  have HB0 : Hid (Below w.heap.size w (w.alloc (.cells #[.int .i64 nx, .slice ao xs.length ca, .string o, .slice so rs.length cs] 46))) := hb0
  clear hb0
  go_loopw [3, 11] (fun lo i wr => ∃ k : Nat, k ≤ xs.length ∧ i = .int .i64 k ∧ lo = .int .i64 (lowAt nx xs k) ∧ (∀ j (h : j < xs.length), j < k → HOk nx o rs.length (lowAt nx xs j) xs[j]) ∧ lowAt nx xs k ≤ 1000000 ∧ Below (w.heap.size + 1) (w.alloc (.cells #[.int .i64 nx, .slice ao xs.length ca, .string o, .slice so rs.length cs] 46)) wr) (fun _ i _ => xs.length - (intOf i).toNat)
  case atStart => exact ⟨0, Nat.zero_le _, rfl, rfl, fun j _ h => absurd h (by omega), h1, Below.refl _ _⟩
  case round =>
    obtain ⟨k, hkk, rfl, rfl, hall, hlo, hbel⟩ := hrel
    have hbel0 : Below w.heap.size w wr := HB0.out.trans (hbel.mono (by omega))
    have c0 : wr.cell? ⟨w.heap.size, 0, none⟩ = some (.int .i64 nx) := by rw [hbel.cell (p := ⟨w.heap.size, 0, none⟩) (by show _ < _; simp)]; simp [go_sem]
    have c2 : wr.cell? ⟨w.heap.size, 2, none⟩ = some (.string o) := by rw [hbel.cell (p := ⟨w.heap.size, 2, none⟩) (by show _ < _; simp)]; simp [go_sem]
    have c3 : wr.cell? ⟨w.heap.size, 3, none⟩ = some (.slice so rs.length cs) := by rw [hbel.cell (p := ⟨w.heap.size, 3, none⟩) (by show _ < _; simp)]; simp [go_sem]
    have hlow := low_le k hkk hall
    have HL : Hid (∀ j (h : j < xs.length), j < k → HOk nx o rs.length (lowAt nx xs j) xs[j]) := hall
    clear hall
    by_cases hlt : k < xs.length
    · rcases HR.out.ex with h | ⟨g, rfl, hg, hgc⟩
      · omega
      obtain ⟨a0, a1, a2⟩ := Rs.held (n := 0) hg hgc hbel0 k hlt
      have hsz := HT.out k hlt
      clear hgc
      have HLN : Hid (lowAt nx xs (k + 1) = xs[k].seq + 1) := lowAt_succ nx xs k hlt
      obtain ⟨n, s, l, hx⟩ : ∃ n s l, xs[k] = ⟨n, s, l⟩ := ⟨_, _, _, rfl⟩
      rw [hx] at a0 a1 a2 hsz HLN
      dsimp only at a0 a1 a2 hsz HLN
      have HX : Hid (xs[k] = ⟨n, s, l⟩) := hx
      obtain ⟨low, hlw⟩ : ∃ low, low = lowAt nx xs k := ⟨_, rfl⟩
      rw [← hlw] at hlo hlow
      rw [← hlw]
      have HLW : Hid (low = lowAt nx xs k) := hlw
      have HC : Hid (∀ u : World, Calls Try.prog 81 #[.agg #[.string s, .bool l], .string o, .slice so rs.length cs] u fun e w' => e = .returned (.bool (decide (CanIn o rs.length s l))) ∧ Below u.heap.size u w') := fun u => canBeTakenIn_any _ _ _ _ _ _ u (by omega) (by omega) (by omega)
      have HWI : Hid (∀ u : World, Calls Try.prog 61 #[.int .i64 n, .int .i64 low, .int .i64 LS] u fun e w' => e = .returned (.bool (decide (low ≤ n ∧ n ≤ LS))) ∧ u = w') := fun u => by
        by_cases h : low ≤ n ∧ n ≤ LS
        · rw [decide_eq_true h]; exact within_true n low LS u h.1 h.2
        · rw [decide_eq_false h]; exact within_false n low LS u (by omega)
      clear hx hlw
      have hno : Hid (¬ HOk nx o rs.length low ⟨n, s, l⟩ → hsOk nx xs o rs.length = false) := fun h => hsOk_no (fun q => h (by have := q k hlt; rw [HX.out, ← HLW.out] at this; exact this))
      go_wp2
      obtain ⟨W1, hW1⟩ : ∃ W1, wr.alloc (.cells #[.int .i64 n, .string s, .bool l] 103) = W1 := ⟨_, rfl⟩
      have AW : Below wr.heap.size wr W1 := by rw [← hW1]; exact (Below.refl _ _).alloc (Nat.le_refl _) _
      have T0 := cell_keep c0 AW
      have T2 := cell_keep c2 AW
      have T3 := cell_keep c3 AW
      have H0 : W1.cell? ⟨wr.heap.size, 0, none⟩ = some (.int .i64 n) := by rw [← hW1]; simp [go_sem]
      have H1 : W1.cell? ⟨wr.heap.size, 1, none⟩ = some (.string s) := by rw [← hW1]; simp [go_sem]
      have H2 : W1.cell? ⟨wr.heap.size, 2, none⟩ = some (.bool l) := by rw [← hW1]; simp [go_sem]
      have hwr : w.heap.size < wr.heap.size := by have := hbel.size; simp at this; omega
      have BW : Below w.heap.size w W1 := kb hbel0 AW (Nat.le_refl _)
      have sAW := AW.size
      have BV := hbel.trans (AW.mono (by omega))
      rw [hW1]
      clear hW1 c0 c2 c3 a0 a1 a2 AW
      by_cases hin : low ≤ n ∧ n ≤ LS
      · have di : decide (low ≤ n ∧ n ≤ LS) = true := decide_eq_true hin
        rw [di] at HWI
        have hnb : n ≤ 999999 := by have := HL0.out; omega
        have hn0 : 0 ≤ n := by omega
        by_cases hbig : 20 < s.size
        · have d1 : decide ((20 : Int) < (s.size : Int)) = true := by simp; omega
          refine wp_region_held_drew (S := (fun w' => Below W1.heap.size W1 w')) (by kernel_rfl) ?_ (fun hHeld => ?_)
          · exact (Below.refl _ _).drew
          refine tkF 0 (some 15) ?_
          refine tkE 1 (some 16) ?_ ?_ ?_
          rotate_left
          · (intro w hSw; (have hT0 := cell_keep T0 hSw); (have hH0 := cell_keep H0 hSw); (have hH1 := cell_keep H1 hSw); go_simp <;> with_reducible rfl)
          refine tkF 2 (some 17) ?_
          refine tkF 3 (some 18) ?_
          refine tkE 4 (some 19) ?_ ?_ ?_
          rotate_left
          · (intro w hSw; (have hT0 := cell_keep T0 hSw); (have hH0 := cell_keep H0 hSw); (have hH1 := cell_keep H1 hSw); go_simp <;> with_reducible rfl)
          refine wpAnyH_ready (rs := [5]) (by kernel_rfl) (by simp) ?_
          refine AllReadyH.cons rfl (fun K hK => ?_) AllReadyH.nil
          go_simp
          refine (HLS.out _).mono ?_
          rintro e w' ⟨rfl, rfl⟩
          go_wp2_with fail
          refine hK.out _ _ ?_ (fun hHeld => ?_)
          · assumption
          clear hK K
          try simp only [Act.put, List.setIfInBounds_toArray, List.set_cons_zero, List.set_cons_succ]
          refine wpAnyH_ready (rs := [6]) (by kernel_rfl) (by simp) ?_
          refine AllReadyH.cons rfl (fun K hK => ?_) AllReadyH.nil
          go_simp
          refine (HWI.out _).mono ?_
          rintro e w' ⟨rfl, rfl⟩
          go_wp2_with fail
          refine hK.out _ _ ?_ (fun hHeld => ?_)
          · assumption
          clear hK K
          try simp only [Act.put, List.setIfInBounds_toArray, List.set_cons_zero, List.set_cons_succ]
          refine tkF 7 (some 22) ?_
          refine tkF 8 (some 23) ?_
          refine tkF 9 (some 24) ?_
          refine tkF 10 (some 25) ?_
          refine tkE 11 (some 26) ?_ ?_ ?_
          rotate_left
          · (intro w hSw; (have hT0 := cell_keep T0 hSw); (have hH0 := cell_keep H0 hSw); (have hH1 := cell_keep H1 hSw); go_simp <;> with_reducible rfl)
          refine tkF 12 (some 27) ?_
          refine tkF 13 (some 28) ?_
          refine tkF 14 (some 29) ?_
          refine wpAnyH_done (by kernel_rfl) ?_ _
          go_wp2
          go_ret
          exact ⟨ret_b (by rw [hno.out (fun h => by have := h.2.2.2.1; dsimp only at this; omega)]), BW.drew⟩
        · have d1 : decide ((20 : Int) < (s.size : Int)) = false := by simp; omega
          refine wp_region_held_drew (S := (fun w' => Below W1.heap.size W1 w')) (by kernel_rfl) ?_ (fun hHeld => ?_)
          · exact (Below.refl _ _).drew
          refine tkF 0 (some 15) ?_
          refine tkE 1 (some 16) ?_ ?_ ?_
          rotate_left
          · (intro w hSw; (have hT0 := cell_keep T0 hSw); (have hH0 := cell_keep H0 hSw); (have hH1 := cell_keep H1 hSw); go_simp <;> with_reducible rfl)
          refine tkF 2 (some 17) ?_
          refine tkF 3 (some 18) ?_
          refine tkE 4 (some 19) ?_ ?_ ?_
          rotate_left
          · (intro w hSw; (have hT0 := cell_keep T0 hSw); (have hH0 := cell_keep H0 hSw); (have hH1 := cell_keep H1 hSw); go_simp <;> with_reducible rfl)
          refine wpAnyH_ready (rs := [5]) (by kernel_rfl) (by simp) ?_
          refine AllReadyH.cons rfl (fun K hK => ?_) AllReadyH.nil
          go_simp
          refine (HLS.out _).mono ?_
          rintro e w' ⟨rfl, rfl⟩
          go_wp2_with fail
          refine hK.out _ _ ?_ (fun hHeld => ?_)
          · assumption
          clear hK K
          try simp only [Act.put, List.setIfInBounds_toArray, List.set_cons_zero, List.set_cons_succ]
          refine wpAnyH_ready (rs := [6]) (by kernel_rfl) (by simp) ?_
          refine AllReadyH.cons rfl (fun K hK => ?_) AllReadyH.nil
          go_simp
          refine (HWI.out _).mono ?_
          rintro e w' ⟨rfl, rfl⟩
          go_wp2_with fail
          refine hK.out _ _ ?_ (fun hHeld => ?_)
          · assumption
          clear hK K
          try simp only [Act.put, List.setIfInBounds_toArray, List.set_cons_zero, List.set_cons_succ]
          refine tkF 7 (some 22) ?_
          refine tkF 8 (some 23) ?_
          refine tkF 9 (some 24) ?_
          refine tkF 10 (some 25) ?_
          refine tkE 11 (some 26) ?_ ?_ ?_
          rotate_left
          · (intro w hSw; (have hT0 := cell_keep T0 hSw); (have hH0 := cell_keep H0 hSw); (have hH1 := cell_keep H1 hSw); go_simp <;> with_reducible rfl)
          refine tkF 12 (some 27) ?_
          refine tkF 13 (some 28) ?_
          refine tkF 14 (some 29) ?_
          refine wpAnyH_done (by kernel_rfl) ?_ _
          by_cases hq : n = nx
          · subst hq
            by_cases hcan : CanIn o rs.length s l
            · have dc : decide (CanIn o rs.length s l) = true := decide_eq_true hcan
              rw [dc] at HC
              go_wp2_with (go_at_call 81; refine (HC.out _).mono ?_; rintro e w3 ⟨rfl, hb3⟩)
              go_ret
              exact ⟨ret_b (by rw [hno.out (fun h => h.2.2.2.2 ⟨rfl, hcan⟩)]), kb BW.drew hb3 (Nat.le_refl _)⟩
            · have dc : decide (CanIn o rs.length s l) = false := decide_eq_false hcan
              rw [dc] at HC
              go_wp2_with ((go_at_call 81; refine (HC.out _).mono ?_; rintro e w3 ⟨rfl, hb3⟩); (have u0 := cell_keep (w := W1.drew) H0 hb3))
              refine ⟨⟨k + 1, by omega, by go_num, by (rw [HLN.out]) <;> (have := HL0.out; go_num), fun i h hi => ?_, by rw [HLN.out]; have := HL0.out; omega, BV.drew.trans (hb3.mono (by show w.heap.size + 1 ≤ W1.heap.size; omega))⟩, by simp [intOf] <;> omega⟩
              rcases Nat.lt_or_ge i k with h1 | h1
              · exact HL.out i h h1
              · obtain rfl : i = k := by omega
                rw [HX.out, ← HLW.out]
                have hl0 := HL0.out
                exact ⟨hin.1, by dsimp only; omega, by dsimp only; omega, by dsimp only; omega, fun h => hcan h.2⟩
          · have d3 : (n == nx) = false := by simpa using hq
            go_wp2
            refine ⟨⟨k + 1, by omega, by go_num, by (rw [HLN.out]) <;> (have := HL0.out; go_num), fun i h hi => ?_, by rw [HLN.out]; have := HL0.out; omega, BV.drew⟩, by simp [intOf] <;> omega⟩
            rcases Nat.lt_or_ge i k with h1 | h1
            · exact HL.out i h h1
            · obtain rfl : i = k := by omega
              rw [HX.out, ← HLW.out]
              have hl0 := HL0.out
              exact ⟨hin.1, by dsimp only; omega, by dsimp only; omega, by dsimp only; omega, fun h => hq h.1⟩
      · have di : decide (low ≤ n ∧ n ≤ LS) = false := decide_eq_false hin
        rw [di] at HWI
        refine wp_region_held_drew (S := (fun w' => Below W1.heap.size W1 w')) (by kernel_rfl) ?_ (fun hHeld => ?_)
        · exact (Below.refl _ _).drew
        refine tkF 0 (some 15) ?_
        refine tkE 1 (some 16) ?_ ?_ ?_
        rotate_left
        · (intro w hSw; (have hT0 := cell_keep T0 hSw); (have hH0 := cell_keep H0 hSw); (have hH1 := cell_keep H1 hSw); go_simp <;> with_reducible rfl)
        refine tkF 2 (some 17) ?_
        refine tkF 3 (some 18) ?_
        refine tkE 4 (some 19) ?_ ?_ ?_
        rotate_left
        · (intro w hSw; (have hT0 := cell_keep T0 hSw); (have hH0 := cell_keep H0 hSw); (have hH1 := cell_keep H1 hSw); go_simp <;> with_reducible rfl)
        refine wpAnyH_ready (rs := [5]) (by kernel_rfl) (by simp) ?_
        refine AllReadyH.cons rfl (fun K hK => ?_) AllReadyH.nil
        go_simp
        refine (HLS.out _).mono ?_
        rintro e w' ⟨rfl, rfl⟩
        go_wp2_with fail
        refine hK.out _ _ ?_ (fun hHeld => ?_)
        · assumption
        clear hK K
        try simp only [Act.put, List.setIfInBounds_toArray, List.set_cons_zero, List.set_cons_succ]
        refine wpAnyH_ready (rs := [6]) (by kernel_rfl) (by simp) ?_
        refine AllReadyH.cons rfl (fun K hK => ?_) AllReadyH.nil
        go_simp
        refine (HWI.out _).mono ?_
        rintro e w' ⟨rfl, rfl⟩
        go_wp2_with fail
        refine hK.out _ _ ?_ (fun hHeld => ?_)
        · assumption
        clear hK K
        try simp only [Act.put, List.setIfInBounds_toArray, List.set_cons_zero, List.set_cons_succ]
        refine tkF 7 (some 22) ?_
        refine tkF 8 (some 23) ?_
        refine tkS 9 (some 24) ?_
        refine tkS 10 (some 25) ?_
        refine tkS 11 (some 26) ?_
        refine tkS 12 (some 27) ?_
        refine tkS 13 (some 28) ?_
        refine tkF 14 (some 29) ?_
        refine wpAnyH_done (by kernel_rfl) ?_ _
        go_wp2
        go_ret
        exact ⟨ret_b (by rw [hno.out (fun h => hin ⟨h.1, by have h2 := h.2.1; have h3 := h.2.2.1; have := HL0.out; dsimp only at h2 h3; omega⟩)]), BW.drew⟩
    · obtain rfl : k = xs.length := by omega
      go_wp2
      go_ret
      exact ⟨ret_b (by rw [hsOk_yes (fun i h => HL.out i h h)]), hbel0⟩
set_option maxHeartbeats 1000000 in
theorem implValidTake_any (nx : Int) (ao so : Option Addr) (ca cs : Nat) (xs : List Hd) (o : ByteArray) (rs : List ByteArray) (w : World) (hn : xs.length ≤ 1048576) (ht : ∀ i (h : i < xs.length), xs[i].text.size ≤ 1048576) (ho : o.size ≤ 1048576) (hk : rs.length ≤ 1048576) (hz : ∀ i (h : i < rs.length), rs[i].size ≤ 1048576) (hr : Rt w ao so xs rs) :
    Calls Try.prog 65 #[.agg #[.int .i64 nx, .slice ao xs.length ca, .string o, .slice so rs.length cs]] w fun e w' => e = .returned (.bool (tkOk nx xs o rs)) ∧ Below w.heap.size w w' := by
  by_cases h1 : nx < 0 ∨ 1000000 < nx
  · go_enter Try.func65, Try.ntmps65
    go_wp2_with (go_at_call 61; first | (refine (within_true _ _ _ _ (by omega) (by omega)).mono ?_; rintro e w' ⟨rfl, rfl⟩) | (refine (within_false _ _ _ _ (by omega)).mono ?_; rintro e w' ⟨rfl, rfl⟩))
    go_ret
    exact ⟨ret_b (by rw [tkOk_no (fun h => by have := h.1; unfold TkHd at this; omega)]), (Below.refl _ _).alloc (Nat.le_refl _) _⟩
  by_cases h3 : 200 < o.size
  · go_enter Try.func65, Try.ntmps65
    go_wp2_with (go_at_call 61; first | (refine (within_true _ _ _ _ (by omega) (by omega)).mono ?_; rintro e w' ⟨rfl, rfl⟩) | (refine (within_false _ _ _ _ (by omega)).mono ?_; rintro e w' ⟨rfl, rfl⟩))
    go_ret
    exact ⟨ret_b (by rw [tkOk_no (fun h => by have := h.1; unfold TkHd at this; omega)]), (Below.refl _ _).alloc (Nat.le_refl _) _⟩
  by_cases h4 : 4 < rs.length
  · go_enter Try.func65, Try.ntmps65
    go_wp2_with (go_at_call 61; first | (refine (within_true _ _ _ _ (by omega) (by omega)).mono ?_; rintro e w' ⟨rfl, rfl⟩) | (refine (within_false _ _ _ _ (by omega)).mono ?_; rintro e w' ⟨rfl, rfl⟩))
    go_ret
    exact ⟨ret_b (by rw [tkOk_no (fun h => by have := h.1; unfold TkHd at this; omega)]), (Below.refl _ _).alloc (Nat.le_refl _) _⟩
  have HH : Hid (TkHd nx o rs.length) := (by unfold TkHd; omega : TkHd nx o rs.length)
  have HR : Hid (Rt w ao so xs rs) := hr
  have HZ : Hid (∀ i (h : i < rs.length), rs[i].size ≤ 1048576) := hz
  have HV : Hid (∀ u : World, Rs u ao xs.length (hs xs) → Calls Try.prog 74 #[.agg #[.int .i64 nx, .slice ao xs.length ca, .string o, .slice so rs.length cs]] u fun e w' => e = .returned (.bool (hsOk nx xs o rs.length)) ∧ Below u.heap.size u w') := fun u h => hasValidHeld_any nx ao so ca cs xs o rs u hn ht ho hk (by omega) (by omega) h
  clear hr hz ht
  go_enter Try.func65, Try.ntmps65
  go_wp2_with (go_at_call 61; first | (refine (within_true _ _ _ _ (by omega) (by omega)).mono ?_; rintro e w' ⟨rfl, rfl⟩) | (refine (within_false _ _ _ _ (by omega)).mono ?_; rintro e w' ⟨rfl, rfl⟩))
  have hb0 : Below w.heap.size w (w.alloc (.cells #[.int .i64 nx, .slice ao xs.length ca, .string o, .slice so rs.length cs] 46)) := (Below.refl _ _).alloc (Nat.le_refl _) _
  have HB0 : Hid (Below w.heap.size w (w.alloc (.cells #[.int .i64 nx, .slice ao xs.length ca, .string o, .slice so rs.length cs] 46))) := hb0
  clear hb0
  go_loopw [24] (fun i wr => ∃ k : Nat, k ≤ rs.length ∧ i = .int .i64 k ∧ (∀ j (h : j < rs.length), j < k → rs[j].size ≤ 200) ∧ wr = (w.alloc (.cells #[.int .i64 nx, .slice ao xs.length ca, .string o, .slice so rs.length cs] 46))) (fun i _ => rs.length - (intOf i).toNat)
  case atStart => exact ⟨0, Nat.zero_le _, rfl, fun j _ h => absurd h (by omega), rfl⟩
  case round =>
    obtain ⟨k, hkk, rfl, hall, rfl⟩ := hrel
    have HL : Hid (∀ j (h : j < rs.length), j < k → rs[j].size ≤ 200) := hall
    clear hall
    by_cases hlt : k < rs.length
    · rcases HR.out.ready.ex with h | ⟨g, rfl, hg, hgc⟩
      · omega
      have hsz := HZ.out k hlt
      have a0 : (w.alloc (.cells #[.int .i64 nx, .slice ao xs.length ca, .string o, .slice (some ⟨g, 0, none⟩) rs.length cs] 46)).cell? ⟨g, k, none⟩ = some (.string rs[k]) := (HB0.out.cell (p := ⟨g, k, none⟩) hg).trans ((hgc _ (by rw [ss_length]; exact hlt)).trans (ss_at rs k hlt))
      clear hgc
      obtain ⟨s, hs⟩ : ∃ s, s = rs[k] := ⟨_, rfl⟩
      rw [← hs] at a0 hsz
      have HS : Hid (s = rs[k]) := hs
      clear hs
      by_cases hbig : 200 < s.size
      · go_wp2
        go_ret
        exact ⟨ret_b (by rw [tkOk_no (fun h => by have := h.2.1 k hlt; rw [← HS.out] at this; omega)]), HB0.out⟩
      · go_wp2
        refine ⟨⟨k + 1, by omega, by go_num, fun j h hj => ?_, trivial⟩, by simp [intOf]; omega⟩
        rcases Nat.lt_or_ge j k with h1 | h1
        · exact HL.out j h h1
        · obtain rfl : j = k := by omega
          rw [← HS.out]; omega
    · obtain rfl : k = rs.length := by omega
      by_cases hv : HsOk nx xs o rs.length
      · have dv := hsOk_yes hv
        rw [dv] at HV
        go_wp2_with (go_at_call 74; refine (HV.out _ (HR.out.held.keep HB0.out)).mono ?_; rintro e w1 ⟨rfl, hb1⟩)
        go_ret
        exact ⟨ret_b (by rw [tkOk_yes ⟨HH.out, fun i h => HL.out i h h, hv⟩]), kb HB0.out hb1 (Nat.le_refl _)⟩
      · have dv := hsOk_no hv
        rw [dv] at HV
        go_wp2_with (go_at_call 74; refine (HV.out _ (HR.out.held.keep HB0.out)).mono ?_; rintro e w1 ⟨rfl, hb1⟩)
        go_ret
        exact ⟨ret_b (by rw [tkOk_no (fun h => hv h.2.2)]), kb HB0.out hb1 (Nat.le_refl _)⟩
end Go.Proofs.Ytmliinglojmojab.mk

/-
  VALID TAKES: what makes one; spec.ValidTake.
-/
import Derived.Test.YtmliinglojmojabVTkA
import Derived.Test.YtmliinglojmojabBase
namespace Go.Proofs.Ytmliinglojmojab.mk
open Go.RowKit
set_option linter.unusedVariables false

/-- the least number that held part k may bear -/
def lowAt (nx : Int) (xs : List Hd) : Nat → Int
  | 0 => nx
  | k + 1 => match xs[k]? with
    | some x => x.seq + 1
    | none => nx
theorem lowAt_succ (nx : Int) (xs : List Hd) (k : Nat) (h : k < xs.length) : lowAt nx xs (k + 1) = xs[k].seq + 1 := by rw [lowAt, List.getElem?_eq_getElem h]
def HOk (nx : Int) (o : ByteArray) (nr : Nat) (low : Int) (x : Hd) : Prop := low ≤ x.seq ∧ x.seq < nx + 8 ∧ x.seq < 1000000 ∧ x.text.size ≤ 20 ∧ ¬ (x.seq = nx ∧ CanIn o nr x.text x.last)
def TkHd (nx : Int) (o : ByteArray) (nr : Nat) : Prop := 0 ≤ nx ∧ nx ≤ 1000000 ∧ o.size ≤ 200 ∧ nr ≤ 4
def TkOk (nx : Int) (xs : List Hd) (o : ByteArray) (rs : List ByteArray) : Prop :=
  TkHd nx o rs.length ∧ (∀ i (h : i < rs.length), rs[i].size ≤ 200) ∧ ∀ i (h : i < xs.length), HOk nx o rs.length (lowAt nx xs i) xs[i]
open Classical in
noncomputable def tkOk (nx : Int) (xs : List Hd) (o : ByteArray) (rs : List ByteArray) : Bool := decide (TkOk nx xs o rs)
theorem tkOk_yes {nx : Int} {xs : List Hd} {o : ByteArray} {rs : List ByteArray} (h : TkOk nx xs o rs) : tkOk nx xs o rs = true := by simp [tkOk, h]
theorem tkOk_no {nx : Int} {xs : List Hd} {o : ByteArray} {rs : List ByteArray} (h : ¬ TkOk nx xs o rs) : tkOk nx xs o rs = false := by simp [tkOk, h]
theorem tkOk_of {nx : Int} {xs : List Hd} {o : ByteArray} {rs : List ByteArray} (h : tkOk nx xs o rs = true) : TkOk nx xs o rs := by simpa [tkOk] using h
theorem low_le {nx : Int} {xs : List Hd} {o : ByteArray} {nr : Nat} (k : Nat) (hk : k ≤ xs.length) (h : ∀ i (h : i < xs.length), i < k → HOk nx o nr (lowAt nx xs i) xs[i]) : nx + k ≤ lowAt nx xs k := by
  induction k with
  | zero => simp [lowAt]
  | succ k ih =>
    have h1 := ih (by omega) (fun i hi hik => h i hi (by omega))
    have h2 := (h k (by omega) (by omega)).1
    rw [lowAt_succ nx xs k (by omega)]
    omega
theorem TkOk.len {nx : Int} {xs : List Hd} {o : ByteArray} {rs : List ByteArray} (h : TkOk nx xs o rs) : xs.length ≤ 8 := by
  rcases Nat.lt_or_ge 8 xs.length with h8 | h8
  · have h1 := low_le 8 (by omega) (fun i hi _ => h.2.2 i hi)
    have h2 := h.2.2 8 h8
    have h3 := h2.1
    have h4 := h2.2.1
    omega
  · exact h8
set_option maxHeartbeats 8000000 in
theorem specValidTake_any (nx : Int) (ao so : Option Addr) (ca cs : Nat) (xs : List Hd) (o : ByteArray) (rs : List ByteArray) (w : World) (hn : xs.length ≤ 1048576) (ht : ∀ i (h : i < xs.length), xs[i].text.size ≤ 1048576) (ho : o.size ≤ 1048576) (hk : rs.length ≤ 1048576) (hz : ∀ i (h : i < rs.length), rs[i].size ≤ 1048576) (hr : Rt w ao so xs rs) :
    Calls Try.prog 40 #[.agg #[.int .i64 nx, .slice ao xs.length ca, .string o, .slice so rs.length cs]] w fun e w' => e = .returned (.bool (tkOk nx xs o rs)) ∧ Below w.heap.size w w' := by
  by_cases h1 : nx < 0 ∨ 1000000 < nx
  · go_enter Try.func40, Try.ntmps40
    go_wp2_with (go_at_call 24; first | (refine (l1In_true _ _ _ _ (by omega) (by omega)).mono ?_; rintro e w' ⟨rfl, rfl⟩) | (refine (l1In_false _ _ _ _ (by omega)).mono ?_; rintro e w' ⟨rfl, rfl⟩))
    go_ret
    exact ⟨ret_b (by rw [tkOk_no (fun h => by have := h.1; unfold TkHd at this; omega)]), (Below.refl _ _).alloc (Nat.le_refl _) _⟩
  by_cases h2 : 8 < xs.length
  · go_enter Try.func40, Try.ntmps40
    go_wp2_with (go_at_call 24; first | (refine (l1In_true _ _ _ _ (by omega) (by omega)).mono ?_; rintro e w' ⟨rfl, rfl⟩) | (refine (l1In_false _ _ _ _ (by omega)).mono ?_; rintro e w' ⟨rfl, rfl⟩))
    go_ret
    exact ⟨ret_b (by rw [tkOk_no (fun h => by have := h.len; omega)]), (Below.refl _ _).alloc (Nat.le_refl _) _⟩
  by_cases h3 : 200 < o.size
  · go_enter Try.func40, Try.ntmps40
    go_wp2_with (go_at_call 24; first | (refine (l1In_true _ _ _ _ (by omega) (by omega)).mono ?_; rintro e w' ⟨rfl, rfl⟩) | (refine (l1In_false _ _ _ _ (by omega)).mono ?_; rintro e w' ⟨rfl, rfl⟩))
    go_ret
    exact ⟨ret_b (by rw [tkOk_no (fun h => by have := h.1; unfold TkHd at this; omega)]), (Below.refl _ _).alloc (Nat.le_refl _) _⟩
  by_cases h4 : 4 < rs.length
  · go_enter Try.func40, Try.ntmps40
    go_wp2_with (go_at_call 24; first | (refine (l1In_true _ _ _ _ (by omega) (by omega)).mono ?_; rintro e w' ⟨rfl, rfl⟩) | (refine (l1In_false _ _ _ _ (by omega)).mono ?_; rintro e w' ⟨rfl, rfl⟩))
    go_ret
    exact ⟨ret_b (by rw [tkOk_no (fun h => by have := h.1; unfold TkHd at this; omega)]), (Below.refl _ _).alloc (Nat.le_refl _) _⟩
  have HH : Hid (TkHd nx o rs.length) := (by unfold TkHd; omega : TkHd nx o rs.length)
  have HR : Hid (Rt w ao so xs rs) := hr
  have HT : Hid (∀ i (h : i < xs.length), xs[i].text.size ≤ 1048576) := ht
  have HZ : Hid (∀ i (h : i < rs.length), rs[i].size ≤ 1048576) := hz
  clear hr hz ht
  go_enter Try.func40, Try.ntmps40
  go_wp2_with (go_at_call 24; first | (refine (l1In_true _ _ _ _ (by omega) (by omega)).mono ?_; rintro e w' ⟨rfl, rfl⟩) | (refine (l1In_false _ _ _ _ (by omega)).mono ?_; rintro e w' ⟨rfl, rfl⟩))
  have hb0 : Below w.heap.size w (w.alloc (.cells #[.int .i64 nx, .slice ao xs.length ca, .string o, .slice so rs.length cs] 46)) := (Below.refl _ _).alloc (Nat.le_refl _) _
  have HB0 : Hid (Below w.heap.size w (w.alloc (.cells #[.int .i64 nx, .slice ao xs.length ca, .string o, .slice so rs.length cs] 46))) := hb0
  clear hb0
  go_loopw [3] (fun i wr => ∃ k : Nat, k ≤ rs.length ∧ i = .int .i64 k ∧ (∀ j (h : j < rs.length), j < k → rs[j].size ≤ 200) ∧ wr = (w.alloc (.cells #[.int .i64 nx, .slice ao xs.length ca, .string o, .slice so rs.length cs] 46))) (fun i _ => rs.length - (intOf i).toNat)
  case atStart => exact ⟨0, Nat.zero_le _, rfl, fun j _ h => absurd h (by omega), rfl⟩
  case round =>
    obtain ⟨k, hkk, rfl, hall, rfl⟩ := hrel
    have HL : Hid (∀ j (h : j < rs.length), j < k → rs[j].size ≤ 200) := hall
    clear hall
    by_cases hlt : k < rs.length
    · rcases HR.out.ready.ex with h | ⟨g, rfl, hg, hgc⟩
      · omega
      have hsz := HZ.out k hlt
      have a0 : (w.alloc (.cells #[.int .i64 nx, .slice ao xs.length ca, .string o, .slice (some ⟨g, 0, none⟩) rs.length cs] 46)).cell? ⟨g, k, none⟩ = some (.string rs[k]) := (HB0.out.cell (p := ⟨g, k, none⟩) hg).trans ((hgc _ (by rw [ss_length]; exact hlt)).trans (ss_at rs k hlt))
      clear hgc
      obtain ⟨s, hs⟩ : ∃ s, s = rs[k] := ⟨_, rfl⟩
      rw [← hs] at a0 hsz
      have HS : Hid (s = rs[k]) := hs
      clear hs
      by_cases hbig : 200 < s.size
      · go_wp2
        go_ret
        exact ⟨ret_b (by rw [tkOk_no (fun h => by have := h.2.1 k hlt; rw [← HS.out] at this; omega)]), HB0.out⟩
      · go_wp2
        refine ⟨⟨k + 1, by omega, by go_num, fun j h hj => ?_, trivial⟩, by simp [intOf]; omega⟩
        rcases Nat.lt_or_ge j k with h1 | h1
        · exact HL.out j h h1
        · obtain rfl : j = k := by omega
          rw [← HS.out]; omega
    · obtain rfl : k = rs.length := by omega
      go_wp2
      have HRZ : Hid (∀ j (h : j < rs.length), rs[j].size ≤ 200) := fun j h => HL.out j h h
      clear HL hlt hkk
      go_loopw [4] (fun i wr => ∃ k : Nat, k ≤ xs.length ∧ i = .int .i64 k ∧ (∀ j (h : j < xs.length), j < k → HOk nx o rs.length (lowAt nx xs j) xs[j]) ∧ Below (w.heap.size + 1) (w.alloc (.cells #[.int .i64 nx, .slice ao xs.length ca, .string o, .slice so rs.length cs] 46)) wr) (fun i _ => xs.length - (intOf i).toNat)
      case atStart => exact ⟨0, Nat.zero_le _, rfl, fun j _ h => absurd h (by omega), Below.refl _ _⟩
      case round =>
        obtain ⟨k, hkk, rfl, hall, hbel⟩ := hrel
        have hbel0 : Below w.heap.size w wr := HB0.out.trans (hbel.mono (by omega))
        have c0 : wr.cell? ⟨w.heap.size, 0, none⟩ = some (.int .i64 nx) := by rw [hbel.cell (p := ⟨w.heap.size, 0, none⟩) (by show _ < _; simp)]; simp [go_sem]
        have c1 : wr.cell? ⟨w.heap.size, 1, none⟩ = some (.slice ao xs.length ca) := by rw [hbel.cell (p := ⟨w.heap.size, 1, none⟩) (by show _ < _; simp)]; simp [go_sem]
        have c2 : wr.cell? ⟨w.heap.size, 2, none⟩ = some (.string o) := by rw [hbel.cell (p := ⟨w.heap.size, 2, none⟩) (by show _ < _; simp)]; simp [go_sem]
        have c3 : wr.cell? ⟨w.heap.size, 3, none⟩ = some (.slice so rs.length cs) := by rw [hbel.cell (p := ⟨w.heap.size, 3, none⟩) (by show _ < _; simp)]; simp [go_sem]
        have HL : Hid (∀ j (h : j < xs.length), j < k → HOk nx o rs.length (lowAt nx xs j) xs[j]) := hall
        have hlow : Hid (nx + k ≤ lowAt nx xs k) := low_le k hkk hall
        clear hall
        by_cases hlt : k < xs.length
        · rcases HR.out.held.ex with h | ⟨g, rfl, hg, hgc⟩
          · omega
          obtain ⟨a0, a1, a2⟩ := Rs.held (n := 0) hg hgc hbel0 k hlt
          have hsz := HT.out k hlt
          have HP : Hid (∀ j (h : j < xs.length), wr.cell? ⟨g, j * 3, none⟩ = some (.int .i64 xs[j].seq)) := fun j h => (Rs.held (n := 0) hg hgc hbel0 j h).1
          clear hgc
          obtain ⟨n, s, l, hx⟩ : ∃ n s l, xs[k] = ⟨n, s, l⟩ := ⟨_, _, _, rfl⟩
          rw [hx] at a0 a1 a2 hsz
          dsimp only at a0 a1 a2 hsz
          have HX : Hid (xs[k] = ⟨n, s, l⟩) := hx
          have HN : Hid (∀ u : World, Calls Try.prog 55 #[.agg #[.int .i64 nx, .slice (some ⟨g, 0, none⟩) xs.length ca, .string o, .slice so rs.length cs], .int .i64 n] u fun e w' => e = .returned (.bool (decide (NearIn nx n))) ∧ Below u.heap.size u w') := fun u => l5Near_any nx _ _ _ _ _ _ _ n u (by omega) (by omega)
          have HC : Hid (∀ u : World, Calls Try.prog 56 #[.agg #[.int .i64 nx, .slice (some ⟨g, 0, none⟩) xs.length ca, .string o, .slice so rs.length cs], .agg #[.string s, .bool l]] u fun e w' => e = .returned (.bool (decide (CanIn o rs.length s l))) ∧ Below u.heap.size u w') := fun u => l5Can_any nx _ _ _ _ _ _ _ _ _ u (by omega) (by omega) (by omega)
          clear hx
          go_wp2
          obtain ⟨W1, hW1⟩ : ∃ W1, wr.alloc (.cells #[.int .i64 n, .string s, .bool l] 103) = W1 := ⟨_, rfl⟩
          have hwr : w.heap.size < wr.heap.size := by have := hbel.size; simp at this; omega
          have AW : Below wr.heap.size wr W1 := by rw [← hW1]; exact (Below.refl _ _).alloc (Nat.le_refl _) _
          have T0 := cell_keep c0 AW
          have T1 := cell_keep c1 AW
          have T2 := cell_keep c2 AW
          have T3 := cell_keep c3 AW
          have H0 : W1.cell? ⟨wr.heap.size, 0, none⟩ = some (.int .i64 n) := by rw [← hW1]; simp [go_sem]
          have H1 : W1.cell? ⟨wr.heap.size, 1, none⟩ = some (.string s) := by rw [← hW1]; simp [go_sem]
          have H2 : W1.cell? ⟨wr.heap.size, 2, none⟩ = some (.bool l) := by rw [← hW1]; simp [go_sem]
          have BW : Below w.heap.size w W1 := kb hbel0 AW (Nat.le_refl _)
          have BV := hbel.trans (AW.mono (by omega))
          rw [hW1]
          have HP1 : Hid (∀ j (h : j < xs.length), W1.cell? ⟨g, j * 3, none⟩ = some (.int .i64 xs[j].seq)) := fun j h => cell_keep (HP.out j h) AW
          have sAW := AW.size
          clear hW1 c0 c1 c2 c3 a0 a1 a2 AW HP
          by_cases hnear : NearIn nx n
          · have dn : decide (NearIn nx n) = true := decide_eq_true hnear
            rw [dn] at HN
            have HNR : Hid (NearIn nx n) := hnear
            clear dn hnear
            by_cases hbig : 20 < s.size
            · have d1 : decide ((20 : Int) < (s.size : Int)) = true := by simp; omega
              refine wp_region_held_drew (S := (fun w' => Below W1.heap.size W1 w')) (by kernel_rfl) ?_ (fun hHeld => ?_)
              · exact (Below.refl _ _).drew
              refine tkE 0 (some 54) ?_ ?_ ?_
              rotate_left
              · (intro w hSw; (have t0 := cell_keep T0 hSw); (have t1 := cell_keep T1 hSw); (have t2 := cell_keep T2 hSw); (have t3 := cell_keep T3 hSw); (have r0 := cell_keep H0 hSw); (have r1 := cell_keep H1 hSw); (have r2 := cell_keep H2 hSw); go_simp <;> with_reducible rfl)
              refine tkF 1 (some 55) ?_
              refine tkE 2 (some 56) ?_ ?_ ?_
              rotate_left
              · (intro w hSw; (have t0 := cell_keep T0 hSw); (have t1 := cell_keep T1 hSw); (have t2 := cell_keep T2 hSw); (have t3 := cell_keep T3 hSw); (have r0 := cell_keep H0 hSw); (have r1 := cell_keep H1 hSw); (have r2 := cell_keep H2 hSw); go_simp <;> with_reducible rfl)
              refine wpAnyH_ready (rs := [3]) (by kernel_rfl) (by simp) ?_
              refine AllReadyH.cons rfl (fun K hK => ?_) AllReadyH.nil
              go_simp
              refine (HN.out _).mono ?_
              rintro e w2 ⟨rfl, hb2⟩
              go_wp2_with fail
              refine hK.out _ _ ?_ (fun hHeld => ?_)
              · exact kb (by assumption) hb2 (Nat.le_refl _)
              clear hK K
              try simp only [Act.put, List.setIfInBounds_toArray, List.set_cons_zero, List.set_cons_succ]
              refine tkF 4 (some 58) ?_
              refine tkF 5 (some 59) ?_
              refine tkF 6 (some 60) ?_
              refine tkF 7 (some 61) ?_
              refine tkE 8 (some 62) ?_ ?_ ?_
              rotate_left
              · (intro w hSw; (have t0 := cell_keep T0 hSw); (have t1 := cell_keep T1 hSw); (have t2 := cell_keep T2 hSw); (have t3 := cell_keep T3 hSw); (have r0 := cell_keep H0 hSw); (have r1 := cell_keep H1 hSw); (have r2 := cell_keep H2 hSw); go_simp <;> with_reducible rfl)
              refine tkF 9 (some 63) ?_
              refine tkF 10 (some 64) ?_
              refine tkF 11 (some 65) ?_
              refine tkF 12 (some 66) ?_
              refine tkS 13 (some 67) ?_
              refine tkS 14 (some 68) ?_
              refine tkS 15 (some 69) ?_
              refine tkS 16 (some 70) ?_
              refine tkS 17 (some 71) ?_
              refine tkS 18 (some 72) ?_
              refine tkS 19 (some 73) ?_
              refine tkS 20 (some 74) ?_
              refine tkS 21 (some 75) ?_
              refine tkS 22 (some 76) ?_
              refine tkS 23 (some 77) ?_
              refine tkS 24 (some 78) ?_
              refine tkS 25 (some 79) ?_
              refine tkS 26 (some 80) ?_
              refine tkF 27 (some 81) ?_
              refine tkF 28 (some 82) ?_
              refine tkS 29 (some 83) ?_
              refine tkS 30 (some 84) ?_
              refine tkS 31 (some 85) ?_
              refine tkS 32 (some 86) ?_
              refine tkS 33 (some 87) ?_
              refine tkS 34 (some 88) ?_
              refine tkS 35 (some 89) ?_
              refine tkS 36 (some 90) ?_
              refine tkS 37 (some 91) ?_
              refine tkS 38 (some 92) ?_
              refine tkS 39 (some 93) ?_
              refine tkF 40 (some 94) ?_
              refine wpAnyH_done (by kernel_rfl) ?_ _
              go_wp2
              go_ret
              exact ⟨ret_b (by rw [tkOk_no (fun h => by have := (h.2.2 k hlt).2.2.2.1; rw [HX.out] at this; dsimp only at this; omega)]), kb BW hHeld (Nat.le_refl _)⟩
            · have d1 : decide ((20 : Int) < (s.size : Int)) = false := by simp; omega
              rcases k with _ | j
              · have d2 : decide ((0 : Int) < ((0 : Nat) : Int)) = false := by decide
                by_cases hq : n = nx
                · subst hq
                  by_cases hcan : CanIn o rs.length s l
                  · have dc : decide (CanIn o rs.length s l) = true := decide_eq_true hcan
                    rw [dc] at HC
                    refine wp_region_held_drew (S := (fun w' => Below W1.heap.size W1 w')) (by kernel_rfl) ?_ (fun hHeld => ?_)
                    · exact (Below.refl _ _).drew
                    refine tkE 0 (some 54) ?_ ?_ ?_
                    rotate_left
                    · (intro w hSw; (have t0 := cell_keep T0 hSw); (have t1 := cell_keep T1 hSw); (have t2 := cell_keep T2 hSw); (have t3 := cell_keep T3 hSw); (have r0 := cell_keep H0 hSw); (have r1 := cell_keep H1 hSw); (have r2 := cell_keep H2 hSw); go_simp <;> with_reducible rfl)
                    refine tkF 1 (some 55) ?_
                    refine tkE 2 (some 56) ?_ ?_ ?_
                    rotate_left
                    · (intro w hSw; (have t0 := cell_keep T0 hSw); (have t1 := cell_keep T1 hSw); (have t2 := cell_keep T2 hSw); (have t3 := cell_keep T3 hSw); (have r0 := cell_keep H0 hSw); (have r1 := cell_keep H1 hSw); (have r2 := cell_keep H2 hSw); go_simp <;> with_reducible rfl)
                    refine wpAnyH_ready (rs := [3]) (by kernel_rfl) (by simp) ?_
                    refine AllReadyH.cons rfl (fun K hK => ?_) AllReadyH.nil
                    go_simp
                    refine (HN.out _).mono ?_
                    rintro e w2 ⟨rfl, hb2⟩
                    go_wp2_with fail
                    refine hK.out _ _ ?_ (fun hHeld => ?_)
                    · exact kb (by assumption) hb2 (Nat.le_refl _)
                    clear hK K
                    try simp only [Act.put, List.setIfInBounds_toArray, List.set_cons_zero, List.set_cons_succ]
                    refine tkF 4 (some 58) ?_
                    refine tkF 5 (some 59) ?_
                    refine tkF 6 (some 60) ?_
                    refine tkF 7 (some 61) ?_
                    refine tkE 8 (some 62) ?_ ?_ ?_
                    rotate_left
                    · (intro w hSw; (have t0 := cell_keep T0 hSw); (have t1 := cell_keep T1 hSw); (have t2 := cell_keep T2 hSw); (have t3 := cell_keep T3 hSw); (have r0 := cell_keep H0 hSw); (have r1 := cell_keep H1 hSw); (have r2 := cell_keep H2 hSw); go_simp <;> with_reducible rfl)
                    refine tkF 9 (some 63) ?_
                    refine tkF 10 (some 64) ?_
                    refine tkF 11 (some 65) ?_
                    refine tkF 12 (some 66) ?_
                    refine tkF 13 (some 67) ?_
                    refine tkF 14 (some 68) ?_
                    refine tkF 15 (some 69) ?_
                    refine tkS 16 (some 70) ?_
                    refine tkS 17 (some 71) ?_
                    refine tkS 18 (some 72) ?_
                    refine tkS 19 (some 73) ?_
                    refine tkS 20 (some 74) ?_
                    refine tkS 21 (some 75) ?_
                    refine tkS 22 (some 76) ?_
                    refine tkS 23 (some 77) ?_
                    refine tkS 24 (some 78) ?_
                    refine tkS 25 (some 79) ?_
                    refine tkF 26 (some 80) ?_
                    refine tkF 27 (some 81) ?_
                    refine tkF 28 (some 82) ?_
                    refine tkF 29 (some 83) ?_
                    refine tkE 30 (some 84) ?_ ?_ ?_
                    rotate_left
                    · (intro w hSw; (have t0 := cell_keep T0 hSw); (have t1 := cell_keep T1 hSw); (have t2 := cell_keep T2 hSw); (have t3 := cell_keep T3 hSw); (have r0 := cell_keep H0 hSw); (have r1 := cell_keep H1 hSw); (have r2 := cell_keep H2 hSw); go_simp <;> with_reducible rfl)
                    refine tkF 31 (some 85) ?_
                    refine tkE 32 (some 86) ?_ ?_ ?_
                    rotate_left
                    · (intro w hSw; (have t0 := cell_keep T0 hSw); (have t1 := cell_keep T1 hSw); (have t2 := cell_keep T2 hSw); (have t3 := cell_keep T3 hSw); (have r0 := cell_keep H0 hSw); (have r1 := cell_keep H1 hSw); (have r2 := cell_keep H2 hSw); go_simp <;> with_reducible rfl)
                    refine tkF 33 (some 87) ?_
                    refine tkF 34 (some 88) ?_
                    refine tkE 35 (some 89) ?_ ?_ ?_
                    rotate_left
                    · (intro w hSw; (have t0 := cell_keep T0 hSw); (have t1 := cell_keep T1 hSw); (have t2 := cell_keep T2 hSw); (have t3 := cell_keep T3 hSw); (have r0 := cell_keep H0 hSw); (have r1 := cell_keep H1 hSw); (have r2 := cell_keep H2 hSw); go_simp <;> with_reducible rfl)
                    refine tkF 36 (some 90) ?_
                    refine tkE 37 (some 91) ?_ ?_ ?_
                    rotate_left
                    · (intro w hSw; (have t0 := cell_keep T0 hSw); (have t1 := cell_keep T1 hSw); (have t2 := cell_keep T2 hSw); (have t3 := cell_keep T3 hSw); (have r0 := cell_keep H0 hSw); (have r1 := cell_keep H1 hSw); (have r2 := cell_keep H2 hSw); go_simp <;> with_reducible rfl)
                    refine wpAnyH_ready (rs := [38]) (by kernel_rfl) (by simp) ?_
                    refine AllReadyH.cons rfl (fun K hK => ?_) AllReadyH.nil
                    go_simp
                    refine (HC.out _).mono ?_
                    rintro e w3 ⟨rfl, hb2⟩
                    go_wp2_with fail
                    refine hK.out _ _ ?_ (fun hHeld => ?_)
                    · exact kb (by assumption) hb2 (Nat.le_refl _)
                    clear hK K
                    try simp only [Act.put, List.setIfInBounds_toArray, List.set_cons_zero, List.set_cons_succ]
                    refine tkF 39 (some 93) ?_
                    refine tkF 40 (some 94) ?_
                    refine wpAnyH_done (by kernel_rfl) ?_ _
                    go_wp2
                    go_ret
                    exact ⟨ret_b (by rw [tkOk_no (fun h => by have := (h.2.2 0 hlt).2.2.2.2; rw [HX.out] at this; exact this ⟨rfl, hcan⟩)]), kb BW hHeld (Nat.le_refl _)⟩
                  · have dc : decide (CanIn o rs.length s l) = false := decide_eq_false hcan
                    rw [dc] at HC
                    refine wp_region_held_drew (S := (fun w' => Below W1.heap.size W1 w')) (by kernel_rfl) ?_ (fun hHeld => ?_)
                    · exact (Below.refl _ _).drew
                    refine tkE 0 (some 54) ?_ ?_ ?_
                    rotate_left
                    · (intro w hSw; (have t0 := cell_keep T0 hSw); (have t1 := cell_keep T1 hSw); (have t2 := cell_keep T2 hSw); (have t3 := cell_keep T3 hSw); (have r0 := cell_keep H0 hSw); (have r1 := cell_keep H1 hSw); (have r2 := cell_keep H2 hSw); go_simp <;> with_reducible rfl)
                    refine tkF 1 (some 55) ?_
                    refine tkE 2 (some 56) ?_ ?_ ?_
                    rotate_left
                    · (intro w hSw; (have t0 := cell_keep T0 hSw); (have t1 := cell_keep T1 hSw); (have t2 := cell_keep T2 hSw); (have t3 := cell_keep T3 hSw); (have r0 := cell_keep H0 hSw); (have r1 := cell_keep H1 hSw); (have r2 := cell_keep H2 hSw); go_simp <;> with_reducible rfl)
                    refine wpAnyH_ready (rs := [3]) (by kernel_rfl) (by simp) ?_
                    refine AllReadyH.cons rfl (fun K hK => ?_) AllReadyH.nil
                    go_simp
                    refine (HN.out _).mono ?_
                    rintro e w2 ⟨rfl, hb2⟩
                    go_wp2_with fail
                    refine hK.out _ _ ?_ (fun hHeld => ?_)
                    · exact kb (by assumption) hb2 (Nat.le_refl _)
                    clear hK K
                    try simp only [Act.put, List.setIfInBounds_toArray, List.set_cons_zero, List.set_cons_succ]
                    refine tkF 4 (some 58) ?_
                    refine tkF 5 (some 59) ?_
                    refine tkF 6 (some 60) ?_
                    refine tkF 7 (some 61) ?_
                    refine tkE 8 (some 62) ?_ ?_ ?_
                    rotate_left
                    · (intro w hSw; (have t0 := cell_keep T0 hSw); (have t1 := cell_keep T1 hSw); (have t2 := cell_keep T2 hSw); (have t3 := cell_keep T3 hSw); (have r0 := cell_keep H0 hSw); (have r1 := cell_keep H1 hSw); (have r2 := cell_keep H2 hSw); go_simp <;> with_reducible rfl)
                    refine tkF 9 (some 63) ?_
                    refine tkF 10 (some 64) ?_
                    refine tkF 11 (some 65) ?_
                    refine tkF 12 (some 66) ?_
                    refine tkF 13 (some 67) ?_
                    refine tkF 14 (some 68) ?_
                    refine tkF 15 (some 69) ?_
                    refine tkS 16 (some 70) ?_
                    refine tkS 17 (some 71) ?_
                    refine tkS 18 (some 72) ?_
                    refine tkS 19 (some 73) ?_
                    refine tkS 20 (some 74) ?_
                    refine tkS 21 (some 75) ?_
                    refine tkS 22 (some 76) ?_
                    refine tkS 23 (some 77) ?_
                    refine tkS 24 (some 78) ?_
                    refine tkS 25 (some 79) ?_
                    refine tkF 26 (some 80) ?_
                    refine tkF 27 (some 81) ?_
                    refine tkF 28 (some 82) ?_
                    refine tkF 29 (some 83) ?_
                    refine tkE 30 (some 84) ?_ ?_ ?_
                    rotate_left
                    · (intro w hSw; (have t0 := cell_keep T0 hSw); (have t1 := cell_keep T1 hSw); (have t2 := cell_keep T2 hSw); (have t3 := cell_keep T3 hSw); (have r0 := cell_keep H0 hSw); (have r1 := cell_keep H1 hSw); (have r2 := cell_keep H2 hSw); go_simp <;> with_reducible rfl)
                    refine tkF 31 (some 85) ?_
                    refine tkE 32 (some 86) ?_ ?_ ?_
                    rotate_left
                    · (intro w hSw; (have t0 := cell_keep T0 hSw); (have t1 := cell_keep T1 hSw); (have t2 := cell_keep T2 hSw); (have t3 := cell_keep T3 hSw); (have r0 := cell_keep H0 hSw); (have r1 := cell_keep H1 hSw); (have r2 := cell_keep H2 hSw); go_simp <;> with_reducible rfl)
                    refine tkF 33 (some 87) ?_
                    refine tkF 34 (some 88) ?_
                    refine tkE 35 (some 89) ?_ ?_ ?_
                    rotate_left
                    · (intro w hSw; (have t0 := cell_keep T0 hSw); (have t1 := cell_keep T1 hSw); (have t2 := cell_keep T2 hSw); (have t3 := cell_keep T3 hSw); (have r0 := cell_keep H0 hSw); (have r1 := cell_keep H1 hSw); (have r2 := cell_keep H2 hSw); go_simp <;> with_reducible rfl)
                    refine tkF 36 (some 90) ?_
                    refine tkE 37 (some 91) ?_ ?_ ?_
                    rotate_left
                    · (intro w hSw; (have t0 := cell_keep T0 hSw); (have t1 := cell_keep T1 hSw); (have t2 := cell_keep T2 hSw); (have t3 := cell_keep T3 hSw); (have r0 := cell_keep H0 hSw); (have r1 := cell_keep H1 hSw); (have r2 := cell_keep H2 hSw); go_simp <;> with_reducible rfl)
                    refine wpAnyH_ready (rs := [38]) (by kernel_rfl) (by simp) ?_
                    refine AllReadyH.cons rfl (fun K hK => ?_) AllReadyH.nil
                    go_simp
                    refine (HC.out _).mono ?_
                    rintro e w3 ⟨rfl, hb2⟩
                    go_wp2_with fail
                    refine hK.out _ _ ?_ (fun hHeld => ?_)
                    · exact kb (by assumption) hb2 (Nat.le_refl _)
                    clear hK K
                    try simp only [Act.put, List.setIfInBounds_toArray, List.set_cons_zero, List.set_cons_succ]
                    refine tkF 39 (some 93) ?_
                    refine tkF 40 (some 94) ?_
                    refine wpAnyH_done (by kernel_rfl) ?_ _
                    go_wp2
                    refine ⟨⟨0 + 1, by omega, by go_num, fun i h hi => ?_, BV.trans (hHeld.mono (by omega))⟩, by simp [intOf] <;> omega⟩
                    rcases Nat.lt_or_ge i (0) with h1 | h1
                    · exact HL.out i h h1
                    · obtain rfl : i = 0 := by omega
                      rw [HX.out]
                      have hn := HNR.out
                      have hl := hlow.out
                      unfold NearIn at hn
                      exact ⟨by simp only [lowAt]; omega, hn.2.1, hn.2.2, by dsimp only; omega, fun h => hcan h.2⟩
                · have d3 : (n == nx) = false := by simpa using hq
                  refine wp_region_held_drew (S := (fun w' => Below W1.heap.size W1 w')) (by kernel_rfl) ?_ (fun hHeld => ?_)
                  · exact (Below.refl _ _).drew
                  refine tkE 0 (some 54) ?_ ?_ ?_
                  rotate_left
                  · (intro w hSw; (have t0 := cell_keep T0 hSw); (have t1 := cell_keep T1 hSw); (have t2 := cell_keep T2 hSw); (have t3 := cell_keep T3 hSw); (have r0 := cell_keep H0 hSw); (have r1 := cell_keep H1 hSw); (have r2 := cell_keep H2 hSw); go_simp <;> with_reducible rfl)
                  refine tkF 1 (some 55) ?_
                  refine tkE 2 (some 56) ?_ ?_ ?_
                  rotate_left
                  · (intro w hSw; (have t0 := cell_keep T0 hSw); (have t1 := cell_keep T1 hSw); (have t2 := cell_keep T2 hSw); (have t3 := cell_keep T3 hSw); (have r0 := cell_keep H0 hSw); (have r1 := cell_keep H1 hSw); (have r2 := cell_keep H2 hSw); go_simp <;> with_reducible rfl)
                  refine wpAnyH_ready (rs := [3]) (by kernel_rfl) (by simp) ?_
                  refine AllReadyH.cons rfl (fun K hK => ?_) AllReadyH.nil
                  go_simp
                  refine (HN.out _).mono ?_
                  rintro e w2 ⟨rfl, hb2⟩
                  go_wp2_with fail
                  refine hK.out _ _ ?_ (fun hHeld => ?_)
                  · exact kb (by assumption) hb2 (Nat.le_refl _)
                  clear hK K
                  try simp only [Act.put, List.setIfInBounds_toArray, List.set_cons_zero, List.set_cons_succ]
                  refine tkF 4 (some 58) ?_
                  refine tkF 5 (some 59) ?_
                  refine tkF 6 (some 60) ?_
                  refine tkF 7 (some 61) ?_
                  refine tkE 8 (some 62) ?_ ?_ ?_
                  rotate_left
                  · (intro w hSw; (have t0 := cell_keep T0 hSw); (have t1 := cell_keep T1 hSw); (have t2 := cell_keep T2 hSw); (have t3 := cell_keep T3 hSw); (have r0 := cell_keep H0 hSw); (have r1 := cell_keep H1 hSw); (have r2 := cell_keep H2 hSw); go_simp <;> with_reducible rfl)
                  refine tkF 9 (some 63) ?_
                  refine tkF 10 (some 64) ?_
                  refine tkF 11 (some 65) ?_
                  refine tkF 12 (some 66) ?_
                  refine tkF 13 (some 67) ?_
                  refine tkF 14 (some 68) ?_
                  refine tkF 15 (some 69) ?_
                  refine tkS 16 (some 70) ?_
                  refine tkS 17 (some 71) ?_
                  refine tkS 18 (some 72) ?_
                  refine tkS 19 (some 73) ?_
                  refine tkS 20 (some 74) ?_
                  refine tkS 21 (some 75) ?_
                  refine tkS 22 (some 76) ?_
                  refine tkS 23 (some 77) ?_
                  refine tkS 24 (some 78) ?_
                  refine tkS 25 (some 79) ?_
                  refine tkF 26 (some 80) ?_
                  refine tkF 27 (some 81) ?_
                  refine tkF 28 (some 82) ?_
                  refine tkF 29 (some 83) ?_
                  refine tkE 30 (some 84) ?_ ?_ ?_
                  rotate_left
                  · (intro w hSw; (have t0 := cell_keep T0 hSw); (have t1 := cell_keep T1 hSw); (have t2 := cell_keep T2 hSw); (have t3 := cell_keep T3 hSw); (have r0 := cell_keep H0 hSw); (have r1 := cell_keep H1 hSw); (have r2 := cell_keep H2 hSw); go_simp <;> with_reducible rfl)
                  refine tkF 31 (some 85) ?_
                  refine tkE 32 (some 86) ?_ ?_ ?_
                  rotate_left
                  · (intro w hSw; (have t0 := cell_keep T0 hSw); (have t1 := cell_keep T1 hSw); (have t2 := cell_keep T2 hSw); (have t3 := cell_keep T3 hSw); (have r0 := cell_keep H0 hSw); (have r1 := cell_keep H1 hSw); (have r2 := cell_keep H2 hSw); go_simp <;> with_reducible rfl)
                  refine tkF 33 (some 87) ?_
                  refine tkF 34 (some 88) ?_
                  refine tkS 35 (some 89) ?_
                  refine tkS 36 (some 90) ?_
                  refine tkS 37 (some 91) ?_
                  refine tkS 38 (some 92) ?_
                  refine tkF 39 (some 93) ?_
                  refine tkF 40 (some 94) ?_
                  refine wpAnyH_done (by kernel_rfl) ?_ _
                  go_wp2
                  refine ⟨⟨0 + 1, by omega, by go_num, fun i h hi => ?_, BV.trans (hHeld.mono (by omega))⟩, by simp [intOf] <;> omega⟩
                  rcases Nat.lt_or_ge i (0) with h1 | h1
                  · exact HL.out i h h1
                  · obtain rfl : i = 0 := by omega
                    rw [HX.out]
                    have hn := HNR.out
                    have hl := hlow.out
                    unfold NearIn at hn
                    exact ⟨by simp only [lowAt]; omega, hn.2.1, hn.2.2, by dsimp only; omega, fun h => hq h.1⟩
              · have hj1 : (((j + 1 : Nat) : Int) - 1) = (j : Int) := by omega
                have P0 : W1.cell? ⟨g, j * 3, none⟩ = some (.int .i64 xs[j].seq) := HP1.out j (by omega)
                have HPS : Hid (lowAt nx xs (j + 1) = xs[j].seq + 1) := lowAt_succ nx xs j (by omega)
                have d2 : decide ((0 : Int) < ((j + 1 : Nat) : Int)) = true := decide_eq_true (by omega)
                have hwj : IntKind.i64.wrap (j : Int) = (j : Int) := by rw [IntKind.wrap_i64]; omega
                have hjn : j < xs.length := by omega
                have hjl : (j : Int) < (xs.length : Int) := by omega
                generalize xs[j].seq = p at *
                by_cases hp : n ≤ p
                · have d4 : decide (n ≤ p) = true := by simpa using hp
                  refine wp_region_held_drew (S := (fun w' => Below W1.heap.size W1 w')) (by kernel_rfl) ?_ (fun hHeld => ?_)
                  · exact (Below.refl _ _).drew
                  refine tkE 0 (some 54) ?_ ?_ ?_
                  rotate_left
                  · (intro w hSw; (have t0 := cell_keep T0 hSw); (have t1 := cell_keep T1 hSw); (have t2 := cell_keep T2 hSw); (have t3 := cell_keep T3 hSw); (have r0 := cell_keep H0 hSw); (have r1 := cell_keep H1 hSw); (have r2 := cell_keep H2 hSw); (have p0 := cell_keep P0 hSw); go_simp <;> with_reducible rfl)
                  refine tkF 1 (some 55) ?_
                  refine tkE 2 (some 56) ?_ ?_ ?_
                  rotate_left
                  · (intro w hSw; (have t0 := cell_keep T0 hSw); (have t1 := cell_keep T1 hSw); (have t2 := cell_keep T2 hSw); (have t3 := cell_keep T3 hSw); (have r0 := cell_keep H0 hSw); (have r1 := cell_keep H1 hSw); (have r2 := cell_keep H2 hSw); (have p0 := cell_keep P0 hSw); go_simp <;> with_reducible rfl)
                  refine wpAnyH_ready (rs := [3]) (by kernel_rfl) (by simp) ?_
                  refine AllReadyH.cons rfl (fun K hK => ?_) AllReadyH.nil
                  go_simp
                  refine (HN.out _).mono ?_
                  rintro e w2 ⟨rfl, hb2⟩
                  go_wp2_with fail
                  refine hK.out _ _ ?_ (fun hHeld => ?_)
                  · exact kb (by assumption) hb2 (Nat.le_refl _)
                  clear hK K
                  try simp only [Act.put, List.setIfInBounds_toArray, List.set_cons_zero, List.set_cons_succ]
                  refine tkF 4 (some 58) ?_
                  refine tkF 5 (some 59) ?_
                  refine tkF 6 (some 60) ?_
                  refine tkF 7 (some 61) ?_
                  refine tkE 8 (some 62) ?_ ?_ ?_
                  rotate_left
                  · (intro w hSw; (have t0 := cell_keep T0 hSw); (have t1 := cell_keep T1 hSw); (have t2 := cell_keep T2 hSw); (have t3 := cell_keep T3 hSw); (have r0 := cell_keep H0 hSw); (have r1 := cell_keep H1 hSw); (have r2 := cell_keep H2 hSw); (have p0 := cell_keep P0 hSw); go_simp <;> with_reducible rfl)
                  refine tkF 9 (some 63) ?_
                  refine tkF 10 (some 64) ?_
                  refine tkF 11 (some 65) ?_
                  refine tkF 12 (some 66) ?_
                  refine tkF 13 (some 67) ?_
                  refine tkF 14 (some 68) ?_
                  refine tkF 15 (some 69) ?_
                  refine tkF 16 (some 70) ?_
                  refine tkE 17 (some 71) ?_ ?_ ?_
                  rotate_left
                  · (intro w hSw; (have t0 := cell_keep T0 hSw); (have t1 := cell_keep T1 hSw); (have t2 := cell_keep T2 hSw); (have t3 := cell_keep T3 hSw); (have r0 := cell_keep H0 hSw); (have r1 := cell_keep H1 hSw); (have r2 := cell_keep H2 hSw); (have p0 := cell_keep P0 hSw); go_simp <;> with_reducible rfl)
                  refine tkF 18 (some 72) ?_
                  refine tkF 19 (some 73) ?_
                  refine tkF 20 (some 74) ?_
                  refine tkF 21 (some 75) ?_
                  refine tkE 22 (some 76) ?_ ?_ ?_
                  rotate_left
                  · (intro w hSw; (have t0 := cell_keep T0 hSw); (have t1 := cell_keep T1 hSw); (have t2 := cell_keep T2 hSw); (have t3 := cell_keep T3 hSw); (have r0 := cell_keep H0 hSw); (have r1 := cell_keep H1 hSw); (have r2 := cell_keep H2 hSw); (have p0 := cell_keep P0 hSw); go_simp <;> with_reducible rfl)
                  refine tkF 23 (some 77) ?_
                  refine tkE 24 (some 78) ?_ ?_ ?_
                  rotate_left
                  · (intro w hSw; (have t0 := cell_keep T0 hSw); (have t1 := cell_keep T1 hSw); (have t2 := cell_keep T2 hSw); (have t3 := cell_keep T3 hSw); (have r0 := cell_keep H0 hSw); (have r1 := cell_keep H1 hSw); (have r2 := cell_keep H2 hSw); (have p0 := cell_keep P0 hSw); go_simp <;> with_reducible rfl)
                  refine tkF 25 (some 79) ?_
                  refine tkF 26 (some 80) ?_
                  refine tkF 27 (some 81) ?_
                  refine tkF 28 (some 82) ?_
                  refine tkS 29 (some 83) ?_
                  refine tkS 30 (some 84) ?_
                  refine tkS 31 (some 85) ?_
                  refine tkS 32 (some 86) ?_
                  refine tkS 33 (some 87) ?_
                  refine tkS 34 (some 88) ?_
                  refine tkS 35 (some 89) ?_
                  refine tkS 36 (some 90) ?_
                  refine tkS 37 (some 91) ?_
                  refine tkS 38 (some 92) ?_
                  refine tkS 39 (some 93) ?_
                  refine tkF 40 (some 94) ?_
                  refine wpAnyH_done (by kernel_rfl) ?_ _
                  go_wp2
                  go_ret
                  exact ⟨ret_b (by rw [tkOk_no (fun h => by have := (h.2.2 (j + 1) hlt).1; rw [HX.out, HPS.out] at this; dsimp only at this; omega)]), kb BW hHeld (Nat.le_refl _)⟩
                · have d4 : decide (n ≤ p) = false := by simpa using hp
                  have d3 : (n == nx) = false := by have := hlow.out; rw [HPS.out] at this; simp; omega
                  refine wp_region_held_drew (S := (fun w' => Below W1.heap.size W1 w')) (by kernel_rfl) ?_ (fun hHeld => ?_)
                  · exact (Below.refl _ _).drew
                  refine tkE 0 (some 54) ?_ ?_ ?_
                  rotate_left
                  · (intro w hSw; (have t0 := cell_keep T0 hSw); (have t1 := cell_keep T1 hSw); (have t2 := cell_keep T2 hSw); (have t3 := cell_keep T3 hSw); (have r0 := cell_keep H0 hSw); (have r1 := cell_keep H1 hSw); (have r2 := cell_keep H2 hSw); (have p0 := cell_keep P0 hSw); go_simp <;> with_reducible rfl)
                  refine tkF 1 (some 55) ?_
                  refine tkE 2 (some 56) ?_ ?_ ?_
                  rotate_left
                  · (intro w hSw; (have t0 := cell_keep T0 hSw); (have t1 := cell_keep T1 hSw); (have t2 := cell_keep T2 hSw); (have t3 := cell_keep T3 hSw); (have r0 := cell_keep H0 hSw); (have r1 := cell_keep H1 hSw); (have r2 := cell_keep H2 hSw); (have p0 := cell_keep P0 hSw); go_simp <;> with_reducible rfl)
                  refine wpAnyH_ready (rs := [3]) (by kernel_rfl) (by simp) ?_
                  refine AllReadyH.cons rfl (fun K hK => ?_) AllReadyH.nil
                  go_simp
                  refine (HN.out _).mono ?_
                  rintro e w2 ⟨rfl, hb2⟩
                  go_wp2_with fail
                  refine hK.out _ _ ?_ (fun hHeld => ?_)
                  · exact kb (by assumption) hb2 (Nat.le_refl _)
                  clear hK K
                  try simp only [Act.put, List.setIfInBounds_toArray, List.set_cons_zero, List.set_cons_succ]
                  refine tkF 4 (some 58) ?_
                  refine tkF 5 (some 59) ?_
                  refine tkF 6 (some 60) ?_
                  refine tkF 7 (some 61) ?_
                  refine tkE 8 (some 62) ?_ ?_ ?_
                  rotate_left
                  · (intro w hSw; (have t0 := cell_keep T0 hSw); (have t1 := cell_keep T1 hSw); (have t2 := cell_keep T2 hSw); (have t3 := cell_keep T3 hSw); (have r0 := cell_keep H0 hSw); (have r1 := cell_keep H1 hSw); (have r2 := cell_keep H2 hSw); (have p0 := cell_keep P0 hSw); go_simp <;> with_reducible rfl)
                  refine tkF 9 (some 63) ?_
                  refine tkF 10 (some 64) ?_
                  refine tkF 11 (some 65) ?_
                  refine tkF 12 (some 66) ?_
                  refine tkF 13 (some 67) ?_
                  refine tkF 14 (some 68) ?_
                  refine tkF 15 (some 69) ?_
                  refine tkF 16 (some 70) ?_
                  refine tkE 17 (some 71) ?_ ?_ ?_
                  rotate_left
                  · (intro w hSw; (have t0 := cell_keep T0 hSw); (have t1 := cell_keep T1 hSw); (have t2 := cell_keep T2 hSw); (have t3 := cell_keep T3 hSw); (have r0 := cell_keep H0 hSw); (have r1 := cell_keep H1 hSw); (have r2 := cell_keep H2 hSw); (have p0 := cell_keep P0 hSw); go_simp <;> with_reducible rfl)
                  refine tkF 18 (some 72) ?_
                  refine tkF 19 (some 73) ?_
                  refine tkF 20 (some 74) ?_
                  refine tkF 21 (some 75) ?_
                  refine tkE 22 (some 76) ?_ ?_ ?_
                  rotate_left
                  · (intro w hSw; (have t0 := cell_keep T0 hSw); (have t1 := cell_keep T1 hSw); (have t2 := cell_keep T2 hSw); (have t3 := cell_keep T3 hSw); (have r0 := cell_keep H0 hSw); (have r1 := cell_keep H1 hSw); (have r2 := cell_keep H2 hSw); (have p0 := cell_keep P0 hSw); go_simp <;> with_reducible rfl)
                  refine tkF 23 (some 77) ?_
                  refine tkE 24 (some 78) ?_ ?_ ?_
                  rotate_left
                  · (intro w hSw; (have t0 := cell_keep T0 hSw); (have t1 := cell_keep T1 hSw); (have t2 := cell_keep T2 hSw); (have t3 := cell_keep T3 hSw); (have r0 := cell_keep H0 hSw); (have r1 := cell_keep H1 hSw); (have r2 := cell_keep H2 hSw); (have p0 := cell_keep P0 hSw); go_simp <;> with_reducible rfl)
                  refine tkF 25 (some 79) ?_
                  refine tkF 26 (some 80) ?_
                  refine tkF 27 (some 81) ?_
                  refine tkF 28 (some 82) ?_
                  refine tkF 29 (some 83) ?_
                  refine tkE 30 (some 84) ?_ ?_ ?_
                  rotate_left
                  · (intro w hSw; (have t0 := cell_keep T0 hSw); (have t1 := cell_keep T1 hSw); (have t2 := cell_keep T2 hSw); (have t3 := cell_keep T3 hSw); (have r0 := cell_keep H0 hSw); (have r1 := cell_keep H1 hSw); (have r2 := cell_keep H2 hSw); (have p0 := cell_keep P0 hSw); go_simp <;> with_reducible rfl)
                  refine tkF 31 (some 85) ?_
                  refine tkE 32 (some 86) ?_ ?_ ?_
                  rotate_left
                  · (intro w hSw; (have t0 := cell_keep T0 hSw); (have t1 := cell_keep T1 hSw); (have t2 := cell_keep T2 hSw); (have t3 := cell_keep T3 hSw); (have r0 := cell_keep H0 hSw); (have r1 := cell_keep H1 hSw); (have r2 := cell_keep H2 hSw); (have p0 := cell_keep P0 hSw); go_simp <;> with_reducible rfl)
                  refine tkF 33 (some 87) ?_
                  refine tkF 34 (some 88) ?_
                  refine tkS 35 (some 89) ?_
                  refine tkS 36 (some 90) ?_
                  refine tkS 37 (some 91) ?_
                  refine tkS 38 (some 92) ?_
                  refine tkF 39 (some 93) ?_
                  refine tkF 40 (some 94) ?_
                  refine wpAnyH_done (by kernel_rfl) ?_ _
                  go_wp2
                  refine ⟨⟨j + 1 + 1, by omega, by go_num, fun i h hi => ?_, BV.trans (hHeld.mono (by omega))⟩, by simp [intOf] <;> omega⟩
                  rcases Nat.lt_or_ge i (j + 1) with h1 | h1
                  · exact HL.out i h h1
                  · obtain rfl : i = j + 1 := by omega
                    rw [HX.out]
                    have hn := HNR.out
                    have hl := hlow.out
                    unfold NearIn at hn
                    exact ⟨by rw [HPS.out]; dsimp only; omega, hn.2.1, hn.2.2, by dsimp only; omega, fun h => by have := h.1; dsimp only at this; rw [HPS.out] at hl; omega⟩
          · have dn : decide (NearIn nx n) = false := decide_eq_false hnear
            rw [dn] at HN
            refine wp_region_held_drew (S := (fun w' => Below W1.heap.size W1 w')) (by kernel_rfl) ?_ (fun hHeld => ?_)
            · exact (Below.refl _ _).drew
            refine tkE 0 (some 54) ?_ ?_ ?_
            rotate_left
            · (intro w hSw; (have t0 := cell_keep T0 hSw); (have t1 := cell_keep T1 hSw); (have t2 := cell_keep T2 hSw); (have t3 := cell_keep T3 hSw); (have r0 := cell_keep H0 hSw); (have r1 := cell_keep H1 hSw); (have r2 := cell_keep H2 hSw); go_simp <;> with_reducible rfl)
            refine tkF 1 (some 55) ?_
            refine tkE 2 (some 56) ?_ ?_ ?_
            rotate_left
            · (intro w hSw; (have t0 := cell_keep T0 hSw); (have t1 := cell_keep T1 hSw); (have t2 := cell_keep T2 hSw); (have t3 := cell_keep T3 hSw); (have r0 := cell_keep H0 hSw); (have r1 := cell_keep H1 hSw); (have r2 := cell_keep H2 hSw); go_simp <;> with_reducible rfl)
            refine wpAnyH_ready (rs := [3]) (by kernel_rfl) (by simp) ?_
            refine AllReadyH.cons rfl (fun K hK => ?_) AllReadyH.nil
            go_simp
            refine (HN.out _).mono ?_
            rintro e w2 ⟨rfl, hb2⟩
            go_wp2_with fail
            refine hK.out _ _ ?_ (fun hHeld => ?_)
            · exact kb (by assumption) hb2 (Nat.le_refl _)
            clear hK K
            try simp only [Act.put, List.setIfInBounds_toArray, List.set_cons_zero, List.set_cons_succ]
            refine tkF 4 (some 58) ?_
            refine tkF 5 (some 59) ?_
            refine tkS 6 (some 60) ?_
            refine tkS 7 (some 61) ?_
            refine tkS 8 (some 62) ?_
            refine tkS 9 (some 63) ?_
            refine tkS 10 (some 64) ?_
            refine tkF 11 (some 65) ?_
            refine tkF 12 (some 66) ?_
            refine tkS 13 (some 67) ?_
            refine tkS 14 (some 68) ?_
            refine tkS 15 (some 69) ?_
            refine tkS 16 (some 70) ?_
            refine tkS 17 (some 71) ?_
            refine tkS 18 (some 72) ?_
            refine tkS 19 (some 73) ?_
            refine tkS 20 (some 74) ?_
            refine tkS 21 (some 75) ?_
            refine tkS 22 (some 76) ?_
            refine tkS 23 (some 77) ?_
            refine tkS 24 (some 78) ?_
            refine tkS 25 (some 79) ?_
            refine tkS 26 (some 80) ?_
            refine tkF 27 (some 81) ?_
            refine tkF 28 (some 82) ?_
            refine tkS 29 (some 83) ?_
            refine tkS 30 (some 84) ?_
            refine tkS 31 (some 85) ?_
            refine tkS 32 (some 86) ?_
            refine tkS 33 (some 87) ?_
            refine tkS 34 (some 88) ?_
            refine tkS 35 (some 89) ?_
            refine tkS 36 (some 90) ?_
            refine tkS 37 (some 91) ?_
            refine tkS 38 (some 92) ?_
            refine tkS 39 (some 93) ?_
            refine tkF 40 (some 94) ?_
            refine wpAnyH_done (by kernel_rfl) ?_ _
            go_wp2
            go_ret
            exact ⟨ret_b (by rw [tkOk_no (fun h => by have := h.2.2 k hlt; rw [HX.out] at this; have h0 := hlow.out; exact hnear ⟨by have := this.1; dsimp only at this; omega, this.2.1, this.2.2.1⟩)]), kb BW hHeld (Nat.le_refl _)⟩
        · obtain rfl : k = xs.length := by omega
          go_wp2
          go_ret
          exact ⟨ret_b (by rw [tkOk_yes ⟨HH.out, HRZ.out, fun i h => HL.out i h h⟩]), hbel0⟩
end Go.Proofs.Ytmliinglojmojab.mk

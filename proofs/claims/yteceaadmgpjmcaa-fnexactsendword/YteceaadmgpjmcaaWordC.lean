/-
  WORDS: the ring hears.
-/
import Derived.Test.YteceaadmgpjmcaaWordB
import Derived.Deep.RegionWith
namespace Go.Proofs.Yteceaadmgpjmcaa.mk
open Go.RowKit
set_option linter.unusedVariables false

theorem bit_and : ∀ x : Fin 256, bits BinOp.and IntKind.i64 ((x.val : Nat) : Int) 1 = ((x.val % 2 : Nat) : Int) := by decide +kernel
theorem bit_at (m k : Nat) (hm : m ≤ 255) : bits BinOp.and IntKind.i64 ((m : Int) / 2 ^ k) 1 = ((m / 2 ^ k % 2 : Nat) : Int) := by
  have h : m / 2 ^ k < 256 := Nat.lt_of_le_of_lt (Nat.div_le_self _ _) (by omega)
  have := bit_and ⟨m / 2 ^ k, h⟩
  simpa using this
theorem ring_first {base : Nat} {R : Rl} {cs : List Value} {w w' : World} {v : Value} (h : Ring base R cs w) (hb : Below w.heap.size w w') (h0 : cs[240]? = some v) : w'.cell? ⟨R, 240, none⟩ = some v := ((h.keep hb).cell 240 (by omega)).trans h0
theorem ring_drew {base : Nat} {R : Rl} {cs : List Value} {w : World} (h : Ring base R cs w) : Ring base R cs w.drew := h.drew
set_option maxHeartbeats 1000000 in
theorem hear_low (base : Nat) (R : Rl) (b : Nat) (cs : List Value) (xs : List It) (next mask : Int) (w : World) (hb : b ≤ 1000000) (hn : xs.length ≤ 60) (hv : ∀ i (h : i < xs.length), -1 ≤ xs[i].since ∧ xs[i].since ≤ 3) (hr : Ring base R cs w) (hH : Holds b xs cs) (hno : ¬ ((b : Int) ≤ next ∧ next ≤ ((b + front xs : Nat) : Int))) :
    Calls Try.prog 64 #[.pointer (some ⟨R, 0, none⟩), .int .i64 next, .int .i64 mask] w fun x w' => (∃ v, x = .returned v) ∧ Below w.heap.size w w' := by
  have hF := (hr.cell 240 (by omega)).trans hH.2.1
  have HS : Hid (∀ u : World, Ring base R cs u → Calls Try.prog 87 #[.pointer (some ⟨R, 0, none⟩)] u fun x w' => x = .returned (.int .i64 ((b + front xs : Nat) : Int)) ∧ Below u.heap.size u w') := fun u h => sentEnd_any base R b cs xs u hb hn hv h hH
  have HW : Hid (∀ u : World, Calls Try.prog 42 #[.int .i64 next, .int .i64 (b : Int), .int .i64 ((b + front xs : Nat) : Int)] u fun e w' => e = .returned (.bool false) ∧ u = w') := fun u => within_false next _ _ u (by omega)
  have HR : Hid (Ring base R cs w) := hr
  have H0 : Hid (cs[240]? = some (.int .i64 (b : Int))) := hH.2.1
  clear hr hH hv hno
  generalize front xs = fr at *
  go_enter Try.func64, Try.ntmps64
  go_wp2
  first
    | (go_region_with (first
        | (go_at_call 87; refine (HS.out _ (ring_drew HR.out)).mono ?_; rintro e w2 ⟨rfl, hb2⟩; (have y0 := ring_first (ring_drew HR.out) hb2 H0.out))
        | (go_at_call 42; refine (HW.out _).mono ?_; rintro e w' ⟨rfl, rfl⟩)))
    | fail
  all_goals
    have B2 := (Below.refl w.heap.size w).drew.trans hb2
    go_wp2
    exact bodyPost_ret (v := .tuple #[]) (by simp [results, Try.results64, go_sem]) rfl ⟨⟨_, rfl⟩, B2⟩
set_option maxHeartbeats 1000000 in
theorem hear_mask (base : Nat) (R : Rl) (b : Nat) (cs : List Value) (xs : List It) (next mask : Int) (w : World) (hb : b ≤ 1000000) (hn : xs.length ≤ 60) (hv : ∀ i (h : i < xs.length), -1 ≤ xs[i].since ∧ xs[i].since ≤ 3) (hr : Ring base R cs w) (hH : Holds b xs cs) (hyes : (b : Int) ≤ next ∧ next ≤ ((b + front xs : Nat) : Int)) (hno : ¬ (0 ≤ mask ∧ mask ≤ 255)) :
    Calls Try.prog 64 #[.pointer (some ⟨R, 0, none⟩), .int .i64 next, .int .i64 mask] w fun x w' => (∃ v, x = .returned v) ∧ Below w.heap.size w w' := by
  have hF := (hr.cell 240 (by omega)).trans hH.2.1
  have HS : Hid (∀ u : World, Ring base R cs u → Calls Try.prog 87 #[.pointer (some ⟨R, 0, none⟩)] u fun x w' => x = .returned (.int .i64 ((b + front xs : Nat) : Int)) ∧ Below u.heap.size u w') := fun u h => sentEnd_any base R b cs xs u hb hn hv h hH
  have HW : Hid (∀ u : World, Calls Try.prog 42 #[.int .i64 next, .int .i64 (b : Int), .int .i64 ((b + front xs : Nat) : Int)] u fun e w' => e = .returned (.bool true) ∧ u = w') := fun u => within_true next _ _ u hyes.1 hyes.2
  have HM : Hid (∀ u : World, Calls Try.prog 42 #[.int .i64 mask, .int .i64 0, .int .i64 255] u fun e w' => e = .returned (.bool false) ∧ u = w') := fun u => within_false mask _ _ u (by omega)
  have HR : Hid (Ring base R cs w) := hr
  have H0 : Hid (cs[240]? = some (.int .i64 (b : Int))) := hH.2.1
  clear hr hH hv hno hyes
  generalize front xs = fr at *
  go_enter Try.func64, Try.ntmps64
  go_wp2
  go_region_held3 (fun w' => w'.cell? ⟨R, 240, none⟩ = some (.int .i64 (b : Int)) ∧ Ring base R cs w' ∧ Below w.heap.size w w') (first | assumption | exact ⟨hF, ring_drew HR.out, (Below.refl _ _).drew⟩ | (go_split_ands; exact ⟨ring_first (by assumption) hb2 H0.out, Ring.keep (by assumption) hb2, kb (by assumption) hb2 (Nat.le_refl _)⟩)) (first | (go_at_call 87; refine (HS.out _ (by go_split_ands; assumption)).mono ?_; rintro e w2 ⟨rfl, hb2⟩) | (go_at_call_of 42 (Value.int IntKind.i64 255); refine (HM.out _).mono ?_; rintro e w' ⟨rfl, rfl⟩) | (go_at_call 42; refine (HW.out _).mono ?_; rintro e w' ⟨rfl, rfl⟩))
  have B2 : Below w.heap.size w w2 := by go_split_ands; assumption
  go_wp2
  exact bodyPost_ret (v := .tuple #[]) (by simp [results, Try.results64, go_sem]) rfl ⟨⟨_, rfl⟩, B2⟩
set_option maxRecDepth 100000 in
set_option maxHeartbeats 2000000 in
theorem hear_yes (base : Nat) (R : Rl) (b d m : Nat) (cs : List Value) (xs : List It) (w : World) (hb : b ≤ 1000000) (hn : xs.length ≤ 60) (hv : ∀ i (h : i < xs.length), -1 ≤ xs[i].since ∧ xs[i].since ≤ 3) (hr : Ring base R cs w) (hH : Holds b xs cs) (hd : d ≤ front xs) (hm : m ≤ 255) :
    Calls Try.prog 64 #[.pointer (some ⟨R, 0, none⟩), .int .i64 ((b + d : Nat) : Int), .int .i64 (m : Int)] w fun x w' => (∃ v cs', x = .returned v ∧ Ring base R cs' w' ∧ Holds (b + d) (hdn m (xs.drop d) 8) cs') ∧ w.grownBy w' (some R) := by
  have hfl := front_le xs
  have hF := (hr.cell 240 (by omega)).trans hH.2.1
  have f40 := hr.frozen 240
  have HS : Hid (∀ u : World, Ring base R cs u → Calls Try.prog 87 #[.pointer (some ⟨R, 0, none⟩)] u fun x w' => x = .returned (.int .i64 ((b + front xs : Nat) : Int)) ∧ Below u.heap.size u w') := fun u h => sentEnd_any base R b cs xs u hb hn hv h hH
  have HW : Hid (∀ u : World, Calls Try.prog 42 #[.int .i64 ((b + d : Nat) : Int), .int .i64 (b : Int), .int .i64 ((b + front xs : Nat) : Int)] u fun e w' => e = .returned (.bool true) ∧ u = w') := fun u => within_true _ _ _ u (by omega) (by omega)
  have HM : Hid (∀ u : World, Calls Try.prog 42 #[.int .i64 (m : Int), .int .i64 0, .int .i64 255] u fun e w' => e = .returned (.bool true) ∧ u = w') := fun u => within_true _ _ _ u (by omega) (by omega)
  have HR : Hid (Ring base R cs w) := hr
  have H0 : Hid (cs[240]? = some (.int .i64 (b : Int))) := hH.2.1
  have HD : Hid (Holds (b + d) (xs.drop d) (cs.set 240 (.int .i64 ((b + d : Nat) : Int)))) := hH.drop hn d (by omega)
  have HV : Hid (∀ i (h : i < (xs.drop d).length), -1 ≤ (xs.drop d)[i].since ∧ (xs.drop d)[i].since ≤ 3) := fun i h => by rw [List.getElem_drop]; exact hv _ _
  have hyl : (xs.drop d).length ≤ 60 := by rw [List.length_drop]; omega
  obtain ⟨ys, hys⟩ : ∃ ys, ys = xs.drop d := ⟨_, rfl⟩
  rw [← hys] at HD HV hyl ⊢
  have hcb : b + d ≤ 1000100 := by omega
  have hcy : b + d + ys.length ≤ 1000100 := by rw [hys, List.length_drop]; omega
  obtain ⟨c, hc⟩ : ∃ c, c = b + d := ⟨_, rfl⟩
  rw [← hc] at HW HD hcb hcy ⊢
  clear hr hH hv hd hys hfl hc
  generalize front xs = fr at *
  go_enter Try.func64, Try.ntmps64
  go_wp2
  go_region_held3 (fun w' => w'.cell? ⟨R, 240, none⟩ = some (.int .i64 (b : Int)) ∧ Ring base R cs w' ∧ Below w.heap.size w w') (first | assumption | exact ⟨hF, ring_drew HR.out, (Below.refl _ _).drew⟩ | (go_split_ands; exact ⟨ring_first (by assumption) hb2 H0.out, Ring.keep (by assumption) hb2, kb (by assumption) hb2 (Nat.le_refl _)⟩)) (first | (go_at_call 87; refine (HS.out _ (by go_split_ands; assumption)).mono ?_; rintro e w2 ⟨rfl, hb2⟩) | (go_at_call_of 42 (Value.int IntKind.i64 255); refine (HM.out _).mono ?_; rintro e w' ⟨rfl, rfl⟩) | (go_at_call 42; refine (HW.out _).mono ?_; rintro e w' ⟨rfl, rfl⟩))
  have B2 : Below w.heap.size w w2 := by go_split_ands; assumption
  have G2 : Ring base R cs w2 := by go_split_ands; assumption
  have z2 := G2.frozen 240
  have k2 := (G2.cell 240 (by omega)).trans H0.out
  have G3 := G2.put 240 (.int .i64 (c : Int))
  have gr3 : w.grownBy (w2.setCell ⟨R, 240, none⟩ (.int .i64 (c : Int))) (some R) := (grow_below _ B2).trans (grow_set _ ⟨R, 240, none⟩ (.int .i64 (c : Int)))
  clear HS HW HM HR H0 hF f40
  go_wp2
  go_loopw [6] (fun i wr => ∃ (k : Nat) (cs : List Value), k ≤ min 8 ys.length ∧ i = .int .i64 ((c + k : Nat) : Int) ∧ Ring base R cs wr ∧ Holds c (hdn m ys k) cs ∧ w.grownBy wr (some R)) (fun i _ => c + 8 - (intOf i).toNat)
  case atStart => exact ⟨0, _, Nat.zero_le _, rfl, G3, HD.out, gr3⟩
  case round =>
    clear G2 G3 gr3 HD z2 k2 B2
    obtain ⟨k, cs, hk, rfl, hring, hH, hgr⟩ := hrel
    have htl := hdn_length m ys k
    have hF := (hring.cell 240 (by omega)).trans hH.2.1
    have hE := (hring.cell 241 (by omega)).trans hH.2.2.1
    have H1 : Hid (cs[240]? = some (.int .i64 (c : Int))) := hH.2.1
    rw [htl] at hE
    have hWE := fun (u : World) (h1 : u.cell? ⟨R, 240, none⟩ = some (.int .i64 (c : Int))) (h2 : u.cell? ⟨R, 241, none⟩ = some (.int .i64 ((c + ys.length : Nat) : Int))) => windowEnd_any R c (c + ys.length) u (by omega) (by omega) h1 h2
    have hmin : min (c + 8) (c + ys.length) = c + min 8 ys.length := by omega
    rw [hmin] at hWE
    have HWE : Hid (∀ u : World, u.cell? ⟨R, 240, none⟩ = some (.int .i64 (c : Int)) → u.cell? ⟨R, 241, none⟩ = some (.int .i64 ((c + ys.length : Nat) : Int)) → Calls Try.prog 88 #[.pointer (some ⟨R, 0, none⟩)] u fun x w' => x = .returned (.int .i64 ((c + min 8 ys.length : Nat) : Int)) ∧ Below u.heap.size u w') := hWE
    clear hWE hmin
    obtain ⟨K, hK⟩ : ∃ K, K = min 8 ys.length := ⟨_, rfl⟩
    rw [← hK] at hk HWE
    have hK8 : K ≤ 8 := by omega
    have hKn : K ≤ ys.length := by omega
    have HK : Hid (K = min 8 ys.length) := hK
    clear hK
    obtain ⟨q, hq⟩ : ∃ q, q = c + k := ⟨_, rfl⟩
    obtain ⟨E, hEq⟩ : ∃ E, E = c + K := ⟨_, rfl⟩
    rw [← hEq] at HWE
    rw [← hq]
    have hqb : q ≤ 1000200 := by omega
    have hEb : E ≤ 1000200 := by omega
    by_cases hlk : k < K
    · have hkn : k < ys.length := by omega
      have hQE : q < E := by omega
      obtain ⟨c0, c1, c2, c3⟩ := hH.2.2.2 k (by rw [htl]; exact hkn)
      simp only [hdn_at m ys k hkn, ← hq] at c0 c1 c2 c3
      have hv := HV.out k hkn
      have HQ : Hid (q = c + k) := hq
      have hqc : (q : Int) - (c : Int) = (k : Int) := by omega
      by_cases hs : 0 ≤ ys[k].since
      · by_cases hbit : m / 2 ^ k % 2 = 1
        · have HN : Hid (Holds c (hdn m ys (k + 1)) (cs.set (q % 60 * 4 + 2) (.bool true))) := (by
            have := hH.had (by rw [htl]; exact hyl) k (by rw [htl]; exact hkn)
            simp only [hdn_at m ys k hkn] at this
            rw [hdn_yes m ys k hkn hbit hs, hq]
            exact this : Holds c (hdn m ys (k + 1)) (cs.set (q % 60 * 4 + 2) (.bool true)))
          have hbt := bit_at m k hm
          rw [hbit] at hbt
          clear hH hq hEq hbit
          generalize ys[k].text = s at *
          generalize ys[k].last = l at *
          generalize ys[k].has = h at *
          generalize ys[k].since = n at *
          go_wp2_with (first | (go_at_call 88; refine (HWE.out _ hF hE).mono ?_; rintro x w1 ⟨rfl, hb1⟩; (have g1 := hring.keep hb1); (have p0 := (g1.cell (q % 60 * 4) (by omega)).trans c0); (have p1 := (g1.cell (q % 60 * 4 + 1) (by omega)).trans c1); (have p2 := (g1.cell (q % 60 * 4 + 2) (by omega)).trans c2); (have p3 := (g1.cell (q % 60 * 4 + 3) (by omega)).trans c3)) | (go_at_call 84; refine (at_any R q _ (by omega)).mono ?_; rintro x w' ⟨rfl, rfl⟩) | (go_at_call 89; refine (wasSent_yes _ _ _ _ _ (by omega)).mono ?_; rintro x w2 ⟨rfl, hb2⟩; (have g2 := g1.keep hb2); (have u2 := (g2.cell (q % 60 * 4 + 2) (by omega)).trans c2); (have z2 := g2.frozen (q % 60 * 4 + 2)); (have u0 := (g2.cell 240 (by omega)).trans H1.out)))
          refine ⟨⟨k + 1, _, by have := HK.out; omega, by have := HQ.out; go_num, g2.put (q % 60 * 4 + 2) (.bool true), HN.out, ((hgr.trans (grow_below _ hb1)).trans (grow_below _ hb2)).trans (grow_set _ ⟨R, q % 60 * 4 + 2, none⟩ (.bool true))⟩, by have := HQ.out; simp [intOf]; omega⟩
        · have HN : Hid (Holds c (hdn m ys (k + 1)) cs) := (by rw [hdn_no m ys k (fun _ h => hbit h.1)]; exact hH : Holds c (hdn m ys (k + 1)) cs)
          have hbt := bit_at m k hm
          rw [show m / 2 ^ k % 2 = 0 by omega] at hbt
          clear hH hq hEq hbit
          generalize ys[k].text = s at *
          generalize ys[k].last = l at *
          generalize ys[k].has = h at *
          generalize ys[k].since = n at *
          go_wp2_with (first | (go_at_call 88; refine (HWE.out _ hF hE).mono ?_; rintro x w1 ⟨rfl, hb1⟩; (have g1 := hring.keep hb1); (have p0 := (g1.cell (q % 60 * 4) (by omega)).trans c0); (have p1 := (g1.cell (q % 60 * 4 + 1) (by omega)).trans c1); (have p2 := (g1.cell (q % 60 * 4 + 2) (by omega)).trans c2); (have p3 := (g1.cell (q % 60 * 4 + 3) (by omega)).trans c3)) | (go_at_call 84; refine (at_any R q _ (by omega)).mono ?_; rintro x w' ⟨rfl, rfl⟩) | (go_at_call 89; refine (wasSent_yes _ _ _ _ _ (by omega)).mono ?_; rintro x w2 ⟨rfl, hb2⟩; (have g2 := g1.keep hb2); (have u2 := (g2.cell (q % 60 * 4 + 2) (by omega)).trans c2); (have z2 := g2.frozen (q % 60 * 4 + 2)); (have u0 := (g2.cell 240 (by omega)).trans H1.out)))
          refine ⟨⟨k + 1, _, by have := HK.out; omega, by have := HQ.out; go_num, g2, HN.out, (hgr.trans (grow_below _ hb1)).trans (grow_below _ hb2)⟩, by have := HQ.out; simp [intOf]; omega⟩
      · have HN : Hid (Holds c (hdn m ys (k + 1)) cs) := (by rw [hdn_no m ys k (fun _ h => by rw [List.getElem?_eq_getElem hkn] at h; exact hs (by simpa using h.2))]; exact hH : Holds c (hdn m ys (k + 1)) cs)
        have hs1 : ys[k].since = -1 := by omega
        rw [hs1] at c3
        clear hH hq hEq hs hs1 hv
        generalize ys[k].text = s at *
        generalize ys[k].last = l at *
        generalize ys[k].has = h at *
        go_wp2_with (first | (go_at_call 88; refine (HWE.out _ hF hE).mono ?_; rintro x w1 ⟨rfl, hb1⟩; (have g1 := hring.keep hb1); (have p0 := (g1.cell (q % 60 * 4) (by omega)).trans c0); (have p1 := (g1.cell (q % 60 * 4 + 1) (by omega)).trans c1); (have p2 := (g1.cell (q % 60 * 4 + 2) (by omega)).trans c2); (have p3 := (g1.cell (q % 60 * 4 + 3) (by omega)).trans c3)) | (go_at_call 84; refine (at_any R q _ (by omega)).mono ?_; rintro x w' ⟨rfl, rfl⟩) | (go_at_call 89; refine (wasSent_no _ _ _ _).mono ?_; rintro x w2 ⟨rfl, hb2⟩))
        refine ⟨⟨k + 1, _, by have := HK.out; omega, by have := HQ.out; go_num, g1.keep hb2, HN.out, (hgr.trans (grow_below _ hb1)).trans (grow_below _ hb2)⟩, by have := HQ.out; simp [intOf]; omega⟩
    · obtain rfl : k = K := by omega
      have hQE : ¬ q < E := by omega
      have HN : Hid (Holds c (hdn m ys 8) cs) := (by rw [← hdn_min, ← HK.out]; exact hH : Holds c (hdn m ys 8) cs)
      clear hH hq hEq hlk
      go_wp2_with (go_at_call 88; refine (HWE.out _ hF hE).mono ?_; rintro x w1 ⟨rfl, hb1⟩)
      go_end0
      exact ⟨⟨_, cs, rfl, hring.keep hb1, HN.out⟩, hgr.trans (grow_below _ hb1)⟩
end Go.Proofs.Yteceaadmgpjmcaa.mk

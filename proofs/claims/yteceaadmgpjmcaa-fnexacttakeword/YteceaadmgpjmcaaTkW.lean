/-
  WHAT A WORD TELLS: impl.TakeWord, spec.TakeWord.
-/
import Derived.Test.YteceaadmgpjmcaaRgC
namespace Go.Proofs.Yteceaadmgpjmcaa.mk
open Go.RowKit
set_option linter.unusedVariables false

open Classical in
noncomputable def tellOf (nx : Int) (xs : List Hd) (o : ByteArray) (rs : List ByteArray) : Int × Nat := if tkOk nx xs o rs = true then (nx, tells nx.toNat xs) else (0, 0)
theorem tellOf_no {nx : Int} {xs : List Hd} {o : ByteArray} {rs : List ByteArray} (h : tkOk nx xs o rs = false) : tellOf nx xs o rs = (0, 0) := by unfold tellOf; rw [if_neg (by simp [h])]
theorem tellOf_yes {nx : Nat} {xs : List Hd} {o : ByteArray} {rs : List ByteArray} (h : tkOk (nx : Int) xs o rs = true) : tellOf (nx : Int) xs o rs = ((nx : Int), tells nx xs) := by unfold tellOf; rw [if_pos h, Int.toNat_natCast]
theorem Win.take {nx : Nat} {xs : List Hd} (h : Win nx xs) (k : Nat) : Win nx (xs.take k) := by
  refine ⟨fun i hi => ?_, fun i j hi hj hij => ?_⟩
  · rw [List.getElem_take]; exact h.1 i (by simp at hi; omega)
  · rw [List.getElem_take, List.getElem_take]; exact h.2 i j (by simp at hi; omega) (by simp at hj; omega) hij
theorem tells_lt {nx : Nat} {xs : List Hd} (h : Win nx xs) : tells nx xs < 256 := by rw [← rot_tells nx xs h]; exact rot_small xs nx
theorem implTell_no (nx : Int) (ao so : Option Addr) (ca cs : Nat) (xs : List Hd) (o : ByteArray) (rs : List ByteArray) (w : World) (hn : xs.length ≤ 1048576) (ht : ∀ i (h : i < xs.length), xs[i].text.size ≤ 1048576) (ho : o.size ≤ 1048576) (hk : rs.length ≤ 1048576) (hz : ∀ i (h : i < rs.length), rs[i].size ≤ 1048576) (hr : Rt w ao so xs rs) (hv : tkOk nx xs o rs = false) :
    Calls Try.prog 15 #[.agg #[.int .i64 nx, .slice ao xs.length ca, .string o, .slice so rs.length cs]] w fun e w' => e = .returned (.tuple #[.int .i64 0, .int .i64 0]) ∧ Below w.heap.size w w' := by
  have HC : Hid (∀ u : World, Rt u ao so xs rs → Calls Try.prog 12 #[.agg #[.int .i64 nx, .slice ao xs.length ca, .string o, .slice so rs.length cs]] u fun e w' => e = .returned (.bool false) ∧ Below u.heap.size u w') := fun u h => by have := implValidTake_any nx ao so ca cs xs o rs u hn ht ho hk hz h; rw [hv] at this; exact this
  have B0 : Hid (Below w.heap.size w (w.alloc (.cells #[.int .i64 nx, .slice ao xs.length ca, .string o, .slice so rs.length cs] 30))) := (Below.refl _ _).alloc (Nat.le_refl _) _
  have R0 : Hid (Rt (w.alloc (.cells #[.int .i64 nx, .slice ao xs.length ca, .string o, .slice so rs.length cs] 30)) ao so xs rs) := hr.keep B0.out
  clear ht hz hr hv
  go_enter Try.func15, Try.ntmps15
  go_wp2_with (go_at_call 12; refine (HC.out _ R0.out).mono ?_; rintro e w1 ⟨rfl, hb1⟩)
  go_ret2
  exact ⟨rfl, kb B0.out hb1 (Nat.le_refl _)⟩
theorem specTell_no (nx : Int) (ao so : Option Addr) (ca cs : Nat) (xs : List Hd) (o : ByteArray) (rs : List ByteArray) (w : World) (hn : xs.length ≤ 1048576) (ht : ∀ i (h : i < xs.length), xs[i].text.size ≤ 1048576) (ho : o.size ≤ 1048576) (hk : rs.length ≤ 1048576) (hz : ∀ i (h : i < rs.length), rs[i].size ≤ 1048576) (hr : Rt w ao so xs rs) (hv : tkOk nx xs o rs = false) :
    Calls Try.prog 14 #[.agg #[.int .i64 nx, .slice ao xs.length ca, .string o, .slice so rs.length cs]] w fun e w' => e = .returned (.tuple #[.int .i64 0, .int .i64 0]) ∧ Below w.heap.size w w' := by
  have HC : Hid (∀ u : World, Rt u ao so xs rs → Calls Try.prog 10 #[.agg #[.int .i64 nx, .slice ao xs.length ca, .string o, .slice so rs.length cs]] u fun e w' => e = .returned (.bool false) ∧ Below u.heap.size u w') := fun u h => by have := specValidTake_any nx ao so ca cs xs o rs u hn ht ho hk hz h; rw [hv] at this; exact this
  have B0 : Hid (Below w.heap.size w (w.alloc (.cells #[.int .i64 nx, .slice ao xs.length ca, .string o, .slice so rs.length cs] 30))) := (Below.refl _ _).alloc (Nat.le_refl _) _
  have R0 : Hid (Rt (w.alloc (.cells #[.int .i64 nx, .slice ao xs.length ca, .string o, .slice so rs.length cs] 30)) ao so xs rs) := hr.keep B0.out
  clear ht hz hr hv
  go_enter Try.func14, Try.ntmps14
  go_wp2_with (go_at_call 10; refine (HC.out _ R0.out).mono ?_; rintro e w1 ⟨rfl, hb1⟩)
  go_ret2
  exact ⟨rfl, kb B0.out hb1 (Nat.le_refl _)⟩
set_option maxHeartbeats 2000000 in
theorem told_any (R nx B V : Nat) (w : World) (hB : B < 256) (hnb : nx ≤ 1000000) (hrot : rotB B (nx % 8) = V) (hV : V < 256) (T0 : w.cell? ⟨R, 0, none⟩ = some (.int .i64 (nx : Int))) (T17 : w.cell? ⟨R, 17, none⟩ = some (.int .u8 (B : Int))) :
    Calls Try.prog 47 #[.pointer (some ⟨R, 0, none⟩)] w fun e w' => e = .returned (.tuple #[.int .i64 (nx : Int), .int .i64 (V : Int)]) ∧ Below w.heap.size w w' := by
  have HMF : Hid (∀ u : World, u.cell? ⟨R, 17, none⟩ = some (.int .u8 (B : Int)) → Calls Try.prog 73 #[.pointer (some ⟨R, 1, none⟩), .int .i64 (nx : Int)] u fun e w' => e = .returned (.int .i64 (V : Nat)) ∧ u = w') := fun u h => by have := maskFrom_any R B nx u hB (by omega) h (by omega); rw [hrot] at this; exact this
  clear hrot hB
  go_enter Try.func47, Try.ntmps47
  go_wp2_with fail
  refine wp_region_held_drew (S := (fun w' => Below w.heap.size w w')) (by kernel_rfl) ?_ (fun hHeld => ?_)
  · exact (Below.refl _ _).drew
  refine tkF 0 (some 4) ?_
  refine tkF 1 (some 5) ?_
  refine tkF 2 (some 6) ?_
  refine tkE 3 (some 7) ?_ ?_ ?_
  rotate_left
  · (intro w hSw; (have hT0 := cell_keep T0 hSw); go_simp <;> with_reducible rfl)
  refine tkF 4 (some 8) ?_
  refine tkF 5 (some 9) ?_
  refine tkF 6 (some 10) ?_
  refine tkF 7 (some 11) ?_
  refine tkF 8 (some 12) ?_
  refine tkF 9 (some 13) ?_
  refine tkE 10 (some 14) ?_ ?_ ?_
  rotate_left
  · (intro w hSw; (have hT0 := cell_keep T0 hSw); go_simp <;> with_reducible rfl)
  refine wpAnyH_ready (rs := [11]) (by kernel_rfl) (by simp) ?_
  refine AllReadyH.cons rfl (fun K hK => ?_) AllReadyH.nil
  go_simp
  refine (HMF.out _ (cell_keep T17 (by assumption))).mono ?_
  rintro e w' ⟨rfl, rfl⟩
  go_wp2_with fail
  refine hK.out _ _ ?_ (fun hHeld => ?_)
  · assumption
  clear hK K
  try simp only [Act.put, List.setIfInBounds_toArray, List.set_cons_zero, List.set_cons_succ]
  refine tkF 12 (some 2) ?_
  refine tkF 13 (some 3) ?_
  refine wpAnyH_done (by kernel_rfl) ?_ _
  go_wp2
  go_ret2
  exact ⟨rfl, by assumption⟩
set_option maxHeartbeats 2000000 in
theorem implTell_yes (nx : Nat) (ao so : Option Addr) (ca cs : Nat) (xs : List Hd) (o : ByteArray) (rs : List ByteArray) (w : World) (hn : xs.length ≤ 1048576) (ht : ∀ i (h : i < xs.length), xs[i].text.size ≤ 1048576) (ho : o.size ≤ 1048576) (hk : rs.length ≤ 1048576) (hz : ∀ i (h : i < rs.length), rs[i].size ≤ 1048576) (hr : Rt w ao so xs rs) (hv : tkOk (nx : Int) xs o rs = true) :
    Calls Try.prog 15 #[.agg #[.int .i64 (nx : Int), .slice ao xs.length ca, .string o, .slice so rs.length cs]] w fun e w' => e = .returned (.tuple #[.int .i64 (nx : Int), .int .i64 (tells nx xs : Nat)]) ∧ Below w.heap.size w w' := by
  have HC : Hid (∀ u : World, Rt u ao so xs rs → Calls Try.prog 12 #[.agg #[.int .i64 (nx : Int), .slice ao xs.length ca, .string o, .slice so rs.length cs]] u fun e w' => e = .returned (.bool true) ∧ Below u.heap.size u w') := fun u h => by have := implValidTake_any (nx : Int) ao so ca cs xs o rs u hn ht ho hk hz h; rw [hv] at this; exact this
  have hok := tkOk_of hv
  have hnb : nx ≤ 1000000 := by have := hok.1; unfold TkHd at this; omega
  have HI : Hid (∀ u : World, Rt u ao so xs rs → Calls Try.prog 46 #[.agg #[.int .i64 (nx : Int), .slice ao xs.length ca, .string o, .slice so rs.length cs]] u fun e w' => (∃ R ds v, e = .returned (.pointer (some ⟨R, 0, none⟩)) ∧ Tn u.heap.size R ds w' ∧ HoldT (nx : Int) xs o v ds ∧ w'.ownsRow u.heap.size 9 1 v rs.length (ss rs)) ∧ Below u.heap.size u w') := fun u h => intakeOf_any nx ao so ca cs xs o rs u hok h
  have hwin : Win nx xs := HsOk.win hok.2.2
  have HTL : Hid (rotB (bitsOf xs) (nx % 8) = tells nx xs) := rot_tells nx xs hwin
  have B0 : Hid (Below w.heap.size w (w.alloc (.cells #[.int .i64 (nx : Int), .slice ao xs.length ca, .string o, .slice so rs.length cs] 30))) := (Below.refl _ _).alloc (Nat.le_refl _) _
  have R0 : Hid (Rt (w.alloc (.cells #[.int .i64 (nx : Int), .slice ao xs.length ca, .string o, .slice so rs.length cs] 30)) ao so xs rs) := hr.keep B0.out
  have C0 : Hid ((w.alloc (.cells #[.int .i64 (nx : Int), .slice ao xs.length ca, .string o, .slice so rs.length cs] 30)).cell? ⟨w.heap.size, 0, none⟩ = some (.int .i64 (nx : Int)) ∧ (w.alloc (.cells #[.int .i64 (nx : Int), .slice ao xs.length ca, .string o, .slice so rs.length cs] 30)).cell? ⟨w.heap.size, 1, none⟩ = some (.slice ao xs.length ca) ∧ (w.alloc (.cells #[.int .i64 (nx : Int), .slice ao xs.length ca, .string o, .slice so rs.length cs] 30)).cell? ⟨w.heap.size, 2, none⟩ = some (.string o) ∧ (w.alloc (.cells #[.int .i64 (nx : Int), .slice ao xs.length ca, .string o, .slice so rs.length cs] 30)).cell? ⟨w.heap.size, 3, none⟩ = some (.slice so rs.length cs)) := (by simp [go_sem] : (w.alloc (.cells #[.int .i64 (nx : Int), .slice ao xs.length ca, .string o, .slice so rs.length cs] 30)).cell? ⟨w.heap.size, 0, none⟩ = some (.int .i64 (nx : Int)) ∧ (w.alloc (.cells #[.int .i64 (nx : Int), .slice ao xs.length ca, .string o, .slice so rs.length cs] 30)).cell? ⟨w.heap.size, 1, none⟩ = some (.slice ao xs.length ca) ∧ (w.alloc (.cells #[.int .i64 (nx : Int), .slice ao xs.length ca, .string o, .slice so rs.length cs] 30)).cell? ⟨w.heap.size, 2, none⟩ = some (.string o) ∧ (w.alloc (.cells #[.int .i64 (nx : Int), .slice ao xs.length ca, .string o, .slice so rs.length cs] 30)).cell? ⟨w.heap.size, 3, none⟩ = some (.slice so rs.length cs))
  have HTD : Hid (∀ (R : Nat) (u : World), u.cell? ⟨R, 0, none⟩ = some (.int .i64 (nx : Int)) → u.cell? ⟨R, 17, none⟩ = some (.int .u8 ((bitsOf xs : Nat) : Int)) → Calls Try.prog 47 #[.pointer (some ⟨R, 0, none⟩)] u fun e w' => e = .returned (.tuple #[.int .i64 (nx : Int), .int .i64 (tells nx xs : Nat)]) ∧ Below u.heap.size u w') := fun R u h0 h1 => told_any R nx (bitsOf xs) (tells nx xs) u (bitsOf_lt xs) hnb HTL.out (tells_lt hwin) h0 h1
  clear ht hz hr hv hok hwin HTL
  generalize tells nx xs = V at *
  go_enter Try.func15, Try.ntmps15
  go_wp2_with (first
    | (go_at_call 12; refine (HC.out _ R0.out).mono ?_; rintro e w1 ⟨rfl, hb1⟩; (obtain ⟨k0, k1, k2, k3⟩ := C0.out); (have d0 := cell_keep k0 hb1); (have d1 := cell_keep k1 hb1); (have d2 := cell_keep k2 hb1); (have d3 := cell_keep k3 hb1); clear k0 k1 k2 k3)
    | (go_at_call 46; refine (HI.out _ (R0.out.keep hb1)).mono ?_; rintro e W1 ⟨⟨R, ds, v, rfl, hring, hH, hrow⟩, hb2⟩)
    | (go_at_call 47; refine (HTD.out R _ ((hring.cell 0 (by omega)).trans hH.next) ((hring.cell 17 (by omega)).trans hH.bits)).mono ?_; rintro e W2 ⟨rfl, hb3⟩)
    | fail)
  go_ret2
  exact ⟨rfl, kb (kb (kb B0.out hb1 (Nat.le_refl _)) hb2 (Nat.le_refl _)) hb3 (Nat.le_refl _)⟩
set_option maxHeartbeats 2000000 in
theorem specTell_yes (nx : Nat) (ao so : Option Addr) (ca cs : Nat) (xs : List Hd) (o : ByteArray) (rs : List ByteArray) (w : World) (hn : xs.length ≤ 1048576) (ht : ∀ i (h : i < xs.length), xs[i].text.size ≤ 1048576) (ho : o.size ≤ 1048576) (hk : rs.length ≤ 1048576) (hz : ∀ i (h : i < rs.length), rs[i].size ≤ 1048576) (hr : Rt w ao so xs rs) (hv : tkOk (nx : Int) xs o rs = true) :
    Calls Try.prog 14 #[.agg #[.int .i64 (nx : Int), .slice ao xs.length ca, .string o, .slice so rs.length cs]] w fun e w' => e = .returned (.tuple #[.int .i64 (nx : Int), .int .i64 (tells nx xs : Nat)]) ∧ Below w.heap.size w w' := by
  have HC : Hid (∀ u : World, Rt u ao so xs rs → Calls Try.prog 10 #[.agg #[.int .i64 (nx : Int), .slice ao xs.length ca, .string o, .slice so rs.length cs]] u fun e w' => e = .returned (.bool true) ∧ Below u.heap.size u w') := fun u h => by have := specValidTake_any (nx : Int) ao so ca cs xs o rs u hn ht ho hk hz h; rw [hv] at this; exact this
  have hok := tkOk_of hv
  have hnb : nx ≤ 1000000 := by have := hok.1; unfold TkHd at this; omega
  have hwin : Hid (Win nx xs) := HsOk.win hok.2.2
  have HR : Hid (Rt w ao so xs rs) := hr
  have B0 : Hid (Below w.heap.size w (w.alloc (.cells #[.int .i64 (nx : Int), .slice ao xs.length ca, .string o, .slice so rs.length cs] 30))) := (Below.refl _ _).alloc (Nat.le_refl _) _
  have R0 : Hid (Rt (w.alloc (.cells #[.int .i64 (nx : Int), .slice ao xs.length ca, .string o, .slice so rs.length cs] 30)) ao so xs rs) := hr.keep B0.out
  have C0 : Hid ((w.alloc (.cells #[.int .i64 (nx : Int), .slice ao xs.length ca, .string o, .slice so rs.length cs] 30)).cell? ⟨w.heap.size, 0, none⟩ = some (.int .i64 (nx : Int)) ∧ (w.alloc (.cells #[.int .i64 (nx : Int), .slice ao xs.length ca, .string o, .slice so rs.length cs] 30)).cell? ⟨w.heap.size, 1, none⟩ = some (.slice ao xs.length ca)) := (by simp [go_sem] : (w.alloc (.cells #[.int .i64 (nx : Int), .slice ao xs.length ca, .string o, .slice so rs.length cs] 30)).cell? ⟨w.heap.size, 0, none⟩ = some (.int .i64 (nx : Int)) ∧ (w.alloc (.cells #[.int .i64 (nx : Int), .slice ao xs.length ca, .string o, .slice so rs.length cs] 30)).cell? ⟨w.heap.size, 1, none⟩ = some (.slice ao xs.length ca))
  have hn8 := hok.len
  clear ht hz hr hv hok
  go_enter Try.func14, Try.ntmps14
  go_wp2_with (first
    | (go_at_call 10; refine (HC.out _ R0.out).mono ?_; rintro e w1 ⟨rfl, hb1⟩; (obtain ⟨k0, k1⟩ := C0.out); (have d0 := cell_keep k0 hb1); (have d1 := cell_keep k1 hb1); clear k0 k1))
  have BW : Hid (Below w.heap.size w w1) := kb B0.out hb1 (Nat.le_refl _)
  clear hb1 HC R0 B0 C0
  go_loopw [4, 5] (fun q i wr => ∃ k : Nat, k ≤ xs.length ∧ i = .int .i64 k ∧ q = .int .i64 (tells nx (xs.take k) : Nat) ∧ w1 = wr) (fun _ i _ => xs.length - (intOf i).toNat)
  case atStart => exact ⟨0, Nat.zero_le _, rfl, by simp [tells], rfl⟩
  case round =>
    obtain ⟨k, hkk, rfl, rfl, rfl⟩ := hrel
    have hl1 := tells_lt (hwin.out.take k)
    by_cases hlt : k < xs.length
    · rcases HR.out.held.ex with h | ⟨g, rfl, hg, hgc⟩
      · omega
      obtain ⟨a0, a1, a2⟩ := Rs.held (n := 0) hg hgc BW.out k hlt
      clear hgc a1 a2
      have htk : xs.take (k + 1) = xs.take k ++ [xs[k]] := by rw [List.take_append_getElem]
      have hl2 := tells_lt (hwin.out.take (k + 1))
      have hsn := tells_snoc nx (xs.take k) xs[k]
      rw [← htk] at hsn
      have hw1 := hwin.out.1 k hlt
      obtain ⟨q, hq⟩ : ∃ q : Nat, xs[k].seq = (q : Int) := ⟨xs[k].seq.toNat, by omega⟩
      have hqq : xs[k].seq.toNat = q := by omega
      rw [hqq] at hsn hw1
      rw [hq] at a0
      have HSN : Hid (tells nx (xs.take (k + 1)) = tells nx (xs.take k) + 2 ^ (q - nx)) := hsn
      rw [hsn] at hl2
      generalize tells nx (xs.take k) = M at *
      obtain ⟨d, hd⟩ : ∃ d, d = q - nx := ⟨_, rfl⟩
      have hqd : q = nx + d := by omega
      rw [← hd] at hl2
      have HD : Hid (d = q - nx) := hd
      have hd8 : d < 8 := by omega
      clear htk hsn hqq hq hd
      go_wp2
      go_loopw [6, 7] (fun p i wr => ∃ j : Nat, j ≤ d ∧ i = .int .i64 ((nx + j : Nat) : Int) ∧ p = .int .i64 (2 ^ j : Nat) ∧ w1 = wr) (fun _ i _ => q - (intOf i).toNat)
      case atStart => exact ⟨0, Nat.zero_le _, by simp, by simp, rfl⟩
      case round =>
        obtain ⟨j, hj, rfl, rfl, rfl⟩ := hrel
        have hp2 : (2 : Nat) ^ (j + 1) = 2 ^ j * 2 := Nat.pow_succ 2 j
        have hpb : (2 : Nat) ^ j ≤ 256 := Nat.le_trans (Nat.pow_le_pow_right (by omega) (show j ≤ 8 by omega)) (by decide)
        have HP2 : Hid ((2 : Nat) ^ (j + 1) = 2 ^ j * 2) := hp2
        by_cases hjd : j < d
        · have hlq : ((nx + j : Nat) : Int) < (q : Int) := by omega
          clear hp2
          generalize hPP : (2 : Nat) ^ j = P at *
          clear hPP
          go_wp2
          exact ⟨⟨j + 1, by omega, by go_num, by rw [HP2.out]; go_num, trivial⟩, by simp [intOf]; omega⟩
        · obtain rfl : j = d := by omega
          have hlq : ¬ ((nx + j : Nat) : Int) < (q : Int) := by omega
          clear hp2 HP2
          have HPD : Hid (2 ^ (q - nx) = 2 ^ j) := (by rw [← HD.out] : 2 ^ (q - nx) = 2 ^ j)
          generalize hPP : (2 : Nat) ^ j = P at *
          clear hPP
          go_wp2
          exact ⟨⟨k + 1, by omega, by go_num, by rw [HSN.out, HPD.out]; go_num, trivial⟩, by simp [intOf]; omega⟩
    · obtain rfl : k = xs.length := by omega
      rw [List.take_length] at hl1 ⊢
      go_wp2
      go_ret2
      exact ⟨rfl, BW.out⟩
theorem implTell_any (nx : Int) (ao so : Option Addr) (ca cs : Nat) (xs : List Hd) (o : ByteArray) (rs : List ByteArray) (w : World) (hn : xs.length ≤ 1048576) (ht : ∀ i (h : i < xs.length), xs[i].text.size ≤ 1048576) (ho : o.size ≤ 1048576) (hk : rs.length ≤ 1048576) (hz : ∀ i (h : i < rs.length), rs[i].size ≤ 1048576) (hr : Rt w ao so xs rs) :
    Calls Try.prog 15 #[.agg #[.int .i64 nx, .slice ao xs.length ca, .string o, .slice so rs.length cs]] w fun e w' => e = .returned (.tuple #[.int .i64 (tellOf nx xs o rs).1, .int .i64 ((tellOf nx xs o rs).2 : Nat)]) ∧ Below w.heap.size w w' := by
  cases hv : tkOk nx xs o rs
  · rw [tellOf_no hv]
    exact implTell_no nx ao so ca cs xs o rs w hn ht ho hk hz hr hv
  · obtain ⟨n, rfl⟩ : ∃ n : Nat, nx = (n : Int) := ⟨nx.toNat, by have := (tkOk_of hv).1; unfold TkHd at this; omega⟩
    rw [tellOf_yes hv]
    exact implTell_yes n ao so ca cs xs o rs w hn ht ho hk hz hr hv
theorem specTell_any (nx : Int) (ao so : Option Addr) (ca cs : Nat) (xs : List Hd) (o : ByteArray) (rs : List ByteArray) (w : World) (hn : xs.length ≤ 1048576) (ht : ∀ i (h : i < xs.length), xs[i].text.size ≤ 1048576) (ho : o.size ≤ 1048576) (hk : rs.length ≤ 1048576) (hz : ∀ i (h : i < rs.length), rs[i].size ≤ 1048576) (hr : Rt w ao so xs rs) :
    Calls Try.prog 14 #[.agg #[.int .i64 nx, .slice ao xs.length ca, .string o, .slice so rs.length cs]] w fun e w' => e = .returned (.tuple #[.int .i64 (tellOf nx xs o rs).1, .int .i64 ((tellOf nx xs o rs).2 : Nat)]) ∧ Below w.heap.size w w' := by
  cases hv : tkOk nx xs o rs
  · rw [tellOf_no hv]
    exact specTell_no nx ao so ca cs xs o rs w hn ht ho hk hz hr hv
  · obtain ⟨n, rfl⟩ : ∃ n : Nat, nx = (n : Int) := ⟨nx.toNat, by have := (tkOk_of hv).1; unfold TkHd at this; omega⟩
    rw [tellOf_yes hv]
    exact specTell_yes n ao so ca cs xs o rs w hn ht ho hk hz hr hv
end Go.Proofs.Yteceaadmgpjmcaa.mk

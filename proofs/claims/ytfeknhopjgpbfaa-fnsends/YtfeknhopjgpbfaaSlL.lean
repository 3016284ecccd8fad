/-
  TWELVE TICKS: the walk of laws.FnSends.
-/
import Derived.Test.YtfeknhopjgpbfaaSlB
import Derived.Test.YtfeknhopjgpbfaaSlS
import Derived.Deep.LoopGhost
namespace Go.Proofs.Ytfeknhopjgpbfaa.mk
open Go.RowKit
set_option linter.unusedVariables false

theorem make8 (W : World) : (Instr.makeSlice 31 (.int .i64 8) (.int .i64 8)).run Try.prog W = .ok (.slice (some ⟨W.heap.size, 0, none⟩) 8 8) (W.alloc (.cells #[.int .i64 0, .int .i64 0, .int .i64 0, .int .i64 0, .int .i64 0, .int .i64 0, .int .i64 0, .int .i64 0] 3)) := by
  obtain ⟨i0, hi, hz0, hz1, hz2⟩ := info_parts info_int
  have h := run_makeSlice (w := W) (P := Try.prog) 31 3 i0 (.int .i64 0) Try.underlying31 hi hz0 .i64 .i64 8 8 (by decide) (by decide) (by rw [hz1]; decide) (by rw [hz2]; decide) (by decide)
  rw [hz1] at h
  have e : madeCells (Value.int .i64 0).cells (Int.toNat 8 * 1) = #[.int .i64 0, .int .i64 0, .int .i64 0, .int .i64 0, .int .i64 0, .int .i64 0, .int .i64 0, .int .i64 0] := by first | rfl | decide | kernel_rfl | (simp [madeCells, Value.cells]; done) | (simp [madeCells, Value.cells, Array.range]; rfl)
  rw [e] at h
  exact h
set_option maxRecDepth 100000 in
set_option maxHeartbeats 4000000 in
theorem sends_law (v : Option Addr) (len cp : Nat) (w : World) (h : draw.Code v len w) (hc : len ≤ cp) (hm : cp ≤ 9223372036854775807) :
    Calls Try.prog 3 #[.slice v len cp] w fun e w' => e = .returned (.bool true) ∧ Below w.heap.size w w' := by
  by_cases hbig : (len : Int) > 1048576
  · go_enter Try.func3, Try.ntmps3
    go_wp2
    go_ret
    exact ⟨rfl, Below.refl _ _⟩
  have HW : Hid (Calls Try.prog 4 #[.slice v len cp] w fun e w' => draw.WPost w e w') := draw.wordIn_any v len cp w h hc hm
  clear h
  go_enter Try.func3, Try.ntmps3
  go_wp2_with (first
    | (go_at_call 4; refine HW.out.mono ?_; rintro e w1 hpost; unfold draw.WPost at hpost; (obtain ⟨b, ao, cap, xs, next, mask, rfl, hk, hrow, hb1⟩ := hpost); (obtain ⟨hrs, hao⟩ := draw.own_facts hrow); (obtain ⟨b2, zs, hk2, hz1, hz2, CI, CS⟩ := word_split b ao cap xs next mask hk hao); clear hrow hao)
    | (go_at_call 5; refine (CI.out _ (hrs.keep ((Below.refl _ _).alloc (Nat.le_refl _) _))).mono ?_; rintro e w2 hpost; unfold WP at hpost; (obtain ⟨⟨a1, c1, rfl, hr2⟩, hb2⟩ := hpost)))
  have hs := L0.start (b2 := b2) hb1 hrs hb2 hr2
  clear hb1 hrs hb2 hr2 CI HW hbig hc hm
  generalize w1.heap.size = y3 at *
  generalize w2.alloc (.cells #[.int .i64 b2, .slice a1 zs.length c1] 25) = W at *
  generalize w2.heap.size = y6 at *
  obtain ⟨p0, p1, p2, p3, ly3, ly6⟩ := hs.cells
  go_region_held3 (fun u => u.cell? ⟨y3, 0, none⟩ = some (.int .i64 b) ∧ u.cell? ⟨y3, 1, none⟩ = some (.slice ao xs.length cap) ∧ u.cell? ⟨y6, 0, none⟩ = some (.int .i64 b2) ∧ u.cell? ⟨y6, 1, none⟩ = some (.slice a1 zs.length c1)) (first | exact ⟨p0, p1, p2, p3⟩ | go_keep) (first
    | (go_at_call 7; refine (CS.out _ hs.drew.rs).mono ?_; rintro e w3 hpost; unfold WP at hpost; (obtain ⟨⟨a2, c2, rfl, hr3⟩, hb3⟩ := hpost); (obtain ⟨hr3s, _⟩ := draw.own_facts hr3); (replace hs := hs.drew.keep hb3); (clear p0 p1 p2 p3 ly3 ly6); (obtain ⟨p0, p1, p2, p3, ly3, ly6⟩ := hs.cells))
    | (go_at_call 6; refine (wSend_same b2 a1 a2 c1 c2 zs _ hk2.big.1 hk2.big.2 hs.rs6 hr3s).mono ?_; rintro e w4 ⟨rfl, hb4⟩; (replace hs := hs.keep hb4); (clear p0 p1 p2 p3 ly3 ly6); (obtain ⟨p0, p1, p2, p3, ly3, ly6⟩ := hs.cells)))
  clear CS hr3s hr3 hb3 hb4
  have HV : Hid (∀ u : World, Rs u ao xs.length (is xs) → Calls Try.prog 8 #[.agg #[.int .i64 b, .slice ao xs.length cap]] u fun e w' => e = .returned (.bool (sdOk b xs)) ∧ Below u.heap.size u w') := fun u h => specValid_any b ao cap xs u hk.big.1 hk.big.2 h
  have HI : Hid (∀ u : World, Rs u ao xs.length (is xs) → Calls Try.prog 10 #[.agg #[.int .i64 b, .slice ao xs.length cap]] u fun e w' => e = .returned (.bool (sdOk b xs)) ∧ Below u.heap.size u w') := fun u h => implValid_any b ao cap xs u hk.big.1 hk.big.2 h
  have HT : Hid (∀ u : World, Rs u ao xs.length (is xs) → Calls Try.prog 9 #[.agg #[.int .i64 b, .slice ao xs.length cap]] u fun e w' => TickPost u b xs e w') := fun u h => implTick_any b ao cap xs u hk.big.1 hk.big.2 h
  cases hv : sdOk b xs with
  | false =>
    have hz0 := hz2 hv
    have T0 : tickOf b xs = (0, [], []) := by unfold tickOf; rw [hv]; rfl
    unfold TickPost at HT
    rw [T0] at HT
    dsimp only at HT
    rw [hv] at HV HI
    clear hz1 hz2 T0 hv
    go_wp2_with (first
      | (go_at_call 8; refine (HV.out _ hs.rs).mono ?_; rintro e w5 ⟨rfl, hb5⟩; (replace hs := hs.keep hb5); (clear p0 p1 p2 p3 ly3 ly6); (obtain ⟨p0, p1, p2, p3, ly3, ly6⟩ := hs.cells))
      | (go_at_call 9; refine (HT.out _ hs.rs).mono ?_; rintro e w6 ⟨⟨a7, c7, a8, c8, rfl, _, _⟩, hb6⟩; (replace hs := hs.keep hb6); (clear p0 p1 p2 p3 ly3 ly6); (obtain ⟨p0, p1, p2, p3, ly3, ly6⟩ := hs.cells); (have hs7 := hs.keep ((Below.refl _ _).alloc (Nat.le_refl _) (.cells #[.int .i64 0, .slice a7 0 c7] 25))))
      | (go_at_call 10; refine (HI.out _ hs7.rs).mono ?_; rintro e w7 ⟨rfl, hb7⟩; (replace hs := hs7.keep hb7); (clear p0 p1 p2 p3 ly3 ly6); (obtain ⟨p0, p1, p2, p3, ly3, ly6⟩ := hs.cells)))
    go_ret
    exact ⟨rfl, hs.low⟩
  | true =>
    have hv2 := hz1 hv
    rw [hv] at HV
    clear HI HT hz1 hz2 hv
    have hmk := make8
    go_wp2_with (first
      | (go_at_call 8; refine (HV.out _ hs.rs).mono ?_; rintro e w5 ⟨rfl, hb5⟩; (replace hs := hs.keep hb5); (clear p0 p1 p2 p3 ly3 ly6); (obtain ⟨p0, p1, p2, p3, ly3, ly6⟩ := hs.cells)))
    have hs0 := Lo.start hs.low hs.lt.2.1 hs.x6 hs.row
    have hv3 := hv2
    clear hs p0 p1 p2 p3 ly3 ly6 HV hk hk2
    generalize (w5.alloc (.cells #[.int .i64 0, .int .i64 0, .int .i64 0, .int .i64 0, .int .i64 0, .int .i64 0, .int .i64 0, .int .i64 0] 3)).alloc (.cells #[.int .i64 0, .int .i64 0, .int .i64 0, .int .i64 0, .int .i64 0, .int .i64 0, .int .i64 0, .int .i64 0] 3) = W at *
    generalize w5.heap.size + 1 = gL at *
    generalize w5.heap.size = gT at *
    obtain ⟨bn, rfl⟩ : ∃ bn : Nat, b2 = (bn : Int) := ⟨b2.toNat, by have := (sdOk_of hv2).1; unfold HdOk at this; omega⟩
    go_loopw [11] (fun i wr => ∃ (k : Nat) (T L : List Int) (a : Option Addr) (c : Nat) (vs : List It), k ≤ 12 ∧ i = .int .i64 k ∧ Lo w wr gT gL y6 T L (bn : Int) a c vs ∧ sdOk (bn : Int) vs = true ∧ TmAll k vs T L) (fun i _ => 12 - (intOf i).toNat)
    case atStart => exact ⟨0, _, _, _, _, zs, by omega, rfl, hs0, hv2, TmAll.start hv2⟩
    case round =>
      clear hs0 hv2 hv3
      obtain ⟨k, T, L, a, c, vs, hk, rfl, hl, hv, ht⟩ := hrel
      have hT8 := ht.1
      have hL8 := ht.2.1
      have hbb : bn ≤ 1000000 := by have := (sdOk_of hv).1; unfold HdOk at this; omega
      have hn60 : vs.length ≤ 60 := by have := (sdOk_of hv).1; unfold HdOk at this; omega
      obtain ⟨p0, p1, q0, q1, ly⟩ := hl.cells
      by_cases hlt : (k : Int) < 12
      · obtain ⟨us, hus⟩ : ∃ us, us = tkn (min 8 vs.length) vs := ⟨_, rfl⟩
        obtain ⟨S, hS⟩ : ∃ S, S = snt bn vs (min 8 vs.length) := ⟨_, rfl⟩
        have HUN : Hid (us.length = vs.length) := (by rw [hus, tkn_length] : us.length = vs.length)
        have HUV : Hid (sdOk (bn : Int) us = true) := (by rw [hus]; exact tick_ok hv : sdOk (bn : Int) us = true)
        have HTK : Hid (∀ u : World, Rs u a vs.length (is vs) → Calls Try.prog 9 #[.agg #[.int .i64 (bn : Int), .slice a vs.length c]] u fun e w' => (∃ a1 c1 a2 c2, e = .returned (.tuple #[.agg #[.int .i64 (bn : Int), .slice a1 vs.length c1], .slice a2 S.length c2]) ∧ w'.ownsRow u.heap.size 37 4 (.slice a1 vs.length c1) vs.length (is us) ∧ w'.ownsRow u.heap.size 3 1 (.slice a2 S.length c2) S.length (ns S)) ∧ Below u.heap.size u w') := fun u hr => by rw [hS, hus]; exact tick_yes bn a c vs u hv hr
        have HS8 : S.length ≤ 8 := by have := snt_length bn vs (min 8 vs.length); rw [hS]; omega
        have HS : Hid (S = snt bn vs (min 8 vs.length)) := hS
        have HU : Hid (us = tkn (min 8 vs.length) vs) := hus
        clear hS hus
        go_wp2_with (first
          | (go_at_call 9; refine (HTK.out _ hl.rs).mono ?_; rintro e w6 ⟨⟨a2, c2, a3, c3, rfl, hr2, hr3⟩, hb6⟩; (obtain ⟨p0', p1', q0', q1', ly'⟩ := (hl.keep hb6).cells))
          | (go_at_call 10; refine (valid_yes bn a2 c2 vs.length us _ HUN.out HUV.out (draw.own_facts (hr2.alloc _)).1).mono ?_; rintro e w8 ⟨rfl, hb8⟩))
        have hx := Ls.start hl hb6 hr2 hr3 hb8
        clear hl hb6 hr2 hr3 hb8 p0 p1 q0 q1 ly p0' p1' q0' q1' ly' HTK
        generalize w6.heap.size = y2 at *
        go_loopw [14] (fun j wi => ∃ (q : Nat) (T' L' : List Int), q ≤ S.length ∧ j = .int .i64 q ∧ Ls w wi gT gL y6 T' L' (bn : Int) a c vs y2 a2 c2 us a3 c3 S ∧ Cnt bn S q (k : Int) T L T' L') (fun j _ => S.length - (intOf j).toNat)
        case atStart => exact ⟨0, T, L, Nat.zero_le _, rfl, hx, Cnt.start bn S k hT8 hL8⟩
        case round =>
          clear hx
          obtain ⟨q, T', L', hq, rfl, hx, hc⟩ := hrel
          rename World => wi
          obtain ⟨p0, p1, q0, q1, ly⟩ := hx.lo.cells
          obtain ⟨s0, s1, ls⟩ := hx.cells
          by_cases hlt2 : (q : Int) < (S.length : Int)
          · have hqs : q < S.length := by omega
            obtain ⟨g3, rfl, hg3, hnum⟩ := hx.num q hqs
            obtain ⟨p, hp, hpK, hf, hSq⟩ := place_of HS.out q hqs
            have hp8 : p < 8 := by omega
            obtain ⟨g, rfl, hg, hhas⟩ := hx.lo.item p hp
            rw [hf.1] at hhas
            have htm := ht.2.2 p hp hp8
            obtain ⟨e1, e2, hc2⟩ := cnt_step HS.out hc hqs hSq hp8
            obtain ⟨m1, m2, m3, m4, lT, lL⟩ := hx.lo.at hc.1 hc.2.1 p hp8
            rw [e1] at m1
            rw [e2] at m2
            have HM : Hid (∀ u : World, Ls w u gT gL y6 T' L' (bn : Int) (some ⟨g, 0, none⟩) c vs y2 a2 c2 us (some ⟨g3, 0, none⟩) c3 S → u.cell? ⟨gT, p, none⟩ = some (.int .i64 (T[p]?.getD 0)) ∧ u.cell? ⟨gL, p, none⟩ = some (.int .i64 (L[p]?.getD 0)) ∧ u.frozen? ⟨gT, p, none⟩ = false ∧ u.frozen? ⟨gL, p, none⟩ = false ∧ gT < u.heap.size ∧ gL < u.heap.size) := fun u hu => by have := hu.lo.at hc.1 hc.2.1 p hp8; rw [e1, e2] at this; exact this
            have HNE : Hid (gT ≠ gL) := hx.lo.ne
            have hfew := htm.few hf (by omega) (by omega)
            have hfire := (htm.fire (by omega) hf).1
            have hn1 := hnum q hqs
            rw [hSq] at hn1
            have HNUM : Hid (∀ j (hj : j < S.length), wi.cell? ⟨g3, j, none⟩ = some (.int .i64 S[j])) := hnum
            have HC2 : Hid _ := hc2
            have HT2 : Hid _ := ht
            clear hnum hc2 hc htm e1 e2 hf ht
            generalize ht' : T[p]?.getD 0 = t at *
            generalize hl' : L[p]?.getD 0 = l at *
            have hw1 : IntKind.i64.wrap (((bn + p : Nat) : Int) - (bn : Int)) = (p : Int) := by rw [IntKind.wrap_i64]; omega
            have hw2 : IntKind.i64.wrap ((bn : Int) + (p : Int) - (bn : Int)) = (p : Int) := by rw [IntKind.wrap_i64]; omega
            have hpn0 : ¬ ((p : Int) < 0) := by omega
            have hpn8 : ¬ ((p : Int) ≥ 8) := by omega
            have hpnl : ¬ ((p : Int) ≥ (vs.length : Int)) := by omega
            have hwt : IntKind.i64.wrap (t + 1) = t + 1 := by rw [IntKind.wrap_i64]; omega
            cases q with
            | zero =>
              go_wp2
              go_quiet (fail)
              go_wp2
              refine Code.wp_mono ?_ (region22_no y6 g g3 vs.length S.length c c3 p 0 0 0 _ _ _ _ _ _ _ _ _ _ _ _ _ _ _ _ _ _ _ _ _ _ _ _ _ _ _ _ _ _ _ _ _ _ _ _ _ _ _ _ _ _ _ _ _ _ _ _ _ _ _ _ _ _ _ _ _ _ _ _ _ _ _ _ _ _ _ _ _ _ _ _ _ _ _ _ _ _ _ _ _ _ _ _ _ _ _ _ _ _ _ _ _ _ _ _ _ _ _ _ _ _ _ _ _ _ _ _ _ _ _ _ _ _ _ _ _ _ _ _ _ _ _ _ _ _ _ _ _ _ _ _ _ _ _ _ _ _ _ _ _ _ _ _ _ _ _ _ _ _ _ _ _ _ _ _ _ _ _ _ _ _ _ _ _ _ _ _ _ _ _ _ _ _ _ _ _ _ _ _ _ _ _ _ _ _ _ _ hp8 hp (by simpa using p1) (by simpa using hhas))
              intro x aa w9 hxx
              cases x
              case normal =>
                obtain ⟨z0, z1, z2, z3, z4, z5, z6, z7, z8, z9, z10, z11, z12, z13, z14, z15, z16, z17, z18, z19, z20, z21, z22, z23, z24, z25, z26, z27, z28, z29, z30, z31, z32, z33, z34, z35, z36, rfl, rfl, rfl⟩ := hxx
                dsimp only
                have hx9 := hx.keep (show Below wi.heap.size wi ((wi.drewN nq).drew) from ⟨rfl, rfl, rfl, Nat.le_refl _, fun _ _ => rfl⟩)
                clear hx m1 m2 m3 m4 lT lL p0 p1 q0 q1 ly s0 s1 ls hhas hn1
                generalize (wi.drewN nq).drew = W9 at *
                obtain ⟨m1, m2, m3, m4, lT, lL⟩ := HM.out W9 hx9
                obtain ⟨p0, p1, q0, q1, ly⟩ := hx9.lo.cells
                have hx2 := (hx9.setT p (t + 1)).setL p (k : Int)
                have hne1 : ¬ gT = gL := HNE.out
                have hne2 : ¬ gL = gT := fun e => hne1 e.symm
                by_cases ht0 : 0 < t
                · have hwk : IntKind.i64.wrap ((k : Int) - l) = 4 := by rw [hfire ht0]; rfl
                  have hkl : (k : Int) - l = 4 := hfire ht0
                  clear hfire
                  go_wp2
                  exact ⟨⟨0 + 1, _, _, by omega, by go_num, hx2, HC2.out⟩, by simp [intOf]; omega⟩
                · have ht00 : t = 0 := by omega
                  subst ht00
                  clear hfire
                  go_wp2
                  exact ⟨⟨0 + 1, _, _, by omega, by go_num, hx2, HC2.out⟩, by simp [intOf]; omega⟩
              all_goals exact hxx.elim
            | succ r =>
              have hr0 := HNUM.out r (by omega)
              have hra := asc_of HS.out r (r + 1) (by omega) hqs (by omega)
              rw [hSq] at hra
              generalize S[r] = d at *
              go_wp2
              go_quiet (fail)
              go_wp2
              refine Code.wp_mono ?_ (region22_yes y6 g g3 vs.length S.length c c3 p r d ((bn + p : Nat) : Int) _ _ _ _ _ _ _ _ _ _ _ _ _ _ _ _ _ _ _ _ _ _ _ _ _ _ _ _ _ _ _ _ _ _ _ _ _ _ _ _ _ _ _ _ _ _ _ _ _ _ _ _ _ _ _ _ _ _ _ _ _ _ _ _ _ _ _ _ _ _ _ _ _ _ _ _ _ _ _ _ _ _ _ _ _ _ _ _ _ _ _ _ _ _ _ _ _ _ _ _ _ _ _ _ _ _ _ _ _ _ _ _ _ _ _ _ _ _ _ _ _ _ _ _ _ _ _ _ _ _ _ _ _ _ _ _ _ _ _ _ _ _ _ _ _ _ _ _ _ _ _ _ _ _ _ _ _ _ _ _ _ _ _ _ _ _ _ _ _ _ _ _ _ _ _ _ _ _ _ _ _ _ _ _ _ _ _ _ hp8 hp hqs (by omega) hra (by simpa using hr0) (by simpa using hn1) (by simpa using p1) (by simpa using hhas))
              intro x aa w9 hxx
              cases x
              case normal =>
                obtain ⟨z0, z1, z2, z3, z4, z5, z6, z7, z8, z9, z10, z11, z12, z13, z14, z15, z16, z17, z18, z19, z20, z21, z22, z23, z24, z25, z26, z27, z28, z29, z30, z31, z32, z33, z34, z35, z36, rfl, rfl, rfl⟩ := hxx
                dsimp only
                have hx9 := hx.keep (show Below wi.heap.size wi ((wi.drewN nq).drew) from ⟨rfl, rfl, rfl, Nat.le_refl _, fun _ _ => rfl⟩)
                clear hx m1 m2 m3 m4 lT lL p0 p1 q0 q1 ly s0 s1 ls hhas hn1
                generalize (wi.drewN nq).drew = W9 at *
                obtain ⟨m1, m2, m3, m4, lT, lL⟩ := HM.out W9 hx9
                obtain ⟨p0, p1, q0, q1, ly⟩ := hx9.lo.cells
                have hx2 := (hx9.setT p (t + 1)).setL p (k : Int)
                have hne1 : ¬ gT = gL := HNE.out
                have hne2 : ¬ gL = gT := fun e => hne1 e.symm
                by_cases ht0 : 0 < t
                · have hwk : IntKind.i64.wrap ((k : Int) - l) = 4 := by rw [hfire ht0]; rfl
                  have hkl : (k : Int) - l = 4 := hfire ht0
                  clear hfire
                  go_wp2
                  exact ⟨⟨r + 1 + 1, _, _, by omega, by go_num, hx2, HC2.out⟩, by simp [intOf]; omega⟩
                · have ht00 : t = 0 := by omega
                  subst ht00
                  clear hfire
                  go_wp2
                  exact ⟨⟨r + 1 + 1, _, _, by omega, by go_num, hx2, HC2.out⟩, by simp [intOf]; omega⟩
              all_goals exact hxx.elim
          · obtain rfl : q = S.length := by omega
            have hst := hx.lo.store2 (bn : Int) a2 c2 vs.length us HUN.out hx.row
            have hen : TmAll ((k : Int) + 1) us T' L' := cnt_end HS.out HU.out ht (by omega) hc
            have HEN : Hid _ := hen
            clear hen hc ht
            go_wp2
            exact ⟨⟨k + 1, T', L', a2, c2, us, by omega, by go_num, hst, HUV.out, HEN.out⟩, by simp [intOf]; omega⟩
      · obtain rfl : k = 12 := by omega
        have HTM : Hid (TmAll 12 vs T L) := ht
        clear ht hlt p0 p1 q0 q1 ly hk
        go_wp2
        go_loopw [16] (fun i wr => ∃ j : Nat, j ≤ 8 ∧ i = .int .i64 j ∧ Lo w wr gT gL y6 T L (bn : Int) a c vs) (fun i _ => 8 - (intOf i).toNat)
        case atStart => exact ⟨0, by omega, rfl, hl⟩
        case round =>
          clear hl
          obtain ⟨j, hj8, rfl, hl⟩ := hrel
          rename World => wi
          obtain ⟨p0, p1, q0, q1, ly⟩ := hl.cells
          by_cases h1 : (j : Int) < (vs.length : Int)
          · by_cases h2 : (j : Int) < 8
            · have hj : j < vs.length := by omega
              obtain ⟨g, rfl, hg, hhas⟩ := hl.item j hj
              obtain ⟨m1, m2, m3, m4, lT, lL⟩ := hl.at hT8 hL8 j (by omega)
              cases hh : vs[j].has with
              | true =>
                rw [hh] at hhas
                clear hh m1 m2
                go_wp2
                exact ⟨⟨j + 1, by omega, by go_num, hl⟩, by simp [intOf]; omega⟩
              | false =>
                have h3 := (HTM.out.2.2 j hj (by omega)).three hh
                rw [hh] at hhas
                rw [h3] at m1
                clear hh h3 m2
                go_wp2
                exact ⟨⟨j + 1, by omega, by go_num, hl⟩, by simp [intOf]; omega⟩
            · go_wp2
              go_ret
              exact ⟨rfl, hl.low⟩
          · go_wp2
            go_ret
            exact ⟨rfl, hl.low⟩
end Go.Proofs.Ytfeknhopjgpbfaa.mk

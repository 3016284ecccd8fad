/-
  PARTS TAKEN IN WHATEVER ORDER: the walk of laws.FnTakes.
-/
import Derived.Test.YtldlpohkpmapcaaTsB
import Derived.Test.YtldlpohkpmapcaaTsR
import Derived.Test.YtldlpohkpmapcaaPartsB
import Derived.Test.YtldlpohkpmapcaaJoinB
import Derived.Deep.LoopGhost
namespace Go.Proofs.Ytldlpohkpmapcaa.mk.f
open Go.RowKit
set_option linter.unusedVariables false

theorem lt_start (w3 : World) : Lt w3 ((w3.alloc (.cells #[.int .i64 0, .slice none 0 0, .string ⟨#[]⟩, .slice none 0 0] 30)).alloc (.cells #[] 9)) w3.heap.size (.slice (some ⟨w3.heap.size + 1, 0, none⟩) 0 0) [] 0 [] ⟨#[]⟩ [] none 0 none 0 := by
  have hg := World.ownsRow_lit (base := w3.heap.size) (e := 9) (size := 1) (w3.alloc (.cells #[.int .i64 0, .slice none 0 0, .string ⟨#[]⟩, .slice none 0 0] 30)) #[] 0 (by simp) (Nat.zero_le _) rfl
  rw [World.size_alloc] at hg
  exact ⟨((Below.refl _ _).alloc (Nat.le_refl _) _).alloc (by simp) _, Nat.le_refl _, (Bx.new w3 _ _).alloc _, World.ownsRow_nil _ _ _ _, .inl ⟨rfl, rfl, rfl⟩, hg, .inl rfl⟩
theorem zero_ok2 : tkOk ((0 : Nat) : Int) [] ⟨#[]⟩ [] = true := tkOk_yes ⟨by unfold TkHd; refine ⟨by omega, by omega, by decide, by decide⟩, fun i h => by simp at h, fun i h => by simp at h⟩
theorem pre_len (ps : List (ByteArray × Bool)) (n : Nat) : (Pre ps n).1.length ≤ n := by
  induction n with
  | zero => simp [Pre]
  | succ n ih =>
    rw [Pre]
    split
    · split
      · simp; omega
      · simp; omega
    · omega
theorem one_at8 {W : World} {k : Nat} (h : W.heap.size = k) (v : Value) (t : TypeId) : ∀ j u, ([v] : List Value)[j]? = some u → (W.alloc (.cells #[v] t)).cell? ((⟨k, 0, none⟩ : Addr).add j) = some u := by
  subst h
  exact one5 W v t
theorem draw_rr {w1 w : World} {y : Nat} {ga : Option Addr} {gc : Nat} {got : List ByteArray} {nx : Nat} {xs : List Hd} {o : ByteArray} {rs : List ByteArray} {ho : Option Addr} {hc : Nat} {so : Option Addr} {sc : Nat} (h : Lt w1 w y (.slice ga got.length gc) got nx xs o rs ho hc so sc) : Rr w ga got.length (ss got) ∧ True := by
  obtain ⟨a, c, e, _, _, hr⟩ := rs_of_owns h.got
  cases e
  exact ⟨hr.rr, trivial⟩
theorem need_exit {d j nx : Nat} {xs : List Hd} {rs : List ByteArray} (h : (d = 0 → Need j nx xs rs) ∧ (0 < d → j < nx)) (hx : rs.length = 0 ∨ 4 ≤ d) : j + 1 ≤ nx := by
  rcases Nat.eq_zero_or_pos d with e | e
  · rcases h.1 e with q | ⟨_, q, _⟩
    · omega
    · omega
  · exact h.2 e
theorem need_step {d j nx m : Nat} {xs : List Hd} {rs : List ByteArray} (h : (d = 0 → Need j nx xs rs) ∧ (0 < d → j < nx)) (hn : ∀ k, Need k nx xs rs → k < m) (hm : nx ≤ m) : j < m := by
  rcases Nat.eq_zero_or_pos d with e | e
  · exact hn j (h.1 e)
  · have := h.2 e; omega
theorem ofs (xs : List (ByteArray × Bool)) (h : Sh xs) : ∀ i (hi : i < xs.length), xs[i].1.size ≤ 1048576 := fun i hi => Nat.le_trans (h _ (List.getElem_mem hi)) (by omega)
set_option maxRecDepth 100000 in
set_option maxHeartbeats 8000000 in
theorem takes_law (v1 v2 : Option Addr) (l1 c1 l2 c2 : Nat) (w : World) (h1 : draw.Code v1 l1 w) (h2 : draw.Code v2 l2 w) (q1 : l1 ≤ c1) (q2 : l2 ≤ c2) (m1 : c1 ≤ 9223372036854775807) (m2 : c2 ≤ 9223372036854775807) :
    Calls Try.prog 3 #[.slice v1 l1 c1, .slice v2 l2 c2] w fun e w' => e = .returned (.bool true) ∧ Below w.heap.size w w' := by
  by_cases t1 : 1048576 < l1
  · go_enter Try.func3, Try.ntmps3
    go_wp2
    go_ret
    exact ⟨rfl, Below.refl _ _⟩
  by_cases t2 : 1048576 < l2
  · go_enter Try.func3, Try.ntmps3
    go_wp2
    go_ret
    exact ⟨rfl, Below.refl _ _⟩
  have HJ : Hid (Calls Try.prog 4 #[.slice v1 l1 c1] w fun e w' => JPost w e w') := joinIn_any v1 l1 c1 w h1 q1 m1
  have H2 : Hid (draw.Code v2 l2 w) := h2
  clear h1 h2 q1 m1
  go_enter Try.func3, Try.ntmps3
  go_wp2_with (go_at_call 4; refine HJ.out.mono ?_; rintro e wj hpost; unfold JPost at hpost; (obtain ⟨⟨parts, pa, pc, rfl, hpr, hpl, hsh⟩, hbj⟩ := hpost))
  clear HJ
  obtain ⟨M, O, bb, hJ⟩ : ∃ M O bb, join parts = (M, O, bb) := ⟨_, _, _, rfl⟩
  have XI : Hid (∀ u : World, Rs u pa parts.length (ps parts) → Calls Try.prog 6 #[.slice pa parts.length pc] u fun e w' => (∃ v, e = .returned (.tuple #[v, .string O, .bool bb]) ∧ w'.ownsRow u.heap.size 9 1 v M.length (ss M)) ∧ Below u.heap.size u w') := fun u h => by have := implJoin_any pa pc parts u (by omega) (ofs parts hsh) h; rw [hJ] at this; exact this
  have XS : Hid (∀ u : World, Rs u pa parts.length (ps parts) → Calls Try.prog 5 #[.slice pa parts.length pc] u fun e w' => (∃ v, e = .returned (.tuple #[v, .string O, .bool bb]) ∧ w'.ownsRow u.heap.size 9 1 v M.length (ss M)) ∧ Below u.heap.size u w') := fun u h => by have := specJoin_any pa pc parts u (by omega) (ofs parts hsh) h; rw [hJ] at this; exact this
  cases bb with
  | false =>
    clear hJ
    go_wp2_with (first
      | (go_at_call 5; refine (XS.out _ hpr).mono ?_; rintro e w3 ⟨⟨v3, rfl, ho3⟩, hb3⟩)
      | (go_at_call 6; refine (XI.out _ (hpr.keep hb3)).mono ?_; rintro e w4 ⟨⟨v4, rfl, ho4⟩, hb4⟩))
    go_ret
    exact ⟨rfl, kb (kb hbj hb3 (Nat.le_refl _)) hb4 (Nat.le_refl _)⟩
  | true =>
    obtain ⟨hfine, hM⟩ := fine_of (show (join parts).2.2 = true by rw [hJ])
    rw [hJ] at hM
    dsimp only at hM
    have HM : Hid (M = (Pre parts parts.length).1) := hM
    clear hJ XI hM
    go_wp2_with (go_at_call 5; refine (XS.out _ hpr).mono ?_; rintro e w3 ⟨⟨v3, rfl, ho3⟩, hb3⟩; (obtain ⟨wo, wc, rfl, hwc, hwm, hwr⟩ := rs_of_owns ho3))
    have hprs := hpr.keep hb3
    have hbw := kb hbj hb3 (Nat.le_refl _)
    have hcode := H2.out.keep hbw
    have hs0 := lt_start w3
    have HP : Hid (Rs w3 pa parts.length (ps parts)) := hprs
    have HC : Hid (draw.Code v2 l2 w3) := hcode
    have HW : Hid (Rs w3 wo M.length (ss M)) := hwr
    have HB : Hid (Below w.heap.size w w3) := hbw
    have HF : Hid (Fine parts) := hfine
    clear XS hpr hprs hcode hwr hbw hb3 hbj ho3 H2 hfine hsh
    unfold maxLen at hwm
    have hML : M.length ≤ 1000 := by have h1 := HM.out; have h2 := pre_len parts parts.length; rw [← h1] at h2; omega
    obtain ⟨i0, hi, hz0, hz1, hz2⟩ := info_parts info_str
    generalize ((w3.alloc (.cells #[.int .i64 0, .slice none 0 0, .string ⟨#[]⟩, .slice none 0 0] 30)).alloc (.cells #[] 9)) = W at *
    generalize hy : w3.heap.size = y at *
    go_loopw [13, 14] (fun gv i wr => ∃ (k : Nat) (ga : Option Addr) (gc : Nat) (got : List ByteArray) (nx : Nat) (xs : List Hd) (o : ByteArray) (rs : List ByteArray) (ho : Option Addr) (hc : Nat) (so : Option Addr) (sc : Nat), k ≤ 3 * parts.length + 3 ∧ i = .int .i64 k ∧ gv = .slice ga got.length gc ∧ Lt w3 wr y (.slice ga got.length gc) got nx xs o rs ho hc so sc ∧ tkOk (nx : Int) xs o rs = true ∧ Iv parts got nx xs o rs) (fun _ i _ => 3 * parts.length + 3 - (intOf i).toNat)
    case atStart => exact ⟨0, _, _, [], 0, [], _, [], _, _, _, _, Nat.zero_le _, rfl, rfl, hs0, zero_ok2, iv_start parts⟩
    case round =>
      clear hs0
      obtain ⟨k, ga, gc, got, nx, xs, o, rs, ho, hc, so, sc, hk, rfl, rfl, hs, hv, hiv⟩ := hrel
      have hnk : IntKind.i64.wrap (3 * (parts.length : Int)) = 3 * (parts.length : Int) := by rw [IntKind.wrap_i64]; omega
      by_cases hlt : (k : Int) < 3 * (parts.length : Int) + 3
      · have hcode := HC.out.keep (kb (Below.refl _ _) (hs.low.mono (Nat.le_refl _)) (Nat.le_refl _))
        have HS : Hid _ := hs
        have HV : Hid (tkOk (nx : Int) xs o rs = true) := hv
        have HI : Hid (Iv parts got nx xs o rs) := hiv
        obtain ⟨p0, p1, p2, p3, e0, e1, e2, e3, ly⟩ := hs.cells
        clear hv hiv
        by_cases hm : (k : Int) < (l2 : Int)
        · rcases hcode with h0 | ⟨C, oo, rfl, hC, hcc⟩
          · omega
          obtain ⟨cc, hcell, hc0, hc1⟩ := hcc k (by omega)
          clear hcc
          obtain ⟨p, hp, hpn⟩ : ∃ p : Nat, (p : Int) = cc % ((parts.length : Int) + 1) ∧ p ≤ parts.length := ⟨(cc % ((parts.length : Int) + 1)).toNat, by have := Int.emod_nonneg cc (show ((parts.length : Int) + 1) ≠ 0 by omega); omega, by have := Int.emod_lt_of_pos cc (show (0 : Int) < (parts.length : Int) + 1 by omega); omega⟩
          have hr1 : cc % ((parts.length : Int) + 1) = (p : Int) := hp.symm
          have hr2 : Int.tmod cc ((parts.length : Int) + 1) = (p : Int) := by rw [Int.tmod_eq_emod_of_nonneg (by omega)]; exact hp.symm
          clear hp
          by_cases hpe : p = parts.length
          · rw [hpe] at hr1 hr2
            clear hpe hpn
            by_cases hr0 : rs.length = 0
            · have HPL : Hid (∀ u : World, Rq u ho so xs rs → Calls Try.prog 7 #[.agg #[.int .i64 (nx : Int), .slice ho xs.length hc, .string o, .slice so rs.length sc]] u fun e w' => (∃ a1 c1 a2 c2, e = .returned (.tuple #[.agg #[.int .i64 (nx : Int), .slice a1 xs.length c1, .string o, .slice a2 rs.length c2], .string (pullS rs), .bool false]) ∧ w'.ownsRow u.heap.size 55 3 (.slice a1 xs.length c1) xs.length (mk.hs xs) ∧ Orw u.heap.size (.slice a2 rs.length c2) rs.length (ss rs) w') ∧ Below u.heap.size u w') := fun u hu => by have := pull_call HS.out HV.out (m := nx) (zs := xs) (p := o) (ts := rs) (by unfold pullT; rw [if_pos hr0]) u hu; rw [show pullB rs = false by unfold pullB; rw [hr0]; rfl] at this; exact this
              clear hr0
              generalize pullS rs = s0 at *
              go_wp2_with (go_at_call 7; refine (HPL.out _ HS.out.rq).mono ?_; rintro e w6 ⟨⟨a1, d1, a2, d2, rfl, hh1, hh2⟩, hb6⟩; (obtain ⟨p0', p1', p2', p3', e0', e1', e2', e3', ly'⟩ := (HS.out.keep hb6).cells); (have nly : ¬ w6.heap.size = y := (by omega)); (have nly2 : ¬ y = w6.heap.size := (by omega)))
              exact ⟨⟨k + 1, ga, gc, got, nx, xs, o, rs, a1, d1, a2, d2, by omega, by go_num, rfl, (HS.out.store hb6 nx xs o rs a1 d1 a2 d2 hh1 hh2).alloc _, HV.out, HI.out⟩, by simp [intOf]; omega⟩
            · obtain ⟨m, zs, o2, ts, hT, hiv2, hv2, hmn, _, _⟩ := pull_iv HF.out HI.out HV.out (by omega)
              have hps : pullS rs = rs[0] := by unfold pullS; rw [List.getElem?_eq_getElem (by omega)]; rfl
              have HPL : Hid (∀ u : World, Rq u ho so xs rs → Calls Try.prog 7 #[.agg #[.int .i64 (nx : Int), .slice ho xs.length hc, .string o, .slice so rs.length sc]] u fun e w' => (∃ a1 c1 a2 c2, e = .returned (.tuple #[.agg #[.int .i64 (m : Int), .slice a1 zs.length c1, .string o2, .slice a2 ts.length c2], .string (pullS rs), .bool true]) ∧ w'.ownsRow u.heap.size 55 3 (.slice a1 zs.length c1) zs.length (mk.hs zs) ∧ Orw u.heap.size (.slice a2 ts.length c2) ts.length (ss ts) w') ∧ Below u.heap.size u w') := fun u hu => by have := pull_call HS.out HV.out (m := m) (zs := zs) (p := o2) (ts := ts) (by unfold pullT; rw [if_neg hr0]; exact hT) u hu; rw [show pullB rs = true by unfold pullB; simp [hr0]] at this; exact this
              rw [← hps] at hiv2
              have HI2 : Hid _ := hiv2
              have HV2 : Hid (tkOk (m : Int) zs o2 ts = true) := hv2
              have hgl : got.length ≤ 1000 := by
                have h1 := (iv_begins HI.out).length_le
                have h2 := HM.out
                rw [← h2, List.length_append] at h1
                have h3 := hML
                omega
              clear hr0 hps hT hiv2 hv2
              generalize pullS rs = s0 at *
              go_wp2_with (first
                | (go_at_call 7; refine (HPL.out _ HS.out.rq).mono ?_; rintro e w6 ⟨⟨a1, d1, a2, d2, rfl, hh1, hh2⟩, hb6⟩; (obtain ⟨p0', p1', p2', p3', e0', e1', e2', e3', ly'⟩ := (HS.out.keep hb6).cells); (have nly : ¬ w6.heap.size = y := (by omega)); (have nly2 : ¬ y = w6.heap.size := (by omega)); (have hL2 := (HS.out.store hb6 m zs o2 ts a1 d1 a2 d2 hh1 hh2).alloc (.cells #[.int .i64 (m : Int), .slice a1 zs.length d1, .string o2, .slice a2 ts.length d2] 30)))
                | (at_builtin; refine wpList_append_lies _ rfl _ _ 25 rfl w3.heap.size 9 i0 (.string ⟨#[]⟩) 1 16 Try.underlying25 hi hz0 hz1 hz2 rfl (by decide) (.slice ga got.length gc) got.length (ss got) rfl (hL2.alloc (.cells #[.string s0] 9)).got ⟨w6.heap.size + 1, 0, none⟩ 1 1 [.string s0] rfl rfl (one_at8 (by simp) (.string s0) 9) (one6 s0) (by omega) (by unfold maxLen; omega) (by omega) (hL2.alloc (.cells #[.string s0] 9)).low.size (w6.heap.size + 1 + 1) (by simp) ?_; intro g7 c7 w7 hown hgrow hat hlt7))
              have hL3 := (hL2.alloc (.cells #[.string s0] 9)).app hgrow hown (by
                rcases hat with q | q
                · exact .inl (by rw [q]; rfl)
                · exact .inr (fun g e => by cases e; simp; omega))
              have e1 : (got ++ [s0]).length = got.length + 1 := by simp
              exact ⟨⟨k + 1, some ⟨g7, 0, none⟩, c7, got ++ [s0], m, zs, o2, ts, a1, d1, a2, d2, by omega, by go_num, by rw [e1], by rw [e1]; exact hL3, HV2.out, HI2.out⟩, by simp [intOf]; omega⟩
          · have hpl' : p < parts.length := by omega
            have hpe3 : ((p : Int) == (parts.length : Int)) = false := by simp; omega
            clear hpe
            obtain ⟨m, zs, o2, ts, hP, hiv2, hv2, hmn, hsame, _⟩ := part_iv HF.out HI.out HV.out p hpl'
            have hsz : parts[p].1.size ≤ 1048576 := by have := (HF.out.small p hpl').1; omega
            have HPT : Hid (∀ u : World, Rq u ho so xs rs → Calls Try.prog 8 #[.agg #[.int .i64 (nx : Int), .slice ho xs.length hc, .string o, .slice so rs.length sc], .int .i64 (p : Int), .agg #[.string parts[p].1, .bool parts[p].2]] u fun e w' => (∃ a1 c1 a2 c2, e = .returned (.agg #[.int .i64 (m : Int), .slice a1 zs.length c1, .string o2, .slice a2 ts.length c2]) ∧ w'.ownsRow u.heap.size 55 3 (.slice a1 zs.length c1) zs.length (mk.hs zs) ∧ Orw u.heap.size (.slice a2 ts.length c2) ts.length (ss ts) w') ∧ Below u.heap.size u w') := fun u hu => part_call HS.out HV.out (p : Int) parts[p].1 parts[p].2 hsz hP u hu
            rcases HP.out.ex with h | ⟨gp, rfl, hgp, hgc⟩
            · omega
            have hb1 := (hs.low.cell (p := ⟨gp, p * 2, none⟩) hgp).trans ((hgc (p * 2) (by rw [ps_length]; omega)).trans (ps_at parts p hpl').1)
            have hb2 := (hs.low.cell (p := ⟨gp, p * 2 + 1, none⟩) hgp).trans ((hgc (p * 2 + 1) (by rw [ps_length]; omega)).trans (ps_at parts p hpl').2)
            have hgp2 : gp < wr.heap.size := Nat.lt_of_lt_of_le hgp hs.low.size
            have HI2 : Hid (Iv parts got m zs o2 ts) := hiv2
            have HV2 : Hid (tkOk (m : Int) zs o2 ts = true) := hv2
            have HSM : Hid (p < nx → m = nx ∧ zs = xs ∧ o2 = o ∧ ts = rs) := hsame
            clear hP hiv2 hv2 hsame hgc
            generalize parts[p].1 = sp at *
            generalize parts[p].2 = lp at *
            go_wp2
            go_region_with (go_at_call 8; refine (HPT.out _ (HS.out.alloc _).drew.rq).mono ?_; rintro e w6 ⟨⟨a1, d1, a2, d2, rfl, hh1, hh2⟩, hb6⟩; (obtain ⟨p0', p1', p2', p3', e0', e1', e2', e3', ly'⟩ := ((HS.out.alloc (.cells #[.int .i64 (nx : Int), .slice ho xs.length hc, .string o, .slice so rs.length sc] 30)).drew.keep hb6).cells); (have nly2 : ¬ y = wr.heap.size := (by omega)))
            all_goals have hL2 := (HS.out.alloc (.cells #[.int .i64 (nx : Int), .slice ho xs.length hc, .string o, .slice so rs.length sc] 30)).drew.store hb6 m zs o2 ts a1 d1 a2 d2 hh1 hh2
            all_goals have hold := (HS.out.alloc (.cells #[.int .i64 (nx : Int), .slice ho xs.length hc, .string o, .slice so rs.length sc] 30)).drew.store_rq hb6 (.int .i64 (m : Int)) (.slice a1 zs.length d1) (.string o2) (.slice a2 ts.length d2)
            all_goals have x19 := (((((show Bx (wr.alloc (.cells #[.int .i64 (nx : Int), .slice ho xs.length hc, .string o, .slice so rs.length sc] 30)).drew wr.heap.size 30 #[.int .i64 (nx : Int), .slice ho xs.length hc, .string o, .slice so rs.length sc] from Bx.new wr _ _).keep hb6).other ⟨y, 0, none⟩ (fun e => nly2 e.symm) (.int .i64 (m : Int))).other ⟨y, 1, none⟩ (fun e => nly2 e.symm) (.slice a1 zs.length d1)).other ⟨y, 2, none⟩ (fun e => nly2 e.symm) (.string o2)).other ⟨y, 3, none⟩ (fun e => nly2 e.symm) (.slice a2 ts.length d2)
            all_goals clear hh1 hh2 hb6 p0' p1' p2' p3' e0' e1' e2' e3' ly' p0 p1 p2 p3 e0 e1 e2 e3 ly hb1 hb2 hgp2
            all_goals generalize ((((w6.setCell ⟨y, 0, none⟩ (.int .i64 (m : Int))).setCell ⟨y, 1, none⟩ (.slice a1 zs.length d1)).setCell ⟨y, 2, none⟩ (.string o2)).setCell ⟨y, 3, none⟩ (.slice a2 ts.length d2)) = W9 at *
            all_goals generalize wr.heap.size = y19 at *
            all_goals obtain ⟨p0, p1, p2, p3, _, _, _, _, ly⟩ := hL2.cells
            all_goals have t0 := x19.cell 0
            all_goals have t1' := x19.cell 1
            all_goals have t2' := x19.cell 2
            all_goals have t3 := x19.cell 3
            all_goals have l19 := x19.lt
            all_goals simp at t0 t1' t2' t3
            all_goals have h8 := (tkOk_of HV2.out).len
            all_goals have h4 := (tkOk_of HV2.out).1
            all_goals unfold TkHd at h4
            all_goals by_cases hpx : p < nx
            · obtain ⟨rfl, rfl, rfl, rfl⟩ := HSM.out hpx
              go_wp2_with (first
                | (go_at_call 9; refine (valid_call HV2.out a1 a2 d1 d2 _ hL2.rq).mono ?_; rintro e w10 ⟨rfl, hb10⟩; (obtain ⟨p0', p1', p2', p3', _, _, _, _, ly'⟩ := (hL2.keep hb10).cells); (have t0' := (x19.keep hb10).cell 0); (have t1'' := (x19.keep hb10).cell 1); (have t2'' := (x19.keep hb10).cell 2); (have t3' := (x19.keep hb10).cell 3); simp at t0' t1'' t2'' t3')
                | (go_at_call 10; refine (wTake_same _ a1 a2 ho so d1 d2 hc sc _ _ _ _ (by omega) (by omega) (hL2.keep hb10).rq (hold.keep hb10)).mono ?_; rintro e w11 ⟨rfl, hb11⟩))
              have hL9 := (hL2.keep hb10).keep hb11
              refine Code.wp_mono ?_ (region26 w3 _ y gc m d1 d2 wc ga a1 a2 wo got ts M zs o2 _ _ _ _ _ _ _ _ _ _ _ _ _ _ _ _ _ _ _ _ _ _ _ _ _ _ _ _ _ _ _ _ _ _ _ _ _ _ _ _ _ _ _ _ _ _ _ _ _ _ _ _ _ _ _ _ _ _ _ _ _ _ _ _ _ _ _ _ _ _ _ _ _ _ _ _ _ _ _ _ _ _ _ _ _ _ _ _ _ _ _ _ _ _ _ _ _ _ _ _ _ _ _ _ _ _ _ _ _ _ _ _ _ _ _ _ _ _ _ _ _ _ _ _ _ _ _ _ _ _ _ _ _ _ _ _ _ _ _ _ _ _ _ _ _ _ _ _ _ _ _ _ _ _ _ _ _ _ _ _ _ _ _ _ _ _ _ _ _ _ _ _ _ _ _ _ _ _ hL9 (HW.out.rr.keep hL9.low) (by rw [HM.out]; exact iv_begins HI2.out) hML hwc hwm)
              intro x aa w12 hx
              cases x
              case normal =>
                obtain ⟨z1, z2, z3, z4, z5, z6, z7, z8, z9, rfl, rfl, hb12⟩ := hx
                dsimp only
                go_wp2
                exact ⟨⟨k + 1, ga, gc, got, m, zs, o2, ts, a1, d1, a2, d2, by omega, by go_num, rfl, hL9.keep hb12, HV2.out, HI2.out⟩, by simp [intOf]; omega⟩
              all_goals exact hx.elim
            · go_wp2_with (go_at_call 9; refine (valid_call HV2.out a1 a2 d1 d2 _ hL2.rq).mono ?_; rintro e w10 ⟨rfl, hb10⟩; (obtain ⟨p0', p1', p2', p3', _, _, _, _, ly'⟩ := (hL2.keep hb10).cells); (have t0' := (x19.keep hb10).cell 0); (have t1'' := (x19.keep hb10).cell 1); (have t2'' := (x19.keep hb10).cell 2); (have t3' := (x19.keep hb10).cell 3); simp at t0' t1'' t2'' t3')
              have hL9 := hL2.keep hb10
              refine Code.wp_mono ?_ (region26 w3 _ y gc m d1 d2 wc ga a1 a2 wo got ts M zs o2 _ _ _ _ _ _ _ _ _ _ _ _ _ _ _ _ _ _ _ _ _ _ _ _ _ _ _ _ _ _ _ _ _ _ _ _ _ _ _ _ _ _ _ _ _ _ _ _ _ _ _ _ _ _ _ _ _ _ _ _ _ _ _ _ _ _ _ _ _ _ _ _ _ _ _ _ _ _ _ _ _ _ _ _ _ _ _ _ _ _ _ _ _ _ _ _ _ _ _ _ _ _ _ _ _ _ _ _ _ _ _ _ _ _ _ _ _ _ _ _ _ _ _ _ _ _ _ _ _ _ _ _ _ _ _ _ _ _ _ _ _ _ _ _ _ _ _ _ _ _ _ _ _ _ _ _ _ _ _ _ _ _ _ _ _ _ _ _ _ _ _ _ _ _ _ _ _ _ hL9 (HW.out.rr.keep hL9.low) (by rw [HM.out]; exact iv_begins HI2.out) hML hwc hwm)
              intro x aa w12 hx
              cases x
              case normal =>
                obtain ⟨z1, z2, z3, z4, z5, z6, z7, z8, z9, rfl, rfl, hb12⟩ := hx
                dsimp only
                go_wp2
                exact ⟨⟨k + 1, ga, gc, got, m, zs, o2, ts, a1, d1, a2, d2, by omega, by go_num, rfl, hL9.keep hb12, HV2.out, HI2.out⟩, by simp [intOf]; omega⟩
              all_goals exact hx.elim
            · obtain ⟨rfl, rfl, rfl, rfl⟩ := HSM.out hpx
              go_wp2_with (first
                | (go_at_call 9; refine (valid_call HV2.out a1 a2 d1 d2 _ hL2.rq).mono ?_; rintro e w10 ⟨rfl, hb10⟩; (obtain ⟨p0', p1', p2', p3', _, _, _, _, ly'⟩ := (hL2.keep hb10).cells); (have t0' := (x19.keep hb10).cell 0); (have t1'' := (x19.keep hb10).cell 1); (have t2'' := (x19.keep hb10).cell 2); (have t3' := (x19.keep hb10).cell 3); simp at t0' t1'' t2'' t3')
                | (go_at_call 10; refine (wTake_same _ a1 a2 ho so d1 d2 hc sc _ _ _ _ (by omega) (by omega) (hL2.keep hb10).rq (hold.keep hb10)).mono ?_; rintro e w11 ⟨rfl, hb11⟩))
              have hL9 := (hL2.keep hb10).keep hb11
              refine Code.wp_mono ?_ (region26 w3 _ y gc m d1 d2 wc ga a1 a2 wo got ts M zs o2 _ _ _ _ _ _ _ _ _ _ _ _ _ _ _ _ _ _ _ _ _ _ _ _ _ _ _ _ _ _ _ _ _ _ _ _ _ _ _ _ _ _ _ _ _ _ _ _ _ _ _ _ _ _ _ _ _ _ _ _ _ _ _ _ _ _ _ _ _ _ _ _ _ _ _ _ _ _ _ _ _ _ _ _ _ _ _ _ _ _ _ _ _ _ _ _ _ _ _ _ _ _ _ _ _ _ _ _ _ _ _ _ _ _ _ _ _ _ _ _ _ _ _ _ _ _ _ _ _ _ _ _ _ _ _ _ _ _ _ _ _ _ _ _ _ _ _ _ _ _ _ _ _ _ _ _ _ _ _ _ _ _ _ _ _ _ _ _ _ _ _ _ _ _ _ _ _ _ hL9 (HW.out.rr.keep hL9.low) (by rw [HM.out]; exact iv_begins HI2.out) hML hwc hwm)
              intro x aa w12 hx
              cases x
              case normal =>
                obtain ⟨z1, z2, z3, z4, z5, z6, z7, z8, z9, rfl, rfl, hb12⟩ := hx
                dsimp only
                go_wp2
                exact ⟨⟨k + 1, ga, gc, got, m, zs, o2, ts, a1, d1, a2, d2, by omega, by go_num, rfl, hL9.keep hb12, HV2.out, HI2.out⟩, by simp [intOf]; omega⟩
              all_goals exact hx.elim
            · go_wp2_with (go_at_call 9; refine (valid_call HV2.out a1 a2 d1 d2 _ hL2.rq).mono ?_; rintro e w10 ⟨rfl, hb10⟩; (obtain ⟨p0', p1', p2', p3', _, _, _, _, ly'⟩ := (hL2.keep hb10).cells); (have t0' := (x19.keep hb10).cell 0); (have t1'' := (x19.keep hb10).cell 1); (have t2'' := (x19.keep hb10).cell 2); (have t3' := (x19.keep hb10).cell 3); simp at t0' t1'' t2'' t3')
              have hL9 := hL2.keep hb10
              refine Code.wp_mono ?_ (region26 w3 _ y gc m d1 d2 wc ga a1 a2 wo got ts M zs o2 _ _ _ _ _ _ _ _ _ _ _ _ _ _ _ _ _ _ _ _ _ _ _ _ _ _ _ _ _ _ _ _ _ _ _ _ _ _ _ _ _ _ _ _ _ _ _ _ _ _ _ _ _ _ _ _ _ _ _ _ _ _ _ _ _ _ _ _ _ _ _ _ _ _ _ _ _ _ _ _ _ _ _ _ _ _ _ _ _ _ _ _ _ _ _ _ _ _ _ _ _ _ _ _ _ _ _ _ _ _ _ _ _ _ _ _ _ _ _ _ _ _ _ _ _ _ _ _ _ _ _ _ _ _ _ _ _ _ _ _ _ _ _ _ _ _ _ _ _ _ _ _ _ _ _ _ _ _ _ _ _ _ _ _ _ _ _ _ _ _ _ _ _ _ _ _ _ _ hL9 (HW.out.rr.keep hL9.low) (by rw [HM.out]; exact iv_begins HI2.out) hML hwc hwm)
              intro x aa w12 hx
              cases x
              case normal =>
                obtain ⟨z1, z2, z3, z4, z5, z6, z7, z8, z9, rfl, rfl, hb12⟩ := hx
                dsimp only
                go_wp2
                exact ⟨⟨k + 1, ga, gc, got, m, zs, o2, ts, a1, d1, a2, d2, by omega, by go_num, rfl, hL9.keep hb12, HV2.out, HI2.out⟩, by simp [intOf]; omega⟩
              all_goals exact hx.elim
        · obtain ⟨p, hp, hpn⟩ : ∃ p : Nat, (p : Int) = (k : Int) % ((parts.length : Int) + 1) ∧ p ≤ parts.length := ⟨((k : Int) % ((parts.length : Int) + 1)).toNat, by have := Int.emod_nonneg (k : Int) (show ((parts.length : Int) + 1) ≠ 0 by omega); omega, by have := Int.emod_lt_of_pos (k : Int) (show (0 : Int) < (parts.length : Int) + 1 by omega); omega⟩
          have hr1 : (k : Int) % ((parts.length : Int) + 1) = (p : Int) := hp.symm
          have hr2 : Int.tmod (k : Int) ((parts.length : Int) + 1) = (p : Int) := by rw [Int.tmod_eq_emod_of_nonneg (by omega)]; exact hp.symm
          clear hp
          by_cases hpe : p = parts.length
          · rw [hpe] at hr1 hr2
            clear hpe hpn
            by_cases hr0 : rs.length = 0
            · have HPL : Hid (∀ u : World, Rq u ho so xs rs → Calls Try.prog 7 #[.agg #[.int .i64 (nx : Int), .slice ho xs.length hc, .string o, .slice so rs.length sc]] u fun e w' => (∃ a1 c1 a2 c2, e = .returned (.tuple #[.agg #[.int .i64 (nx : Int), .slice a1 xs.length c1, .string o, .slice a2 rs.length c2], .string (pullS rs), .bool false]) ∧ w'.ownsRow u.heap.size 55 3 (.slice a1 xs.length c1) xs.length (mk.hs xs) ∧ Orw u.heap.size (.slice a2 rs.length c2) rs.length (ss rs) w') ∧ Below u.heap.size u w') := fun u hu => by have := pull_call HS.out HV.out (m := nx) (zs := xs) (p := o) (ts := rs) (by unfold pullT; rw [if_pos hr0]) u hu; rw [show pullB rs = false by unfold pullB; rw [hr0]; rfl] at this; exact this
              clear hr0
              generalize pullS rs = s0 at *
              go_wp2_with (go_at_call 7; refine (HPL.out _ HS.out.rq).mono ?_; rintro e w6 ⟨⟨a1, d1, a2, d2, rfl, hh1, hh2⟩, hb6⟩; (obtain ⟨p0', p1', p2', p3', e0', e1', e2', e3', ly'⟩ := (HS.out.keep hb6).cells); (have nly : ¬ w6.heap.size = y := (by omega)); (have nly2 : ¬ y = w6.heap.size := (by omega)))
              exact ⟨⟨k + 1, ga, gc, got, nx, xs, o, rs, a1, d1, a2, d2, by omega, by go_num, rfl, (HS.out.store hb6 nx xs o rs a1 d1 a2 d2 hh1 hh2).alloc _, HV.out, HI.out⟩, by simp [intOf]; omega⟩
            · obtain ⟨m, zs, o2, ts, hT, hiv2, hv2, hmn, _, _⟩ := pull_iv HF.out HI.out HV.out (by omega)
              have hps : pullS rs = rs[0] := by unfold pullS; rw [List.getElem?_eq_getElem (by omega)]; rfl
              have HPL : Hid (∀ u : World, Rq u ho so xs rs → Calls Try.prog 7 #[.agg #[.int .i64 (nx : Int), .slice ho xs.length hc, .string o, .slice so rs.length sc]] u fun e w' => (∃ a1 c1 a2 c2, e = .returned (.tuple #[.agg #[.int .i64 (m : Int), .slice a1 zs.length c1, .string o2, .slice a2 ts.length c2], .string (pullS rs), .bool true]) ∧ w'.ownsRow u.heap.size 55 3 (.slice a1 zs.length c1) zs.length (mk.hs zs) ∧ Orw u.heap.size (.slice a2 ts.length c2) ts.length (ss ts) w') ∧ Below u.heap.size u w') := fun u hu => by have := pull_call HS.out HV.out (m := m) (zs := zs) (p := o2) (ts := ts) (by unfold pullT; rw [if_neg hr0]; exact hT) u hu; rw [show pullB rs = true by unfold pullB; simp [hr0]] at this; exact this
              rw [← hps] at hiv2
              have HI2 : Hid _ := hiv2
              have HV2 : Hid (tkOk (m : Int) zs o2 ts = true) := hv2
              have hgl : got.length ≤ 1000 := by
                have h1 := (iv_begins HI.out).length_le
                have h2 := HM.out
                rw [← h2, List.length_append] at h1
                have h3 := hML
                omega
              clear hr0 hps hT hiv2 hv2
              generalize pullS rs = s0 at *
              go_wp2_with (first
                | (go_at_call 7; refine (HPL.out _ HS.out.rq).mono ?_; rintro e w6 ⟨⟨a1, d1, a2, d2, rfl, hh1, hh2⟩, hb6⟩; (obtain ⟨p0', p1', p2', p3', e0', e1', e2', e3', ly'⟩ := (HS.out.keep hb6).cells); (have nly : ¬ w6.heap.size = y := (by omega)); (have nly2 : ¬ y = w6.heap.size := (by omega)); (have hL2 := (HS.out.store hb6 m zs o2 ts a1 d1 a2 d2 hh1 hh2).alloc (.cells #[.int .i64 (m : Int), .slice a1 zs.length d1, .string o2, .slice a2 ts.length d2] 30)))
                | (at_builtin; refine wpList_append_lies _ rfl _ _ 25 rfl w3.heap.size 9 i0 (.string ⟨#[]⟩) 1 16 Try.underlying25 hi hz0 hz1 hz2 rfl (by decide) (.slice ga got.length gc) got.length (ss got) rfl (hL2.alloc (.cells #[.string s0] 9)).got ⟨w6.heap.size + 1, 0, none⟩ 1 1 [.string s0] rfl rfl (one_at8 (by simp) (.string s0) 9) (one6 s0) (by omega) (by unfold maxLen; omega) (by omega) (hL2.alloc (.cells #[.string s0] 9)).low.size (w6.heap.size + 1 + 1) (by simp) ?_; intro g7 c7 w7 hown hgrow hat hlt7))
              have hL3 := (hL2.alloc (.cells #[.string s0] 9)).app hgrow hown (by
                rcases hat with q | q
                · exact .inl (by rw [q]; rfl)
                · exact .inr (fun g e => by cases e; simp; omega))
              have e1 : (got ++ [s0]).length = got.length + 1 := by simp
              exact ⟨⟨k + 1, some ⟨g7, 0, none⟩, c7, got ++ [s0], m, zs, o2, ts, a1, d1, a2, d2, by omega, by go_num, by rw [e1], by rw [e1]; exact hL3, HV2.out, HI2.out⟩, by simp [intOf]; omega⟩
          · have hpl' : p < parts.length := by omega
            have hpe3 : ((p : Int) == (parts.length : Int)) = false := by simp; omega
            clear hpe
            obtain ⟨m, zs, o2, ts, hP, hiv2, hv2, hmn, hsame, _⟩ := part_iv HF.out HI.out HV.out p hpl'
            have hsz : parts[p].1.size ≤ 1048576 := by have := (HF.out.small p hpl').1; omega
            have HPT : Hid (∀ u : World, Rq u ho so xs rs → Calls Try.prog 8 #[.agg #[.int .i64 (nx : Int), .slice ho xs.length hc, .string o, .slice so rs.length sc], .int .i64 (p : Int), .agg #[.string parts[p].1, .bool parts[p].2]] u fun e w' => (∃ a1 c1 a2 c2, e = .returned (.agg #[.int .i64 (m : Int), .slice a1 zs.length c1, .string o2, .slice a2 ts.length c2]) ∧ w'.ownsRow u.heap.size 55 3 (.slice a1 zs.length c1) zs.length (mk.hs zs) ∧ Orw u.heap.size (.slice a2 ts.length c2) ts.length (ss ts) w') ∧ Below u.heap.size u w') := fun u hu => part_call HS.out HV.out (p : Int) parts[p].1 parts[p].2 hsz hP u hu
            rcases HP.out.ex with h | ⟨gp, rfl, hgp, hgc⟩
            · omega
            have hb1 := (hs.low.cell (p := ⟨gp, p * 2, none⟩) hgp).trans ((hgc (p * 2) (by rw [ps_length]; omega)).trans (ps_at parts p hpl').1)
            have hb2 := (hs.low.cell (p := ⟨gp, p * 2 + 1, none⟩) hgp).trans ((hgc (p * 2 + 1) (by rw [ps_length]; omega)).trans (ps_at parts p hpl').2)
            have hgp2 : gp < wr.heap.size := Nat.lt_of_lt_of_le hgp hs.low.size
            have HI2 : Hid (Iv parts got m zs o2 ts) := hiv2
            have HV2 : Hid (tkOk (m : Int) zs o2 ts = true) := hv2
            have HSM : Hid (p < nx → m = nx ∧ zs = xs ∧ o2 = o ∧ ts = rs) := hsame
            clear hP hiv2 hv2 hsame hgc
            generalize parts[p].1 = sp at *
            generalize parts[p].2 = lp at *
            go_wp2
            go_region_with (go_at_call 8; refine (HPT.out _ (HS.out.alloc _).drew.rq).mono ?_; rintro e w6 ⟨⟨a1, d1, a2, d2, rfl, hh1, hh2⟩, hb6⟩; (obtain ⟨p0', p1', p2', p3', e0', e1', e2', e3', ly'⟩ := ((HS.out.alloc (.cells #[.int .i64 (nx : Int), .slice ho xs.length hc, .string o, .slice so rs.length sc] 30)).drew.keep hb6).cells); (have nly2 : ¬ y = wr.heap.size := (by omega)))
            all_goals have hL2 := (HS.out.alloc (.cells #[.int .i64 (nx : Int), .slice ho xs.length hc, .string o, .slice so rs.length sc] 30)).drew.store hb6 m zs o2 ts a1 d1 a2 d2 hh1 hh2
            all_goals have hold := (HS.out.alloc (.cells #[.int .i64 (nx : Int), .slice ho xs.length hc, .string o, .slice so rs.length sc] 30)).drew.store_rq hb6 (.int .i64 (m : Int)) (.slice a1 zs.length d1) (.string o2) (.slice a2 ts.length d2)
            all_goals have x19 := (((((show Bx (wr.alloc (.cells #[.int .i64 (nx : Int), .slice ho xs.length hc, .string o, .slice so rs.length sc] 30)).drew wr.heap.size 30 #[.int .i64 (nx : Int), .slice ho xs.length hc, .string o, .slice so rs.length sc] from Bx.new wr _ _).keep hb6).other ⟨y, 0, none⟩ (fun e => nly2 e.symm) (.int .i64 (m : Int))).other ⟨y, 1, none⟩ (fun e => nly2 e.symm) (.slice a1 zs.length d1)).other ⟨y, 2, none⟩ (fun e => nly2 e.symm) (.string o2)).other ⟨y, 3, none⟩ (fun e => nly2 e.symm) (.slice a2 ts.length d2)
            all_goals clear hh1 hh2 hb6 p0' p1' p2' p3' e0' e1' e2' e3' ly' p0 p1 p2 p3 e0 e1 e2 e3 ly hb1 hb2 hgp2
            all_goals generalize ((((w6.setCell ⟨y, 0, none⟩ (.int .i64 (m : Int))).setCell ⟨y, 1, none⟩ (.slice a1 zs.length d1)).setCell ⟨y, 2, none⟩ (.string o2)).setCell ⟨y, 3, none⟩ (.slice a2 ts.length d2)) = W9 at *
            all_goals generalize wr.heap.size = y19 at *
            all_goals obtain ⟨p0, p1, p2, p3, _, _, _, _, ly⟩ := hL2.cells
            all_goals have t0 := x19.cell 0
            all_goals have t1' := x19.cell 1
            all_goals have t2' := x19.cell 2
            all_goals have t3 := x19.cell 3
            all_goals have l19 := x19.lt
            all_goals simp at t0 t1' t2' t3
            all_goals have h8 := (tkOk_of HV2.out).len
            all_goals have h4 := (tkOk_of HV2.out).1
            all_goals unfold TkHd at h4
            all_goals by_cases hpx : p < nx
            · obtain ⟨rfl, rfl, rfl, rfl⟩ := HSM.out hpx
              go_wp2_with (first
                | (go_at_call 9; refine (valid_call HV2.out a1 a2 d1 d2 _ hL2.rq).mono ?_; rintro e w10 ⟨rfl, hb10⟩; (obtain ⟨p0', p1', p2', p3', _, _, _, _, ly'⟩ := (hL2.keep hb10).cells); (have t0' := (x19.keep hb10).cell 0); (have t1'' := (x19.keep hb10).cell 1); (have t2'' := (x19.keep hb10).cell 2); (have t3' := (x19.keep hb10).cell 3); simp at t0' t1'' t2'' t3')
                | (go_at_call 10; refine (wTake_same _ a1 a2 ho so d1 d2 hc sc _ _ _ _ (by omega) (by omega) (hL2.keep hb10).rq (hold.keep hb10)).mono ?_; rintro e w11 ⟨rfl, hb11⟩))
              have hL9 := (hL2.keep hb10).keep hb11
              refine Code.wp_mono ?_ (region26 w3 _ y gc m d1 d2 wc ga a1 a2 wo got ts M zs o2 _ _ _ _ _ _ _ _ _ _ _ _ _ _ _ _ _ _ _ _ _ _ _ _ _ _ _ _ _ _ _ _ _ _ _ _ _ _ _ _ _ _ _ _ _ _ _ _ _ _ _ _ _ _ _ _ _ _ _ _ _ _ _ _ _ _ _ _ _ _ _ _ _ _ _ _ _ _ _ _ _ _ _ _ _ _ _ _ _ _ _ _ _ _ _ _ _ _ _ _ _ _ _ _ _ _ _ _ _ _ _ _ _ _ _ _ _ _ _ _ _ _ _ _ _ _ _ _ _ _ _ _ _ _ _ _ _ _ _ _ _ _ _ _ _ _ _ _ _ _ _ _ _ _ _ _ _ _ _ _ _ _ _ _ _ _ _ _ _ _ _ _ _ _ _ _ _ _ hL9 (HW.out.rr.keep hL9.low) (by rw [HM.out]; exact iv_begins HI2.out) hML hwc hwm)
              intro x aa w12 hx
              cases x
              case normal =>
                obtain ⟨z1, z2, z3, z4, z5, z6, z7, z8, z9, rfl, rfl, hb12⟩ := hx
                dsimp only
                go_wp2
                exact ⟨⟨k + 1, ga, gc, got, m, zs, o2, ts, a1, d1, a2, d2, by omega, by go_num, rfl, hL9.keep hb12, HV2.out, HI2.out⟩, by simp [intOf]; omega⟩
              all_goals exact hx.elim
            · go_wp2_with (go_at_call 9; refine (valid_call HV2.out a1 a2 d1 d2 _ hL2.rq).mono ?_; rintro e w10 ⟨rfl, hb10⟩; (obtain ⟨p0', p1', p2', p3', _, _, _, _, ly'⟩ := (hL2.keep hb10).cells); (have t0' := (x19.keep hb10).cell 0); (have t1'' := (x19.keep hb10).cell 1); (have t2'' := (x19.keep hb10).cell 2); (have t3' := (x19.keep hb10).cell 3); simp at t0' t1'' t2'' t3')
              have hL9 := hL2.keep hb10
              refine Code.wp_mono ?_ (region26 w3 _ y gc m d1 d2 wc ga a1 a2 wo got ts M zs o2 _ _ _ _ _ _ _ _ _ _ _ _ _ _ _ _ _ _ _ _ _ _ _ _ _ _ _ _ _ _ _ _ _ _ _ _ _ _ _ _ _ _ _ _ _ _ _ _ _ _ _ _ _ _ _ _ _ _ _ _ _ _ _ _ _ _ _ _ _ _ _ _ _ _ _ _ _ _ _ _ _ _ _ _ _ _ _ _ _ _ _ _ _ _ _ _ _ _ _ _ _ _ _ _ _ _ _ _ _ _ _ _ _ _ _ _ _ _ _ _ _ _ _ _ _ _ _ _ _ _ _ _ _ _ _ _ _ _ _ _ _ _ _ _ _ _ _ _ _ _ _ _ _ _ _ _ _ _ _ _ _ _ _ _ _ _ _ _ _ _ _ _ _ _ _ _ _ _ hL9 (HW.out.rr.keep hL9.low) (by rw [HM.out]; exact iv_begins HI2.out) hML hwc hwm)
              intro x aa w12 hx
              cases x
              case normal =>
                obtain ⟨z1, z2, z3, z4, z5, z6, z7, z8, z9, rfl, rfl, hb12⟩ := hx
                dsimp only
                go_wp2
                exact ⟨⟨k + 1, ga, gc, got, m, zs, o2, ts, a1, d1, a2, d2, by omega, by go_num, rfl, hL9.keep hb12, HV2.out, HI2.out⟩, by simp [intOf]; omega⟩
              all_goals exact hx.elim
            · obtain ⟨rfl, rfl, rfl, rfl⟩ := HSM.out hpx
              go_wp2_with (first
                | (go_at_call 9; refine (valid_call HV2.out a1 a2 d1 d2 _ hL2.rq).mono ?_; rintro e w10 ⟨rfl, hb10⟩; (obtain ⟨p0', p1', p2', p3', _, _, _, _, ly'⟩ := (hL2.keep hb10).cells); (have t0' := (x19.keep hb10).cell 0); (have t1'' := (x19.keep hb10).cell 1); (have t2'' := (x19.keep hb10).cell 2); (have t3' := (x19.keep hb10).cell 3); simp at t0' t1'' t2'' t3')
                | (go_at_call 10; refine (wTake_same _ a1 a2 ho so d1 d2 hc sc _ _ _ _ (by omega) (by omega) (hL2.keep hb10).rq (hold.keep hb10)).mono ?_; rintro e w11 ⟨rfl, hb11⟩))
              have hL9 := (hL2.keep hb10).keep hb11
              refine Code.wp_mono ?_ (region26 w3 _ y gc m d1 d2 wc ga a1 a2 wo got ts M zs o2 _ _ _ _ _ _ _ _ _ _ _ _ _ _ _ _ _ _ _ _ _ _ _ _ _ _ _ _ _ _ _ _ _ _ _ _ _ _ _ _ _ _ _ _ _ _ _ _ _ _ _ _ _ _ _ _ _ _ _ _ _ _ _ _ _ _ _ _ _ _ _ _ _ _ _ _ _ _ _ _ _ _ _ _ _ _ _ _ _ _ _ _ _ _ _ _ _ _ _ _ _ _ _ _ _ _ _ _ _ _ _ _ _ _ _ _ _ _ _ _ _ _ _ _ _ _ _ _ _ _ _ _ _ _ _ _ _ _ _ _ _ _ _ _ _ _ _ _ _ _ _ _ _ _ _ _ _ _ _ _ _ _ _ _ _ _ _ _ _ _ _ _ _ _ _ _ _ _ hL9 (HW.out.rr.keep hL9.low) (by rw [HM.out]; exact iv_begins HI2.out) hML hwc hwm)
              intro x aa w12 hx
              cases x
              case normal =>
                obtain ⟨z1, z2, z3, z4, z5, z6, z7, z8, z9, rfl, rfl, hb12⟩ := hx
                dsimp only
                go_wp2
                exact ⟨⟨k + 1, ga, gc, got, m, zs, o2, ts, a1, d1, a2, d2, by omega, by go_num, rfl, hL9.keep hb12, HV2.out, HI2.out⟩, by simp [intOf]; omega⟩
              all_goals exact hx.elim
            · go_wp2_with (go_at_call 9; refine (valid_call HV2.out a1 a2 d1 d2 _ hL2.rq).mono ?_; rintro e w10 ⟨rfl, hb10⟩; (obtain ⟨p0', p1', p2', p3', _, _, _, _, ly'⟩ := (hL2.keep hb10).cells); (have t0' := (x19.keep hb10).cell 0); (have t1'' := (x19.keep hb10).cell 1); (have t2'' := (x19.keep hb10).cell 2); (have t3' := (x19.keep hb10).cell 3); simp at t0' t1'' t2'' t3')
              have hL9 := hL2.keep hb10
              refine Code.wp_mono ?_ (region26 w3 _ y gc m d1 d2 wc ga a1 a2 wo got ts M zs o2 _ _ _ _ _ _ _ _ _ _ _ _ _ _ _ _ _ _ _ _ _ _ _ _ _ _ _ _ _ _ _ _ _ _ _ _ _ _ _ _ _ _ _ _ _ _ _ _ _ _ _ _ _ _ _ _ _ _ _ _ _ _ _ _ _ _ _ _ _ _ _ _ _ _ _ _ _ _ _ _ _ _ _ _ _ _ _ _ _ _ _ _ _ _ _ _ _ _ _ _ _ _ _ _ _ _ _ _ _ _ _ _ _ _ _ _ _ _ _ _ _ _ _ _ _ _ _ _ _ _ _ _ _ _ _ _ _ _ _ _ _ _ _ _ _ _ _ _ _ _ _ _ _ _ _ _ _ _ _ _ _ _ _ _ _ _ _ _ _ _ _ _ _ _ _ _ _ _ hL9 (HW.out.rr.keep hL9.low) (by rw [HM.out]; exact iv_begins HI2.out) hML hwc hwm)
              intro x aa w12 hx
              cases x
              case normal =>
                obtain ⟨z1, z2, z3, z4, z5, z6, z7, z8, z9, rfl, rfl, hb12⟩ := hx
                dsimp only
                go_wp2
                exact ⟨⟨k + 1, ga, gc, got, m, zs, o2, ts, a1, d1, a2, d2, by omega, by go_num, rfl, hL9.keep hb12, HV2.out, HI2.out⟩, by simp [intOf]; omega⟩
              all_goals exact hx.elim
      · go_wp2
        clear hnk hlt
        go_loopw [13, 20] (fun gv i wr => ∃ (j : Nat) (ga : Option Addr) (gc : Nat) (got : List ByteArray) (nx : Nat) (xs : List Hd) (o : ByteArray) (rs : List ByteArray) (ho : Option Addr) (hc : Nat) (so : Option Addr) (sc : Nat), j ≤ parts.length + 1 ∧ i = .int .i64 j ∧ gv = .slice ga got.length gc ∧ Lt w3 wr y (.slice ga got.length gc) got nx xs o rs ho hc so sc ∧ tkOk (nx : Int) xs o rs = true ∧ Iv parts got nx xs o rs ∧ (j ≤ parts.length → j ≤ nx) ∧ (j = parts.length + 1 → nx = parts.length ∧ rs.length = 0)) (fun _ i _ => parts.length + 1 - (intOf i).toNat)
        case atStart => exact ⟨0, ga, gc, got, nx, xs, o, rs, ho, hc, so, sc, by omega, rfl, rfl, hs, hv, hiv, fun _ => Nat.zero_le _, fun h => by omega⟩
        case round =>
          clear hs hv hiv hk
          obtain ⟨j, ga, gc, got, nx, xs, o, rs, ho, hc, so, sc, hj, rfl, rfl, hs, hv, hiv, hjn, hje⟩ := hrel
          rename World => wq
          by_cases hle : (j : Int) ≤ (parts.length : Int)
          · by_cases hjl : (j : Int) < (parts.length : Int)
            · have hpl' : j < parts.length := by omega
              have hjn' : j ≤ nx := hjn (by omega)
              have HS : Hid _ := hs
              have HV : Hid (tkOk (nx : Int) xs o rs = true) := hv
              have HI : Hid (Iv parts got nx xs o rs) := hiv
              obtain ⟨p0, p1, p2, p3, e0, e1, e2, e3, ly⟩ := hs.cells
              obtain ⟨m, zs, o2, ts, hP, hiv2, hv2, hmn, _, hneed⟩ := part_iv HF.out HI.out HV.out j hpl'
              have hsz : parts[j].1.size ≤ 1048576 := by have := (HF.out.small j hpl').1; omega
              have HPT : Hid (∀ u : World, Rq u ho so xs rs → Calls Try.prog 8 #[.agg #[.int .i64 (nx : Int), .slice ho xs.length hc, .string o, .slice so rs.length sc], .int .i64 (j : Int), .agg #[.string parts[j].1, .bool parts[j].2]] u fun e w' => (∃ a1 c1 a2 c2, e = .returned (.agg #[.int .i64 (m : Int), .slice a1 zs.length c1, .string o2, .slice a2 ts.length c2]) ∧ w'.ownsRow u.heap.size 55 3 (.slice a1 zs.length c1) zs.length (mk.hs zs) ∧ Orw u.heap.size (.slice a2 ts.length c2) ts.length (ss ts) w') ∧ Below u.heap.size u w') := fun u hu => part_call HS.out HV.out (j : Int) parts[j].1 parts[j].2 hsz hP u hu
              rcases HP.out.ex with h | ⟨gp, rfl, hgp, hgc⟩
              · omega
              have hb1 := (hs.low.cell (p := ⟨gp, j * 2, none⟩) hgp).trans ((hgc (j * 2) (by rw [ps_length]; omega)).trans (ps_at parts j hpl').1)
              have hb2 := (hs.low.cell (p := ⟨gp, j * 2 + 1, none⟩) hgp).trans ((hgc (j * 2 + 1) (by rw [ps_length]; omega)).trans (ps_at parts j hpl').2)
              have hgp2 : gp < wq.heap.size := Nat.lt_of_lt_of_le hgp hs.low.size
              have HI2 : Hid (Iv parts got m zs o2 ts) := hiv2
              have HV2 : Hid (tkOk (m : Int) zs o2 ts = true) := hv2
              have HND : Hid (j ≤ nx → Need j m zs ts) := hneed
              clear hP hiv2 hv2 hneed hgc hv hiv hje hjn
              generalize parts[j].1 = sp at *
              generalize parts[j].2 = lp at *
              go_wp2
              go_region_with (go_at_call 8; refine (HPT.out _ HS.out.drew.rq).mono ?_; rintro e w6 ⟨⟨a1, d1, a2, d2, rfl, hh1, hh2⟩, hb6⟩; (obtain ⟨p0', p1', p2', p3', e0', e1', e2', e3', ly'⟩ := (HS.out.drew.keep hb6).cells))
              all_goals have hL2 := HS.out.drew.store hb6 m zs o2 ts a1 d1 a2 d2 hh1 hh2
              all_goals clear hh1 hh2 hb6 p0' p1' p2' p3' e0' e1' e2' e3' ly' p0 p1 p2 p3 e0 e1 e2 e3 ly hb1 hb2 hgp2 HPT HS HV HI hs
              all_goals generalize ((((w6.setCell ⟨y, 0, none⟩ (.int .i64 (m : Int))).setCell ⟨y, 1, none⟩ (.slice a1 zs.length d1)).setCell ⟨y, 2, none⟩ (.string o2)).setCell ⟨y, 3, none⟩ (.slice a2 ts.length d2)) = W9 at *
              all_goals go_wp2
              · go_loopw [13, 21] (fun gv c wi => ∃ (d : Nat) (ga : Option Addr) (gc : Nat) (got : List ByteArray) (nx : Nat) (xs : List Hd) (o : ByteArray) (rs : List ByteArray) (ho : Option Addr) (hc : Nat) (so : Option Addr) (sc : Nat), d ≤ 4 ∧ c = .int .i64 d ∧ gv = .slice ga got.length gc ∧ Lt w3 wi y (.slice ga got.length gc) got nx xs o rs ho hc so sc ∧ tkOk (nx : Int) xs o rs = true ∧ Iv parts got nx xs o rs ∧ (d = 0 → Need j nx xs rs) ∧ (0 < d → j < nx)) (fun _ c _ => 4 - (intOf c).toNat)
                case atStart => exact ⟨0, ga, gc, got, m, zs, o2, ts, a1, d1, a2, d2, by omega, rfl, rfl, hL2, HV2.out, HI2.out, fun _ => HND.out hjn', fun h => by omega⟩
                case round =>
                  obtain ⟨d, ga, gc, got, nx, xs, o, rs, ho, hc, so, sc, hd, rfl, rfl, hs, hv, hiv, hrl⟩ := hrel
                  rename World => wi
                  have HS : Hid _ := hs
                  have HV : Hid (tkOk (nx : Int) xs o rs = true) := hv
                  have HI : Hid (Iv parts got nx xs o rs) := hiv
                  have HRL : Hid ((d = 0 → Need j nx xs rs) ∧ (0 < d → j < nx)) := hrl
                  obtain ⟨p0, p1, p2, p3, e0, e1, e2, e3, ly⟩ := hs.cells
                  clear hv hiv hrl
                  by_cases k1 : (d : Int) < 4
                  · by_cases k2 : (rs.length : Int) > 0
                    · have hr0 : ¬ rs.length = 0 := by omega
                      obtain ⟨m, zs, o2, ts, hT, hiv2, hv2, hmn, hneed, hfull⟩ := pull_iv HF.out HI.out HV.out (by omega)
                      have hps : pullS rs = rs[0] := by unfold pullS; rw [List.getElem?_eq_getElem (by omega)]; rfl
                      have HPL : Hid (∀ u : World, Rq u ho so xs rs → Calls Try.prog 7 #[.agg #[.int .i64 (nx : Int), .slice ho xs.length hc, .string o, .slice so rs.length sc]] u fun e w' => (∃ a1 c1 a2 c2, e = .returned (.tuple #[.agg #[.int .i64 (m : Int), .slice a1 zs.length c1, .string o2, .slice a2 ts.length c2], .string (pullS rs), .bool true]) ∧ w'.ownsRow u.heap.size 55 3 (.slice a1 zs.length c1) zs.length (mk.hs zs) ∧ Orw u.heap.size (.slice a2 ts.length c2) ts.length (ss ts) w') ∧ Below u.heap.size u w') := fun u hu => by have := pull_call HS.out HV.out (m := m) (zs := zs) (p := o2) (ts := ts) (by unfold pullT; rw [if_neg hr0]; exact hT) u hu; rw [show pullB rs = true by unfold pullB; simp [hr0]] at this; exact this
                      rw [← hps] at hiv2
                      have HI2 : Hid _ := hiv2
                      have HV2 : Hid (tkOk (m : Int) zs o2 ts = true) := hv2
                      have HND : Hid (∀ k, Need k nx xs rs → k < m) := hneed
                      have HFU : Hid (nx = parts.length → m = nx ∧ ts.length + 1 = rs.length) := hfull
                      have hgl : got.length ≤ 1000 := by
                        have h1 := (iv_begins HI.out).length_le
                        have h2 := HM.out
                        rw [← h2, List.length_append] at h1
                        have h3 := hML
                        omega
                      clear hr0 hps hT hiv2 hv2 hneed hfull
                      generalize pullS rs = s0 at *
                      go_wp2_with (first
                        | (go_at_call 7; refine (HPL.out _ HS.out.rq).mono ?_; rintro e w6 ⟨⟨a1, d1, a2, d2, rfl, hh1, hh2⟩, hb6⟩; (obtain ⟨p0', p1', p2', p3', e0', e1', e2', e3', ly'⟩ := (HS.out.keep hb6).cells); (have nly : ¬ w6.heap.size = y := (by omega)); (have nly2 : ¬ y = w6.heap.size := (by omega)); (have hL2 := (HS.out.store hb6 m zs o2 ts a1 d1 a2 d2 hh1 hh2).alloc (.cells #[.int .i64 (m : Int), .slice a1 zs.length d1, .string o2, .slice a2 ts.length d2] 30)))
                        | (at_builtin; refine wpList_append_lies _ rfl _ _ 25 rfl w3.heap.size 9 i0 (.string ⟨#[]⟩) 1 16 Try.underlying25 hi hz0 hz1 hz2 rfl (by decide) (.slice ga got.length gc) got.length (ss got) rfl (hL2.alloc (.cells #[.string s0] 9)).got ⟨w6.heap.size + 1, 0, none⟩ 1 1 [.string s0] rfl rfl (one_at8 (by simp) (.string s0) 9) (one6 s0) (by omega) (by unfold maxLen; omega) (by omega) (hL2.alloc (.cells #[.string s0] 9)).low.size (w6.heap.size + 1 + 1) (by simp) ?_; intro g7 c7 w7 hown hgrow hat hlt7))
                      have hL3 := (hL2.alloc (.cells #[.string s0] 9)).app hgrow hown (by
                        rcases hat with q | q
                        · exact .inl (by rw [q]; rfl)
                        · exact .inr (fun g e => by cases e; simp; omega))
                      have e1 : (got ++ [s0]).length = got.length + 1 := by simp
                      exact ⟨⟨d + 1, some ⟨g7, 0, none⟩, c7, got ++ [s0], m, zs, o2, ts, a1, d1, a2, d2, by omega, by go_num, by rw [e1], by rw [e1]; exact hL3, HV2.out, HI2.out, fun h => by omega, fun _ => need_step HRL.out HND.out hmn⟩, by simp [intOf]; omega⟩
                    · go_wp2
                      exact ⟨⟨j + 1, ga, gc, got, nx, xs, o, rs, ho, hc, so, sc, by omega, by go_num, rfl, HS.out, HV.out, HI.out, fun _ => need_exit HRL.out (by omega), fun h => by omega⟩, by simp [intOf]; omega⟩
                  · go_wp2
                    exact ⟨⟨j + 1, ga, gc, got, nx, xs, o, rs, ho, hc, so, sc, by omega, by go_num, rfl, HS.out, HV.out, HI.out, fun _ => need_exit HRL.out (by omega), fun h => by omega⟩, by simp [intOf]; omega⟩
              · go_loopw [13, 21] (fun gv c wi => ∃ (d : Nat) (ga : Option Addr) (gc : Nat) (got : List ByteArray) (nx : Nat) (xs : List Hd) (o : ByteArray) (rs : List ByteArray) (ho : Option Addr) (hc : Nat) (so : Option Addr) (sc : Nat), d ≤ 4 ∧ c = .int .i64 d ∧ gv = .slice ga got.length gc ∧ Lt w3 wi y (.slice ga got.length gc) got nx xs o rs ho hc so sc ∧ tkOk (nx : Int) xs o rs = true ∧ Iv parts got nx xs o rs ∧ (d = 0 → Need j nx xs rs) ∧ (0 < d → j < nx)) (fun _ c _ => 4 - (intOf c).toNat)
                case atStart => exact ⟨0, ga, gc, got, m, zs, o2, ts, a1, d1, a2, d2, by omega, rfl, rfl, hL2, HV2.out, HI2.out, fun _ => HND.out hjn', fun h => by omega⟩
                case round =>
                  obtain ⟨d, ga, gc, got, nx, xs, o, rs, ho, hc, so, sc, hd, rfl, rfl, hs, hv, hiv, hrl⟩ := hrel
                  rename World => wi
                  have HS : Hid _ := hs
                  have HV : Hid (tkOk (nx : Int) xs o rs = true) := hv
                  have HI : Hid (Iv parts got nx xs o rs) := hiv
                  have HRL : Hid ((d = 0 → Need j nx xs rs) ∧ (0 < d → j < nx)) := hrl
                  obtain ⟨p0, p1, p2, p3, e0, e1, e2, e3, ly⟩ := hs.cells
                  clear hv hiv hrl
                  by_cases k1 : (d : Int) < 4
                  · by_cases k2 : (rs.length : Int) > 0
                    · have hr0 : ¬ rs.length = 0 := by omega
                      obtain ⟨m, zs, o2, ts, hT, hiv2, hv2, hmn, hneed, hfull⟩ := pull_iv HF.out HI.out HV.out (by omega)
                      have hps : pullS rs = rs[0] := by unfold pullS; rw [List.getElem?_eq_getElem (by omega)]; rfl
                      have HPL : Hid (∀ u : World, Rq u ho so xs rs → Calls Try.prog 7 #[.agg #[.int .i64 (nx : Int), .slice ho xs.length hc, .string o, .slice so rs.length sc]] u fun e w' => (∃ a1 c1 a2 c2, e = .returned (.tuple #[.agg #[.int .i64 (m : Int), .slice a1 zs.length c1, .string o2, .slice a2 ts.length c2], .string (pullS rs), .bool true]) ∧ w'.ownsRow u.heap.size 55 3 (.slice a1 zs.length c1) zs.length (mk.hs zs) ∧ Orw u.heap.size (.slice a2 ts.length c2) ts.length (ss ts) w') ∧ Below u.heap.size u w') := fun u hu => by have := pull_call HS.out HV.out (m := m) (zs := zs) (p := o2) (ts := ts) (by unfold pullT; rw [if_neg hr0]; exact hT) u hu; rw [show pullB rs = true by unfold pullB; simp [hr0]] at this; exact this
                      rw [← hps] at hiv2
                      have HI2 : Hid _ := hiv2
                      have HV2 : Hid (tkOk (m : Int) zs o2 ts = true) := hv2
                      have HND : Hid (∀ k, Need k nx xs rs → k < m) := hneed
                      have HFU : Hid (nx = parts.length → m = nx ∧ ts.length + 1 = rs.length) := hfull
                      have hgl : got.length ≤ 1000 := by
                        have h1 := (iv_begins HI.out).length_le
                        have h2 := HM.out
                        rw [← h2, List.length_append] at h1
                        have h3 := hML
                        omega
                      clear hr0 hps hT hiv2 hv2 hneed hfull
                      generalize pullS rs = s0 at *
                      go_wp2_with (first
                        | (go_at_call 7; refine (HPL.out _ HS.out.rq).mono ?_; rintro e w6 ⟨⟨a1, d1, a2, d2, rfl, hh1, hh2⟩, hb6⟩; (obtain ⟨p0', p1', p2', p3', e0', e1', e2', e3', ly'⟩ := (HS.out.keep hb6).cells); (have nly : ¬ w6.heap.size = y := (by omega)); (have nly2 : ¬ y = w6.heap.size := (by omega)); (have hL2 := (HS.out.store hb6 m zs o2 ts a1 d1 a2 d2 hh1 hh2).alloc (.cells #[.int .i64 (m : Int), .slice a1 zs.length d1, .string o2, .slice a2 ts.length d2] 30)))
                        | (at_builtin; refine wpList_append_lies _ rfl _ _ 25 rfl w3.heap.size 9 i0 (.string ⟨#[]⟩) 1 16 Try.underlying25 hi hz0 hz1 hz2 rfl (by decide) (.slice ga got.length gc) got.length (ss got) rfl (hL2.alloc (.cells #[.string s0] 9)).got ⟨w6.heap.size + 1, 0, none⟩ 1 1 [.string s0] rfl rfl (one_at8 (by simp) (.string s0) 9) (one6 s0) (by omega) (by unfold maxLen; omega) (by omega) (hL2.alloc (.cells #[.string s0] 9)).low.size (w6.heap.size + 1 + 1) (by simp) ?_; intro g7 c7 w7 hown hgrow hat hlt7))
                      have hL3 := (hL2.alloc (.cells #[.string s0] 9)).app hgrow hown (by
                        rcases hat with q | q
                        · exact .inl (by rw [q]; rfl)
                        · exact .inr (fun g e => by cases e; simp; omega))
                      have e1 : (got ++ [s0]).length = got.length + 1 := by simp
                      exact ⟨⟨d + 1, some ⟨g7, 0, none⟩, c7, got ++ [s0], m, zs, o2, ts, a1, d1, a2, d2, by omega, by go_num, by rw [e1], by rw [e1]; exact hL3, HV2.out, HI2.out, fun h => by omega, fun _ => need_step HRL.out HND.out hmn⟩, by simp [intOf]; omega⟩
                    · go_wp2
                      exact ⟨⟨j + 1, ga, gc, got, nx, xs, o, rs, ho, hc, so, sc, by omega, by go_num, rfl, HS.out, HV.out, HI.out, fun _ => need_exit HRL.out (by omega), fun h => by omega⟩, by simp [intOf]; omega⟩
                  · go_wp2
                    exact ⟨⟨j + 1, ga, gc, got, nx, xs, o, rs, ho, hc, so, sc, by omega, by go_num, rfl, HS.out, HV.out, HI.out, fun _ => need_exit HRL.out (by omega), fun h => by omega⟩, by simp [intOf]; omega⟩
            · have hje' : j = parts.length := by omega
              have hjn' : j ≤ nx := hjn (by omega)
              clear hje hjn
              go_wp2
              go_loopw [13, 21] (fun gv c wi => ∃ (d : Nat) (ga : Option Addr) (gc : Nat) (got : List ByteArray) (nx : Nat) (xs : List Hd) (o : ByteArray) (rs : List ByteArray) (ho : Option Addr) (hc : Nat) (so : Option Addr) (sc : Nat), d ≤ 4 ∧ c = .int .i64 d ∧ gv = .slice ga got.length gc ∧ Lt w3 wi y (.slice ga got.length gc) got nx xs o rs ho hc so sc ∧ tkOk (nx : Int) xs o rs = true ∧ Iv parts got nx xs o rs ∧ nx = parts.length ∧ rs.length + d ≤ 4) (fun _ c _ => 4 - (intOf c).toNat)
              case atStart => exact ⟨0, ga, gc, got, nx, xs, o, rs, ho, hc, so, sc, by omega, rfl, rfl, hs, hv, hiv, by have := hiv.le; omega, by have := (tkOk_of hv).1; unfold TkHd at this; omega⟩
              case round =>
                obtain ⟨d, ga, gc, got, nx, xs, o, rs, ho, hc, so, sc, hd, rfl, rfl, hs, hv, hiv, hrl⟩ := hrel
                rename World => wi
                have HS : Hid _ := hs
                have HV : Hid (tkOk (nx : Int) xs o rs = true) := hv
                have HI : Hid (Iv parts got nx xs o rs) := hiv
                have HRL : Hid (nx = parts.length ∧ rs.length + d ≤ 4) := hrl
                obtain ⟨p0, p1, p2, p3, e0, e1, e2, e3, ly⟩ := hs.cells
                clear hv hiv hrl
                by_cases k1 : (d : Int) < 4
                · by_cases k2 : (rs.length : Int) > 0
                  · have hr0 : ¬ rs.length = 0 := by omega
                    obtain ⟨m, zs, o2, ts, hT, hiv2, hv2, hmn, hneed, hfull⟩ := pull_iv HF.out HI.out HV.out (by omega)
                    have hps : pullS rs = rs[0] := by unfold pullS; rw [List.getElem?_eq_getElem (by omega)]; rfl
                    have HPL : Hid (∀ u : World, Rq u ho so xs rs → Calls Try.prog 7 #[.agg #[.int .i64 (nx : Int), .slice ho xs.length hc, .string o, .slice so rs.length sc]] u fun e w' => (∃ a1 c1 a2 c2, e = .returned (.tuple #[.agg #[.int .i64 (m : Int), .slice a1 zs.length c1, .string o2, .slice a2 ts.length c2], .string (pullS rs), .bool true]) ∧ w'.ownsRow u.heap.size 55 3 (.slice a1 zs.length c1) zs.length (mk.hs zs) ∧ Orw u.heap.size (.slice a2 ts.length c2) ts.length (ss ts) w') ∧ Below u.heap.size u w') := fun u hu => by have := pull_call HS.out HV.out (m := m) (zs := zs) (p := o2) (ts := ts) (by unfold pullT; rw [if_neg hr0]; exact hT) u hu; rw [show pullB rs = true by unfold pullB; simp [hr0]] at this; exact this
                    rw [← hps] at hiv2
                    have HI2 : Hid _ := hiv2
                    have HV2 : Hid (tkOk (m : Int) zs o2 ts = true) := hv2
                    have HND : Hid (∀ k, Need k nx xs rs → k < m) := hneed
                    have HFU : Hid (nx = parts.length → m = nx ∧ ts.length + 1 = rs.length) := hfull
                    have hgl : got.length ≤ 1000 := by
                      have h1 := (iv_begins HI.out).length_le
                      have h2 := HM.out
                      rw [← h2, List.length_append] at h1
                      have h3 := hML
                      omega
                    clear hr0 hps hT hiv2 hv2 hneed hfull
                    generalize pullS rs = s0 at *
                    go_wp2_with (first
                      | (go_at_call 7; refine (HPL.out _ HS.out.rq).mono ?_; rintro e w6 ⟨⟨a1, d1, a2, d2, rfl, hh1, hh2⟩, hb6⟩; (obtain ⟨p0', p1', p2', p3', e0', e1', e2', e3', ly'⟩ := (HS.out.keep hb6).cells); (have nly : ¬ w6.heap.size = y := (by omega)); (have nly2 : ¬ y = w6.heap.size := (by omega)); (have hL2 := (HS.out.store hb6 m zs o2 ts a1 d1 a2 d2 hh1 hh2).alloc (.cells #[.int .i64 (m : Int), .slice a1 zs.length d1, .string o2, .slice a2 ts.length d2] 30)))
                      | (at_builtin; refine wpList_append_lies _ rfl _ _ 25 rfl w3.heap.size 9 i0 (.string ⟨#[]⟩) 1 16 Try.underlying25 hi hz0 hz1 hz2 rfl (by decide) (.slice ga got.length gc) got.length (ss got) rfl (hL2.alloc (.cells #[.string s0] 9)).got ⟨w6.heap.size + 1, 0, none⟩ 1 1 [.string s0] rfl rfl (one_at8 (by simp) (.string s0) 9) (one6 s0) (by omega) (by unfold maxLen; omega) (by omega) (hL2.alloc (.cells #[.string s0] 9)).low.size (w6.heap.size + 1 + 1) (by simp) ?_; intro g7 c7 w7 hown hgrow hat hlt7))
                    have hL3 := (hL2.alloc (.cells #[.string s0] 9)).app hgrow hown (by
                      rcases hat with q | q
                      · exact .inl (by rw [q]; rfl)
                      · exact .inr (fun g e => by cases e; simp; omega))
                    have e1 : (got ++ [s0]).length = got.length + 1 := by simp
                    exact ⟨⟨d + 1, some ⟨g7, 0, none⟩, c7, got ++ [s0], m, zs, o2, ts, a1, d1, a2, d2, by omega, by go_num, by rw [e1], by rw [e1]; exact hL3, HV2.out, HI2.out, by have := HFU.out HRL.out.1; have := HRL.out.1; omega, by have := HFU.out HRL.out.1; have := HRL.out.2; omega⟩, by simp [intOf]; omega⟩
                  · go_wp2
                    exact ⟨⟨j + 1, ga, gc, got, nx, xs, o, rs, ho, hc, so, sc, by omega, by go_num, rfl, HS.out, HV.out, HI.out, fun h => by omega, fun _ => ⟨HRL.out.1, by have := HRL.out.2; omega⟩⟩, by simp [intOf]; omega⟩
                · go_wp2
                  exact ⟨⟨j + 1, ga, gc, got, nx, xs, o, rs, ho, hc, so, sc, by omega, by go_num, rfl, HS.out, HV.out, HI.out, fun h => by omega, fun _ => ⟨HRL.out.1, by have := HRL.out.2; omega⟩⟩, by simp [intOf]; omega⟩
          · obtain ⟨hn, hr0⟩ := hje (by omega)
            obtain rfl : rs = [] := List.eq_nil_of_length_eq_zero hr0
            subst hn
            have hgM : got = M := by rw [HM.out]; exact iv_end hiv
            subst hgM
            obtain ⟨p0, p1, p2, p3, e0, e1, e2, e3, ly⟩ := hs.cells
            obtain ⟨gq, hgq⟩ := draw_rr hs
            have HTX : Hid (Calls Try.prog 12 #[.slice ga got.length gc, .slice wo got.length wc] wq fun e w' => e = .returned (.bool true) ∧ Below wq.heap.size wq w') := wTexts_same ga wo gc wc got wq (by omega) gq (HW.out.rr.keep hs.low)
            have HBB : Hid (Below w.heap.size w wq) := kb HB.out hs.low (Nat.le_refl _)
            clear hje hjn hiv hv hr0
            go_wp2_with (go_at_call 12; refine HTX.out.mono ?_; rintro e w8 ⟨rfl, hb8⟩; (obtain ⟨p0', p1', p2', p3', _, _, _, _, ly'⟩ := (hs.keep hb8).cells))
            go_ret
            exact ⟨rfl, kb HBB.out hb8 (Nat.le_refl _)⟩
end Go.Proofs.Ytldlpohkpmapcaa.mk.f

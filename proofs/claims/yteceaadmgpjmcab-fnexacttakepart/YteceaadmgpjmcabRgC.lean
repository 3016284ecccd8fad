/-
  THE INTAKE of a valid Take.
-/
import Derived.Test.YteceaadmgpjmcabRgB
import Derived.Test.YteceaadmgpjmcabRgP
import Derived.Test.YteceaadmgpjmcabBase
import Derived.Deep.DeepMust
import Derived.Deep.AppendLies
import Derived.Deep.RegionLaw
namespace Go.Proofs.Yteceaadmgpjmcab.mk
open Go.RowKit
set_option linter.unusedVariables false

/-- the twenty cells of an intake -/
structure HoldT (nx : Int) (xs : List Hd) (o : ByteArray) (rv : Value) (cs : List Value) : Prop where
  len : cs.length = 20
  next : cs[0]? = some (.int .i64 nx)
  bits : cs[17]? = some (.int .u8 ((bitsOf xs : Nat) : Int))
  ty : Ty cs
  parts : ∀ i (h : i < xs.length), cs[1 + xs[i].seq.toNat % 8 * 2]? = some (.string xs[i].text) ∧ cs[1 + xs[i].seq.toNat % 8 * 2 + 1]? = some (.bool xs[i].last)
  opn : cs[18]? = some (.string o)
  ready : cs[19]? = some rv
theorem HoldT.putq {nx : Int} {xs : List Hd} {o : ByteArray} {rv : Value} {cs : List Value} {m : Nat} {x : Hd} (h : HoldT nx xs o rv cs) (hw : Win m (xs ++ [x])) :
    HoldT nx (xs ++ [x]) o rv (putq cs (bitsOf xs) x.seq.toNat x.text x.last) := by
  refine ⟨by rw [putq_length, h.len], ?_, by rw [putq_bits h.len, bitsOf_snoc], h.ty.putq h.len _ _ _ _, fun i hi => ?_, ?_, ?_⟩
  · rw [putq_other _ _ _ _ _ (by omega) (by omega) (by omega), h.next]
  · rcases Nat.lt_or_ge i xs.length with hl | hl
    · have h1 := hw.1 i (by simp; omega)
      have h2 := hw.1 xs.length (by simp)
      have h3 := hw.2 i xs.length (by simp; omega) (by simp) hl
      rw [List.getElem_append_left hl] at h1 h3 ⊢
      simp only [List.getElem_concat_length] at h2 h3
      have hne : xs[i].seq.toNat % 8 ≠ x.seq.toNat % 8 := by omega
      rw [putq_other _ _ _ _ _ (by omega) (by omega) (by omega), putq_other _ _ _ _ _ (by omega) (by omega) (by omega)]
      exact h.parts i hl
    · obtain rfl : i = xs.length := by simp at hi; omega
      simp only [List.getElem_concat_length]
      exact putq_at h.len _ _ _ _
  · rw [putq_other _ _ _ _ _ (by omega) (by omega) (by omega), h.opn]
  · rw [putq_other _ _ _ _ _ (by omega) (by omega) (by omega), h.ready]
theorem HoldT.setReady {nx : Int} {xs : List Hd} {o : ByteArray} {rv : Value} {cs : List Value} (h : HoldT nx xs o rv cs) (v : Value) : HoldT nx xs o v (cs.set 19 v) := by
  have hl := h.len
  refine ⟨by rw [List.length_set, hl], by rw [List.getElem?_set_ne (by omega), h.next], by rw [List.getElem?_set_ne (by omega), h.bits], fun j hj => ?_, fun i hi => ?_, by rw [List.getElem?_set_ne (by omega), h.opn], List.getElem?_set_self (by omega)⟩
  · obtain ⟨s, l, h1, h2⟩ := h.ty j hj
    exact ⟨s, l, by rw [List.getElem?_set_ne (by omega), h1], by rw [List.getElem?_set_ne (by omega), h2]⟩
  · rw [List.getElem?_set_ne (by omega), List.getElem?_set_ne (by omega)]
    exact h.parts i hi
theorem far5 {W w1 : World} {row : Option Nat} (hg : W.grownBy w1 row) (B j : Nat) {v : Value} (h : W.cell? ⟨B, j, none⟩ = some v) (hne : some B ≠ row) : w1.cell? ⟨B, j, none⟩ = some v :=
  (hg.cell_far ⟨B, j, none⟩ (cell_lt h) hne).trans h
theorem farF5 {W w1 : World} {row : Option Nat} (hg : W.grownBy w1 row) (B j : Nat) (hB : B < W.heap.size) (h : W.frozen? ⟨B, j, none⟩ = false) (hne : some B ≠ row) : w1.frozen? ⟨B, j, none⟩ = false :=
  (hg.frozen_far ⟨B, j, none⟩ hB hne).trans h
theorem rows_ne5 {w : World} {b b' : Nat} {e e' : TypeId} {sz sz' n n' : Nat} {v v' : Value} {xs xs' : List Value} (h : w.ownsRow b e sz v n xs) (h' : w.ownsRow b' e' sz' v' n' xs') (hne : e ≠ e') : v.ownBlock = none ∨ v.ownBlock ≠ v'.ownBlock := by
  rcases h.2 with ⟨rfl, _⟩ | ⟨g, cap, cur, rfl, _, hg, _⟩
  · exact .inl rfl
  right
  rcases h'.2 with ⟨rfl, _⟩ | ⟨g', cap', cur', rfl, _, hg', _⟩
  · simp [Value.ownBlock]
  · intro e2
    simp only [Value.ownBlock, Option.some.injEq] at e2
    subst e2
    rw [hg] at hg'
    simp at hg'
    exact hne hg'.2
theorem Tn.ne {base R b : Nat} {cs : List Value} {w : World} {sz n : Nat} {v : Value} {xs : List Value} (h : Tn base R cs w) (h' : w.ownsRow b 9 sz v n xs) : some R ≠ v.ownBlock := by
  rcases rows_ne5 h h' (by decide) with q | q
  · simp [Value.ownBlock] at q
  · simpa [Value.ownBlock] using q
theorem one5 (W : World) (v : Value) (t : TypeId) : ∀ j u, ([v] : List Value)[j]? = some u → (W.alloc (.cells #[v] t)).cell? ((⟨W.heap.size, 0, none⟩ : Addr).add j) = some u := by
  intro j u hj
  match j, hj with
  | 0, hj => simp at hj; subst hj; simp [Addr.add]
theorem one6 (s : ByteArray) : ∀ u ∈ ([.string s] : List Value), u.oneCell' = true := by
  intro u hu; simp at hu; subst hu; rfl
theorem zeroT (W : World) (base : Nat) (hb : base ≤ W.heap.size) (nx : Int) (o : ByteArray) (cs : Array Value) (h : cs = #[.int .i64 nx, .string ⟨#[]⟩, .bool false, .string ⟨#[]⟩, .bool false, .string ⟨#[]⟩, .bool false, .string ⟨#[]⟩, .bool false, .string ⟨#[]⟩, .bool false, .string ⟨#[]⟩, .bool false, .string ⟨#[]⟩, .bool false, .string ⟨#[]⟩, .bool false, .int .u8 0, .string o, .slice none 0 0]) :
    Tn base W.heap.size cs.toList (W.alloc (.cells cs 68)) ∧ HoldT nx [] o (.slice none 0 0) cs.toList := by
  subst h
  refine ⟨World.ownsRow_lit W _ 1 hb (by unfold maxLen; omega) rfl, ⟨rfl, rfl, rfl, fun j hj => ?_, fun i h => absurd h (by simp), rfl, rfl⟩⟩
  rcases eight hj with rfl | rfl | rfl | rfl | rfl | rfl | rfl | rfl <;> exact ⟨_, _, rfl, rfl⟩
set_option maxHeartbeats 4000000 in
theorem intakeOf_any (nx : Nat) (ao so : Option Addr) (ca cs : Nat) (xs : List Hd) (o : ByteArray) (rs : List ByteArray) (w : World) (hv : TkOk (nx : Int) xs o rs) (hr : Rt w ao so xs rs) :
    Calls Try.prog 22 #[.agg #[.int .i64 (nx : Int), .slice ao xs.length ca, .string o, .slice so rs.length cs]] w fun e w' => (∃ R ds v, e = .returned (.pointer (some ⟨R, 0, none⟩)) ∧ Tn w.heap.size R ds w' ∧ HoldT (nx : Int) xs o v ds ∧ w'.ownsRow w.heap.size 9 1 v rs.length (ss rs)) ∧ Below w.heap.size w w' := by
  have hn8 := hv.len
  have hhd := hv.1
  unfold TkHd at hhd
  have hwin : Hid (Win nx xs) := HsOk.win hv.2.2
  have HV : Hid (TkOk (nx : Int) xs o rs) := hv
  have HR : Hid (Rt w ao so xs rs) := hr
  have HCL : Hid (∀ u : World, Calls Try.prog 38 #[.string o] u fun e w' => e = .returned (.string o) ∧ Below u.heap.size u w') := fun u => clone_any o u (by omega)
  clear hv hr
  obtain ⟨i0, hi, hz0, hz1, hz2⟩ := info_parts info_str
  go_enter Try.func22, Try.ntmps22
  go_wp2
  obtain ⟨W1, hW1⟩ : ∃ W1, (w.alloc (.cells #[.int .i64 (nx : Int), .slice ao xs.length ca, .string o, .slice so rs.length cs] 32)) = W1 := ⟨_, rfl⟩
  have AW : Below w.heap.size w W1 := by rw [← hW1]; exact (Below.refl _ _).alloc (Nat.le_refl _) _
  have T0 : W1.cell? ⟨w.heap.size, 0, none⟩ = some (.int .i64 (nx : Int)) := by rw [← hW1]; simp [go_sem]
  have T1 : W1.cell? ⟨w.heap.size, 1, none⟩ = some (.slice ao xs.length ca) := by rw [← hW1]; simp [go_sem]
  have T2 : W1.cell? ⟨w.heap.size, 2, none⟩ = some (.string o) := by rw [← hW1]; simp [go_sem]
  have T3 : W1.cell? ⟨w.heap.size, 3, none⟩ = some (.slice so rs.length cs) := by rw [← hW1]; simp [go_sem]
  rw [hW1]
  clear hW1
  refine wp_region_held_drew (S := (fun w' => Below W1.heap.size W1 w')) (by kernel_rfl) ?_ (fun hHeld => ?_)
  · exact (Below.refl _ _).drew
  refine tkF 0 (some 8) ?_
  refine tkE 1 (some 9) ?_ ?_ ?_
  rotate_left
  · (intro w hSw; (have hT0 := cell_keep T0 hSw); (have hT2 := cell_keep T2 hSw); go_simp <;> with_reducible rfl)
  refine tkF 2 (some 10) ?_
  refine tkE 3 (some 11) ?_ ?_ ?_
  rotate_left
  · (intro w hSw; (have hT0 := cell_keep T0 hSw); (have hT2 := cell_keep T2 hSw); go_simp <;> with_reducible rfl)
  refine wpAnyH_ready (rs := [4]) (by kernel_rfl) (by simp) ?_
  refine AllReadyH.cons rfl (fun K hK => ?_) AllReadyH.nil
  go_simp
  refine (HCL.out _).mono ?_
  rintro e w2 ⟨rfl, hb2⟩
  go_wp2_with fail
  refine hK.out _ _ ?_ (fun hHeld => ?_)
  · exact kb (by assumption) hb2 (Nat.le_refl _)
  clear hK K
  try simp only [Act.put, List.setIfInBounds_toArray, List.set_cons_zero, List.set_cons_succ]
  refine tkF 5 (some 13) ?_
  refine wpAnyH_ready (rs := [6]) (by kernel_rfl) (by simp) ?_
  refine AllReadyH.cons rfl (fun K hK => ?_) AllReadyH.nil
  go_simp
  refine hK.out _ _ ?_ (fun hHeld => ?_)
  · exact Below.alloc (by assumption) (by assumption : Below W1.heap.size W1 _).size _
  clear hK K
  try simp only [Act.put, List.setIfInBounds_toArray, List.set_cons_zero, List.set_cons_succ]
  refine tkF 7 (some 3) ?_
  refine wpAnyH_done (by kernel_rfl) ?_ _
  obtain ⟨Z1, Z2⟩ := zeroT w2 W1.heap.size hb2.size (nx : Int) o _ rfl
  have BZ := Below.alloc (kb AW.drew hb2 (Nat.le_refl _)) (kb AW.drew hb2 (Nat.le_refl _)).size (.cells #[.int .i64 (nx : Int), .string ⟨#[]⟩, .bool false, .string ⟨#[]⟩, .bool false, .string ⟨#[]⟩, .bool false, .string ⟨#[]⟩, .bool false, .string ⟨#[]⟩, .bool false, .string ⟨#[]⟩, .bool false, .string ⟨#[]⟩, .bool false, .string ⟨#[]⟩, .bool false, .int .u8 0, .string o, .slice none 0 0] 68)
  have LW : w.heap.size < W1.heap.size := cell_lt T0
  obtain ⟨W3, hW3⟩ : ∃ W3, w2.alloc (.cells #[.int .i64 (nx : Int), .string ⟨#[]⟩, .bool false, .string ⟨#[]⟩, .bool false, .string ⟨#[]⟩, .bool false, .string ⟨#[]⟩, .bool false, .string ⟨#[]⟩, .bool false, .string ⟨#[]⟩, .bool false, .string ⟨#[]⟩, .bool false, .string ⟨#[]⟩, .bool false, .int .u8 0, .string o, .slice none 0 0] 68) = W3 := ⟨_, rfl⟩
  rw [hW3] at Z1 BZ hHeld ⊢
  have d1 := cell_keep T1 hHeld
  have d3 := cell_keep T3 hHeld
  obtain ⟨R, hR⟩ : ∃ R, R = w2.heap.size := ⟨_, rfl⟩
  rw [← hR] at Z1 ⊢
  have hRw : w.heap.size < R := by have := hb2.size; simp at this; omega
  have Z3 : Hid (Tn W1.heap.size R _ W3) := Z1
  have Z4 : Hid (HoldT (nx : Int) [] o (.slice none 0 0) _) := Z2
  have BZ' : Hid (Below w.heap.size w W3) := BZ
  clear hW3 hR hb2 T0 T1 T2 T3 AW hHeld Z1 Z2 BZ
  go_wp2
  go_loopw [18] (fun i wr => ∃ (k : Nat) (es : List Value), k ≤ xs.length ∧ i = .int .i64 k ∧ Tn W1.heap.size R es wr ∧ HoldT (nx : Int) (xs.take k) o (.slice none 0 0) es ∧ wr.cell? ⟨w.heap.size, 3, none⟩ = some (.slice so rs.length cs) ∧ Below w.heap.size w wr) (fun i _ => xs.length - (intOf i).toNat)
  case atStart => exact ⟨0, _, Nat.zero_le _, rfl, Z3.out, Z4.out, d3, BZ'.out⟩
  case round =>
    clear d1 d3 Z3 Z4 BZ'
    obtain ⟨k, es, hk, rfl, hring, hH, d3, hbel⟩ := hrel
    by_cases hlt : k < xs.length
    · rcases HR.out.held.ex with h | ⟨g, rfl, hg, hgc⟩
      · omega
      obtain ⟨a0, a1, a2⟩ := Rs.held (n := 0) hg hgc hbel k hlt
      clear hgc
      have htk : xs.take (k + 1) = xs.take k ++ [xs[k]] := by rw [List.take_append_getElem]
      have hwk : Win nx (xs.take k ++ [xs[k]]) := by
        rw [← htk]
        refine ⟨fun i hi => ?_, fun i j hi hj hij => ?_⟩
        · rw [List.getElem_take]; exact hwin.out.1 i (by simp at hi; omega)
        · rw [List.getElem_take, List.getElem_take]; exact hwin.out.2 i j (by simp at hi; omega) (by simp at hj; omega) hij
      have hP := hH.putq hwk
      rw [← htk] at hP
      have hfr := hwk.fresh
      have hok := HV.out.2.2 k hlt
      have hw1 := hwin.out.1 k hlt
      have h20 := hok.2.2.2.1
      have h106 := hok.2.2.1
      obtain ⟨q, hq⟩ : ∃ q : Nat, xs[k].seq = (q : Int) := ⟨xs[k].seq.toNat, by omega⟩
      have hqq : xs[k].seq.toNat = q := by omega
      rw [hqq] at hP hfr hw1
      rw [hq] at a0 h106
      obtain ⟨B, hBe⟩ : ∃ B, B = bitsOf (xs.take k) := ⟨_, rfl⟩
      have hbits := hH.bits
      rw [← hBe] at hP hfr hbits
      have hB : B < 256 := by rw [hBe]; exact bitsOf_lt _
      have HHO : Hid (∀ u : World, Tn W1.heap.size R es u → Calls Try.prog 23 #[.pointer (some ⟨R, 0, none⟩), .int .i64 (q : Int), .agg #[.string xs[k].text, .bool xs[k].last]] u fun x w' => (∃ v, x = .returned v) ∧ Tn W1.heap.size R (putq es B q xs[k].text xs[k].last) w' ∧ u.grownBy w' (some R)) := fun u h => hold_yes _ R B q (nx : Int) es _ _ u h hB hH.next hbits hH.ty (by omega) (by omega) (by omega) (by omega) (by omega) h20 hfr
      have HPP : Hid (HoldT (nx : Int) (xs.take (k + 1)) o (.slice none 0 0) (putq es B q xs[k].text xs[k].last)) := hP
      clear hP hfr hbits hBe hqq hq hok htk hwk hH h20 hB
      generalize putq es B q xs[k].text xs[k].last = fs at *
      generalize xs[k].text = s at *
      generalize xs[k].last = l at *
      have HRI : Hid (Tn W1.heap.size R es wr) := hring
      have hrl := hring.lt
      clear hring
      go_wp2_with (go_at_call 23; refine (HHO.out _ (HRI.out.keep ((Below.refl _ _).alloc (Nat.le_refl _) _))).mono ?_; rintro e w4 ⟨⟨v4, rfl⟩, hr4, hg4⟩)
      have B4 : Below w.heap.size w w4 := (hbel.alloc hbel.size _).grown hg4 (by have := hbel.size; simp; omega) (fun j hj => by cases hj; omega)
      exact ⟨⟨k + 1, fs, by omega, by go_num, hr4, HPP.out, far5 hg4 _ _ (cell_keep d3 ((Below.refl _ _).alloc (Nat.le_refl _) _)) (by simp; omega), B4⟩, by simp [intOf]; omega⟩
    · obtain rfl : k = xs.length := by omega
      rw [List.take_length] at hH
      have HRI : Hid (Tn W1.heap.size R es wr) := hring
      have HHH : Hid (HoldT (nx : Int) xs o (.slice none 0 0) es) := hH
      have HBL : Hid (Below w.heap.size w wr) := hbel
      clear hring hH hbel
      go_wp2
      clear d3
      go_loopw [32] (fun i wq => ∃ (k : Nat) (fs : List Value) (v : Value), k ≤ rs.length ∧ i = .int .i64 k ∧ Tn W1.heap.size R fs wq ∧ HoldT (nx : Int) xs o v fs ∧ wq.ownsRow W1.heap.size 9 1 v k (ss (rs.take k)) ∧ Below w.heap.size w wq) (fun i _ => rs.length - (intOf i).toNat)
      case atStart => exact ⟨0, es, _, Nat.zero_le _, rfl, HRI.out, HHH.out, World.ownsRow_nil _ _ _ _, HBL.out⟩
      case round =>
        clear HRI HHH HBL
        obtain ⟨k, fs, v, hk, rfl, hring, hH, hrow, hbel⟩ := hrel
        by_cases hlt : k < rs.length
        · rcases HR.out.ready.ex with h | ⟨g, rfl, hg, hgc⟩
          · omega
          have a0 : wr.cell? ⟨g, k, none⟩ = some (.string rs[k]) := (hbel.cell (p := ⟨g, k, none⟩) hg).trans ((hgc _ (by rw [ss_length]; exact hlt)).trans (ss_at rs k hlt))
          clear hgc
          have hsz := HV.out.2.1 k hlt
          have htk : Hid (ss (rs.take (k + 1)) = ss (rs.take k) ++ [.string rs[k]]) := (by rw [← List.take_append_getElem hlt, ss_append]; rfl : ss (rs.take (k + 1)) = ss (rs.take k) ++ [.string rs[k]])
          have HCS : Hid (∀ u : World, Calls Try.prog 38 #[.string rs[k]] u fun e w' => e = .returned (.string rs[k]) ∧ Below u.heap.size u w') := fun u => clone_any _ u (by omega)
          generalize rs[k] = s at *
          have c19 := (hring.cell 19 (by omega)).trans hH.ready
          have f19 := hring.frozen 19
          have hrl := hring.lt
          have HRI : Hid (Tn W1.heap.size R fs wr) := hring
          have HHH : Hid (HoldT (nx : Int) xs o v fs) := hH
          have HRO : Hid (wr.ownsRow W1.heap.size 9 1 v k (ss (rs.take k))) := hrow
          have HBL : Hid (Below w.heap.size w wr) := hbel
          clear hring hH hrow hbel
          generalize ss (rs.take k) = ts at *
          go_wp2
          go_region_law (first
            | (go_simp; go_at_call 38; refine (HCS.out _).mono ?_; rintro e w4 ⟨rfl, hb4⟩; (have BD : Below wr.heap.size wr w4 := (Below.refl _ _).drew.trans hb4); (have y19 := cell_keep c19 BD); (have AL : Below w4.heap.size w4 (w4.alloc (.cells #[.string s] 9)) := (Below.refl _ _).alloc (Nat.le_refl _) _); (have x19 := cell_keep y19 AL); go_wp2_with fail)
            | (refine step_append_lies _ rfl _ _ 23 rfl W1.heap.size 9 i0 (.string ⟨#[]⟩) 1 16 Try.underlying23 hi hz0 hz1 hz2 rfl (by decide) v k ts rfl (owns_keep (owns_keep HRO.out BD) AL) ⟨w4.heap.size, 0, none⟩ 1 1 [.string s] rfl rfl (one5 w4 (.string s) 9) (one6 s) (by omega) (by unfold maxLen; omega) (by omega) (by have := BD.size; simp; omega) (w4.heap.size + 1) (by simp) ?_; intro g5 c5 w5 hown5 hgrow hat hlt5; (have RA := (HRI.out.keep BD).keep AL); (have hne := RA.ne (owns_keep (owns_keep HRO.out BD) AL)); (have y5 := far5 hgrow R 19 x19 hne); (have z5 := farF5 hgrow R 19 RA.lt.2 (RA.frozen 19) hne))
            | fail)
          all_goals
            go_wp2
            have R5 := World.ownsRow.kept RA hgrow (.inr hne)
            have hne5 := Tn.ne R5 hown5
            have B5 : Below w.heap.size w w5 := ((kb HBL.out BD (Nat.le_refl _)).alloc (kb HBL.out BD (Nat.le_refl _)).size _).grown hgrow (by have := (kb HBL.out BD (Nat.le_refl _)).size; simp; omega) (fun j hj => by have := (HRO.out.lt j hj).1; omega)
            refine ⟨⟨k + 1, _, _, by omega, by go_num, Tn.put R5 19 _, HHH.out.setReady _, by rw [htk.out]; exact ownsRow_setCell_other hown5 (a := ⟨R, 19, none⟩) (Ne.symm hne5) _, B5.setCell (p := ⟨R, 19, none⟩) (by show w.heap.size ≤ R; omega) _⟩, by simp [intOf]; omega⟩
        · obtain rfl : k = rs.length := by omega
          rw [List.take_length] at hrow
          go_wp2
          go_ret
          exact ⟨⟨R, fs, v, rfl, owns_mono3 hring (by omega), hH, owns_mono3 hrow (by omega)⟩, hbel⟩
end Go.Proofs.Yteceaadmgpjmcab.mk

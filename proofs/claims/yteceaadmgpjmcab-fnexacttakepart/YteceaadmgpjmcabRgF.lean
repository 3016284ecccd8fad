/-
  THE TAKE of an intake: (*intake).take.
-/
import Derived.Test.YteceaadmgpjmcabRgE0
import Derived.Deep.DeepMust
namespace Go.Proofs.Yteceaadmgpjmcab.mk
open Go.RowKit
set_option linter.unusedVariables false

theorem owns_pos5 {w : World} {base n size : Nat} {e : TypeId} {v : Value} {cs : List Value} (h : w.ownsRow base e size v n cs) (hn : 0 < n) : ∃ g c, v = .slice (some ⟨g, 0, none⟩) n c ∧ base ≤ g := by
  rcases h.2 with ⟨_, h0⟩ | ⟨g, cap, cur, h1, h2, h3⟩
  · omega
  · exact ⟨g, cap, h1, h2⟩
theorem held_news (W : World) (n : Int) (s : ByteArray) (l : Bool) : ∀ j u, ([.int .i64 n, .string s, .bool l] : List Value)[j]? = some u → (W.alloc (.cells #[.int .i64 n, .string s, .bool l] 46)).cell? ((⟨W.heap.size, 0, none⟩ : Addr).add j) = some u := by
  intro j u hj
  match j, hj with
  | 0, hj => simp at hj; subst hj; simp [Addr.add]
  | 1, hj => simp at hj; subst hj; simp [Addr.add]
  | 2, hj => simp at hj; subst hj; simp [Addr.add]
theorem held_one (n : Int) (s : ByteArray) (l : Bool) : ∀ u ∈ ([.int .i64 n, .string s, .bool l] : List Value), u.oneCell' = true := by
  intro u hu; simp at hu; rcases hu with rfl | rfl | rfl <;> rfl
theorem hp_put {W : World} {B : Nat} {t : TypeId} {cs : Array Value} (h : W.heap[B]? = some (.cells cs t (0, 0))) (j : Nat) (v : Value) : (W.setCell ⟨B, j, none⟩ v).heap[B]? = some (.cells (cs.setIfInBounds j v) t (0, 0)) := by
  obtain ⟨hlt, hk⟩ := Array.getElem?_eq_some_iff.1 h
  show (W.heap.modify B _)[B]? = _
  rw [Array.getElem?_eq_getElem (by rw [Array.size_modify]; exact hlt), Array.getElem_modify_self, hk]
  rfl
theorem hp_keep {w w' : World} {B : Nat} {t : TypeId} {cs : Array Value} (h : w.heap[B]? = some (.cells cs t (0, 0))) (hb : Below w.heap.size w w') : w'.heap[B]? = some (.cells cs t (0, 0)) := (hb.block B (Array.getElem?_eq_some_iff.1 h).1).trans h
theorem hp_kept {w w' : World} {B : Nat} {t : TypeId} {cs : Array Value} {row : Option Nat} (h : w.heap[B]? = some (.cells cs t (0, 0))) (hg : w.grownBy w' row) (hne : some B ≠ row) : w'.heap[B]? = some (.cells cs t (0, 0)) := (hg.block B (Array.getElem?_eq_some_iff.1 h).1 hne).trans h
/-- the first j are below nx + k, the others not -/
def Cutk (nx : Nat) (xs : List Hd) (k j : Nat) : Prop := j ≤ xs.length ∧ (∀ i (h : i < xs.length), i < j → xs[i].seq < ((nx + k : Nat) : Int)) ∧ ∀ i (h : i < xs.length), j ≤ i → ((nx + k : Nat) : Int) ≤ xs[i].seq
theorem Cutk.zero {nx : Nat} {xs : List Hd} (h : Win nx xs) : Cutk nx xs 0 0 := ⟨Nat.zero_le _, fun i _ hi => absurd hi (by omega), fun i hi _ => by have := h.1 i hi; omega⟩
theorem Cutk.yes {nx k j : Nat} {xs : List Hd} (h : Win nx xs) (hc : Cutk nx xs k j) (hj : j < xs.length) (he : xs[j].seq = ((nx + k : Nat) : Int)) : Cutk nx xs (k + 1) (j + 1) := by
  refine ⟨by omega, fun i hi hij => ?_, fun i hi hij => ?_⟩
  · rcases Nat.lt_or_ge i j with h1 | h1
    · have := hc.2.1 i hi h1; omega
    · obtain rfl : i = j := by omega
      omega
  · have := h.2 j i hj hi (by omega); omega
theorem Cutk.no {nx k j : Nat} {xs : List Hd} (h : Win nx xs) (hc : Cutk nx xs k j) (he : ∀ hj : j < xs.length, xs[j].seq ≠ ((nx + k : Nat) : Int)) : Cutk nx xs (k + 1) j := by
  refine ⟨hc.1, fun i hi hij => by have := hc.2.1 i hi hij; omega, fun i hi hij => ?_⟩
  have h1 := hc.2.2 i hi hij
  have h2 := he (by omega)
  have h3 := hc.2.2 j (by omega) (Nat.le_refl _)
  rcases Nat.eq_or_lt_of_le hij with rfl | h4
  · omega
  · have := h.2 j i (by omega) hi h4; omega
theorem Cutk.in_yes {nx k j : Nat} {xs : List Hd} (hj : j < xs.length) (he : xs[j].seq = ((nx + k : Nat) : Int)) : inB (bitsOf xs) ((nx + k) % 8) = true := by
  rw [inB_of _ _ (by omega), List.any_eq_true]
  exact ⟨xs[j], List.getElem_mem hj, by simp only [beq_iff_eq]; omega⟩
theorem Cutk.in_no {nx k j : Nat} {xs : List Hd} (h : Win nx xs) (hk : k < 8) (hc : Cutk nx xs k j) (he : ∀ hj : j < xs.length, xs[j].seq ≠ ((nx + k : Nat) : Int)) : inB (bitsOf xs) ((nx + k) % 8) = false := by
  rw [inB_of _ _ (by omega), List.any_eq_false]
  intro y hy
  obtain ⟨i, hi, rfl⟩ := List.getElem_of_mem hy
  have h1 := h.1 i hi
  have hne : xs[i].seq ≠ ((nx + k : Nat) : Int) := by
    rcases Nat.lt_or_ge i j with h2 | h2
    · have := hc.2.1 i hi h2; omega
    · have h3 := (hc.no h he).2.2 i hi h2; omega
  simp only [beq_iff_eq]
  omega
set_option maxRecDepth 100000 in
set_option maxHeartbeats 4000000 in
theorem take_any (base R nx : Nat) (xs : List Hd) (o : ByteArray) (rs : List ByteArray) (ds : List Value) (v : Value) (w : World) (h : It5 base R nx xs o rs ds v w) (hbs : base ≤ w.heap.size) :
    Calls Try.prog 25 #[.pointer (some ⟨R, 0, none⟩)] w fun e w' => (∃ hv, e = .returned (.agg #[.int .i64 (nx : Int), hv, .string o, v]) ∧ w'.ownsRow w.heap.size 46 3 hv xs.length (hs xs)) ∧ Below w.heap.size w w' := by
  have hle := h.le
  have hlt := h.ring.lt
  have t0 := (h.ring.cell 0 (by omega)).trans h.hold.next
  have t18 := (h.ring.cell 18 (by omega)).trans h.hold.opn
  have t19 := (h.ring.cell 19 (by omega)).trans h.hold.ready
  have hwin : Hid (Win nx xs) := h.win
  have HH : Hid (HoldT (nx : Int) xs o v ds) := h.hold
  have HRG : Hid (Tn base R ds w) := h.ring
  have hvs : ∃ ao n c, v = .slice ao n c := by obtain ⟨ao, cap, rfl, _⟩ := rs_of_owns h.row; exact ⟨_, _, _, rfl⟩
  obtain ⟨ao, n, c, rfl⟩ := hvs
  have hxl : xs.length ≤ 8 := by
    rcases Nat.lt_or_ge 8 xs.length with h8 | h8
    · exfalso
      have a0 := h.win.1 0 (by omega)
      have a8 := h.win.1 8 (by omega)
      have b0 := h.win.2 0 1 (by omega) (by omega) (by omega)
      have b1 := h.win.2 1 2 (by omega) (by omega) (by omega)
      have b2 := h.win.2 2 3 (by omega) (by omega) (by omega)
      have b3 := h.win.2 3 4 (by omega) (by omega) (by omega)
      have b4 := h.win.2 4 5 (by omega) (by omega) (by omega)
      have b5 := h.win.2 5 6 (by omega) (by omega) (by omega)
      have b6 := h.win.2 6 7 (by omega) (by omega) (by omega)
      have b7 := h.win.2 7 8 (by omega) (by omega) (by omega)
      omega
    · exact h8
  clear h
  obtain ⟨i0, hi, hz0, hz1, hz2⟩ := info_parts info_held
  go_enter Try.func25, Try.ntmps25
  go_wp2
  obtain ⟨W1, hW1⟩ : ∃ W1, (w.alloc (.cells #[.int .i64 0, .slice none 0 0, .string ⟨#[]⟩, .slice none 0 0] 32)) = W1 := ⟨_, rfl⟩
  have AW : Below w.heap.size w W1 := by rw [← hW1]; exact (Below.refl _ _).alloc (Nat.le_refl _) _
  have T0 := cell_keep t0 AW
  have T18 := cell_keep t18 AW
  have T19 := cell_keep t19 AW
  have QX : W1.heap[w.heap.size]? = some (.cells #[.int .i64 0, .slice none 0 0, .string ⟨#[]⟩, .slice none 0 0] 32 (0, 0)) := by rw [← hW1]; exact heap_alloc_new w _
  have Q0 : W1.cell? ⟨w.heap.size, 0, none⟩ = some (.int .i64 0) := by simp [World.cell?, QX]
  rw [hW1]
  clear hW1
  refine wp_region_held_drew (S := (fun w' => Below W1.heap.size W1 w')) (by kernel_rfl) ?_ (fun hHeld => ?_)
  · exact (Below.refl _ _).drew
  refine tkF 0 (some 7) ?_
  refine tkF 1 (some 8) ?_
  refine tkF 2 (some 9) ?_
  refine tkE 3 (some 10) ?_ ?_ ?_
  rotate_left
  · (intro w hSw; (have hT0 := cell_keep T0 hSw); (have hT18 := cell_keep T18 hSw); (have hT19 := cell_keep T19 hSw); go_simp <;> with_reducible rfl)
  refine tkF 4 (some 11) ?_
  refine tkF 5 (some 12) ?_
  refine tkF 6 (some 13) ?_
  refine tkE 7 (some 14) ?_ ?_ ?_
  rotate_left
  · (intro w hSw; (have hT0 := cell_keep T0 hSw); (have hT18 := cell_keep T18 hSw); (have hT19 := cell_keep T19 hSw); go_simp <;> with_reducible rfl)
  refine tkF 8 (some 15) ?_
  refine tkF 9 (some 16) ?_
  refine tkF 10 (some 17) ?_
  refine tkE 11 (some 18) ?_ ?_ ?_
  rotate_left
  · (intro w hSw; (have hT0 := cell_keep T0 hSw); (have hT18 := cell_keep T18 hSw); (have hT19 := cell_keep T19 hSw); go_simp <;> with_reducible rfl)
  refine tkF 12 (some 19) ?_
  refine wpAnyH_ready (rs := [13]) (by kernel_rfl) (by simp) ?_
  refine AllReadyH.cons rfl (fun K hK => ?_) AllReadyH.nil
  go_simp
  refine hK.out _ _ ?_ (fun hHeld => ?_)
  · exact Below.alloc (by assumption) (by assumption : Below W1.heap.size W1 _).size _
  clear hK K
  try simp only [Act.put, List.setIfInBounds_toArray, List.set_cons_zero, List.set_cons_succ]
  refine wpAnyH_ready (rs := [14]) (by kernel_rfl) (by simp) ?_
  refine AllReadyH.cons rfl (fun K hK => ?_) AllReadyH.nil
  go_simp
  refine hK.out _ _ ?_ (fun hHeld => ?_)
  · exact ((Below.refl _ _).alloc (Nat.le_refl _) _).drew
  clear hK K
  try simp only [Act.put, List.setIfInBounds_toArray, List.set_cons_zero, List.set_cons_succ]
  refine wpAnyH_done (by kernel_rfl) ?_ _
  obtain ⟨T, hT⟩ : ∃ T, T = W1.heap.size := ⟨_, rfl⟩
  obtain ⟨W2, hW2⟩ : ∃ W2, (W1.alloc (.cells #[.int .i64 (nx : Int), .slice none 0 0, .string o, .slice ao n c] 32)).drew = W2 := ⟨_, rfl⟩
  have A2 : Below W1.heap.size W1 W2 := by rw [← hW2]; exact ((Below.refl _ _).alloc (Nat.le_refl _) _).drew
  have X2 : W2.heap[T]? = some (.cells #[.int .i64 (nx : Int), .slice none 0 0, .string o, .slice ao n c] 32 (0, 0)) := by rw [← hW2, hT]; exact heap_alloc_new W1 _
  have hTw : w.heap.size < T := by rw [hT]; exact cell_lt Q0
  have hT2 : T < W2.heap.size := (Array.getElem?_eq_some_iff.1 X2).1
  have hRT : R < T := by omega
  rw [hW2, ← hT]
  have N0 := cell_keep T0 A2
  have HX2 : Hid (W2.heap[T]? = some (.cells #[.int .i64 (nx : Int), .slice none 0 0, .string o, .slice ao n c] 32 (0, 0))) := X2
  have HB2 : Hid (Below w.heap.size w W2) := kb AW A2 (Nat.le_refl _)
  have HQ2 : Hid (Below W1.heap.size W1 W2) := A2
  have HTE : Hid (T = W1.heap.size) := hT
  clear hW2 X2 hHeld A2 T0 T18 T19 hT
  go_wp2
  go_loopw [4] (fun i wr => ∃ (k j : Nat) (hv : Value), k ≤ 8 ∧ i = .int .i64 ((nx + k : Nat) : Int) ∧ Cutk nx xs k j ∧ wr.heap[T]? = some (.cells #[.int .i64 (nx : Int), hv, .string o, .slice ao n c] 32 (0, 0)) ∧ wr.ownsRow (T + 1) 46 3 hv j (hs (xs.take j)) ∧ Below T W1 wr ∧ Below w.heap.size w wr ∧ T < wr.heap.size) (fun i _ => nx + 8 - (intOf i).toNat)
  case atStart => exact ⟨0, 0, _, by omega, by simp, Cutk.zero hwin.out, HX2.out, World.ownsRow_nil _ _ _ _, by rw [HTE.out]; exact HQ2.out, HB2.out, hT2⟩
  case round =>
    clear HX2 HB2 HQ2 N0 hT2
    obtain ⟨k, j, hv, hk, rfl, hcut, hX, hrow, hB1, hbel, hTr⟩ := hrel
    have N0 := cell_keep t0 hbel
    have hjl := hcut.1
    obtain ⟨q, hq⟩ : ∃ q, q = nx + k := ⟨_, rfl⟩
    rw [← hq]
    have hqb : q ≤ 1000100 := by omega
    by_cases hk8 : k < 8
    · have hq8 : (q : Int) < (nx : Int) + 8 := by omega
      have hRA : Tn base R ds wr := HRG.out.keep hbel
      have HRA : Hid (Tn base R ds wr) := hRA
      by_cases he : ∃ hj : j < xs.length, xs[j].seq = ((nx + k : Nat) : Int)
      · obtain ⟨hj, he⟩ := he
        have hin := Cutk.in_yes hj he
        have hpt := HH.out.parts j hj
        have hqq : xs[j].seq.toNat = q := by omega
        rw [hqq] at hpt
        rw [← hq] at hin he
        have HAT : Hid (∀ u : World, Tn base R ds u → Calls Try.prog 40 #[.pointer (some ⟨R, 1, none⟩), .int .i64 (q : Int)] u fun e w' => e = .returned (.tuple #[.agg #[.string xs[j].text, .bool xs[j].last], .bool true]) ∧ Below u.heap.size u w') := fun u h => by have := at_in base R (bitsOf xs) q ds xs[j].text xs[j].last u h (bitsOf_lt _) (by omega) HH.out.bits hpt.1 hpt.2; rw [hin] at this; exact this
        have HCN : Hid (Cutk nx xs (k + 1) (j + 1)) := hcut.yes hwin.out hj (by rw [he, hq])
        have HTK : Hid (hs (xs.take (j + 1)) = hs (xs.take j) ++ [.int .i64 (q : Int), .string xs[j].text, .bool xs[j].last]) := (by rw [← List.take_append_getElem hj, hs_append]; simp [hs, Hd.vals, he] : hs (xs.take (j + 1)) = hs (xs.take j) ++ [.int .i64 (q : Int), .string xs[j].text, .bool xs[j].last])
        obtain ⟨ao2, c2, rfl, hc2, hm2, -⟩ := rs_of_owns hrow
        have HX : Hid (wr.heap[T]? = some (.cells #[.int .i64 (nx : Int), .slice ao2 j c2, .string o, .slice ao n c] 32 (0, 0))) := hX
        have HRO : Hid (wr.ownsRow (T + 1) 46 3 (.slice ao2 j c2) j (hs (xs.take j))) := hrow
        have HB1 : Hid (Below T W1 wr) := hB1
        have HBL : Hid (Below w.heap.size w wr) := hbel
        have HQ : Hid (q = nx + k) := hq
        clear hcut hpt hin hqq hRA he hX hrow hB1 hbel hq
        generalize xs[j].text = s at *
        generalize xs[j].last = l at *
        generalize hs (xs.take j) = ts at *
        go_wp2_with (first
          | (go_at_call 40; refine (HAT.out _ HRA.out).mono ?_; rintro e w4 ⟨rfl, hb4⟩; (have X4 := hp_keep HX.out hb4); (have AL : Below w4.heap.size w4 (w4.alloc (.cells #[.string s, .bool l] 35)) := (Below.refl _ _).alloc (Nat.le_refl _) _); (have X5 := hp_keep X4 AL); (have y1 : (w4.alloc (.cells #[.string s, .bool l] 35)).cell? ⟨T, 1, none⟩ = some (.slice ao2 j c2) := by simp [World.cell?, X5]); (have s4 := hb4.size))
          | (at_builtin; go_must (refine wpList_append_own _ rfl _ _ 30 rfl (T + 1) 46 i0 (.agg #[.int .i64 0, .string ⟨#[]⟩, .bool false]) 3 32 Try.underlying30 hi hz0 hz1 hz2 rfl (by decide) (.slice ao2 j c2) j ts rfl ((owns_keep (owns_keep HRO.out hb4) AL).alloc _) ⟨w4.heap.size + 1, 0, none⟩ 1 1 [.int .i64 (q : Int), .string s, .bool l] rfl rfl (by have := held_news (w4.alloc (.cells #[.string s, .bool l] 35)) (q : Int) s l; simpa using this) (held_one _ _ _) (by unfold maxLen; omega) (by omega) (by simp; omega) ?_); intro v' w5 hown5 hgrow _; (obtain ⟨g5, c5, rfl, hg5⟩ := owns_pos5 hown5 (by omega)); (have hneT : some T ≠ (Value.slice ao2 j c2).ownBlock := fun e => by have := (HRO.out.lt T e.symm).1; omega); (have X6 := hp_kept (hp_keep X5 ((Below.refl _ _).alloc (Nat.le_refl _) (.cells #[.int .i64 (q : Int), .string s, .bool l] 46))) hgrow hneT); (have y5 : w5.cell? ⟨T, 1, none⟩ = some (.slice ao2 j c2) := by simp [World.cell?, X6]); (have z5 : w5.frozen? ⟨T, 1, none⟩ = false := by simp [World.frozen?, X6]))
          | fail)
        have hq := HQ.out
        have hs5 : T < w5.heap.size := (Array.getElem?_eq_some_iff.1 X6).1
        have B1 : Below T W1 w5 := (((HB1.out.trans (hb4.mono (by omega))).trans (AL.mono (by omega))).alloc (by have := AL.size; omega) _).grown hgrow (by have := AL.size; simp; omega) (fun i hi => by have := (HRO.out.lt i hi).1; omega)
        have B2 : Below w.heap.size w w5 := (((HBL.out.trans (hb4.mono (by omega))).trans (AL.mono (by omega))).alloc (by have := AL.size; omega) _).grown hgrow (by have := AL.size; simp; omega) (fun i hi => by have := (HRO.out.lt i hi).1; omega)
        refine ⟨⟨k + 1, j + 1, _, by omega, by go_num, HCN.out, hp_put X6 1 _, by rw [HTK.out]; exact ownsRow_setCell_other hown5 (a := ⟨T, 1, none⟩) (by simp [Value.ownBlock]; omega) _, B1.setCell (p := ⟨T, 1, none⟩) (Nat.le_refl _) _, B2.setCell (p := ⟨T, 1, none⟩) (by show w.heap.size ≤ T; omega) _, by simpa using hs5⟩, by simp [intOf]; omega⟩
      · have he' : ∀ hj : j < xs.length, xs[j].seq ≠ ((nx + k : Nat) : Int) := fun hj e => he ⟨hj, e⟩
        have hin := Cutk.in_no hwin.out hk8 hcut he'
        have HCN : Hid (Cutk nx xs (k + 1) j) := hcut.no hwin.out he'
        obtain ⟨s0, l0, hs0, hl0⟩ := HH.out.ty ((nx + k) % 8) (by omega)
        rw [← hq] at hin hs0 hl0
        have HAT : Hid (∀ u : World, Tn base R ds u → Calls Try.prog 40 #[.pointer (some ⟨R, 1, none⟩), .int .i64 (q : Int)] u fun e w' => e = .returned (.tuple #[.agg #[.string s0, .bool l0], .bool false]) ∧ Below u.heap.size u w') := fun u h => by have := at_in base R (bitsOf xs) q ds s0 l0 u h (bitsOf_lt _) (by omega) HH.out.bits hs0 hl0; rw [hin] at this; exact this
        have HX : Hid (wr.heap[T]? = some (.cells #[.int .i64 (nx : Int), hv, .string o, .slice ao n c] 32 (0, 0))) := hX
        have HRO : Hid (wr.ownsRow (T + 1) 46 3 hv j (hs (xs.take j))) := hrow
        have HB1 : Hid (Below T W1 wr) := hB1
        have HBL : Hid (Below w.heap.size w wr) := hbel
        have HQ : Hid (q = nx + k) := hq
        clear hcut hin hRA he he' hs0 hl0 hX hrow hB1 hbel hq
        go_wp2_with (go_at_call 40; refine (HAT.out _ HRA.out).mono ?_; rintro e w4 ⟨rfl, hb4⟩)
        have hq := HQ.out
        have s4 := hb4.size
        have AL : Below w4.heap.size w4 (w4.alloc (.cells #[.string s0, .bool l0] 35)) := (Below.refl _ _).alloc (Nat.le_refl _) _
        exact ⟨⟨k + 1, j, hv, by omega, by go_num, HCN.out, hp_keep (hp_keep HX.out hb4) AL, owns_keep (owns_keep HRO.out hb4) AL, (HB1.out.trans (hb4.mono (by omega))).trans (AL.mono (by omega)), (HBL.out.trans (hb4.mono (by omega))).trans (AL.mono (by omega)), by simp; omega⟩, by simp [intOf]; omega⟩
    · obtain rfl : k = 8 := by omega
      have hq8 : ¬ (q : Int) < (nx : Int) + 8 := by omega
      have hj : j = xs.length := by
        rcases Nat.lt_or_ge j xs.length with h1 | h1
        · exfalso
          have h2 := hcut.2.2 j h1 (Nat.le_refl _)
          have h3 := hwin.out.1 j h1
          omega
        · omega
      subst hj
      rw [List.take_length] at hrow
      have y0 : wr.cell? ⟨T, 0, none⟩ = some (.int .i64 (nx : Int)) := by simp [World.cell?, hX]
      have y1 : wr.cell? ⟨T, 1, none⟩ = some hv := by simp [World.cell?, hX]
      have y2 : wr.cell? ⟨T, 2, none⟩ = some (.string o) := by simp [World.cell?, hX]
      have y3 : wr.cell? ⟨T, 3, none⟩ = some (.slice ao n c) := by simp [World.cell?, hX]
      have RX : wr.heap[w.heap.size]? = some (.cells #[.int .i64 0, .slice none 0 0, .string ⟨#[]⟩, .slice none 0 0] 32 (0, 0)) := (hB1.block w.heap.size hTw).trans QX
      have r0 : wr.cell? ⟨w.heap.size, 0, none⟩ = some (.int .i64 0) := by simp [World.cell?, RX]
      have r1 : wr.cell? ⟨w.heap.size, 1, none⟩ = some (.slice none 0 0) := by simp [World.cell?, RX]
      have r2 : wr.cell? ⟨w.heap.size, 2, none⟩ = some (.string ⟨#[]⟩) := by simp [World.cell?, RX]
      have r3 : wr.cell? ⟨w.heap.size, 3, none⟩ = some (.slice none 0 0) := by simp [World.cell?, RX]
      have f0 : wr.frozen? ⟨w.heap.size, 0, none⟩ = false := by simp [World.frozen?, RX]
      have f1 : wr.frozen? ⟨w.heap.size, 1, none⟩ = false := by simp [World.frozen?, RX]
      have f2 : wr.frozen? ⟨w.heap.size, 2, none⟩ = false := by simp [World.frozen?, RX]
      have f3 : wr.frozen? ⟨w.heap.size, 3, none⟩ = false := by simp [World.frozen?, RX]
      obtain ⟨ao2, c2, rfl, hc2, hm2, -⟩ := rs_of_owns hrow
      have HRO : Hid (wr.ownsRow (T + 1) 46 3 (.slice ao2 xs.length c2) xs.length (hs xs)) := hrow
      have HBL : Hid (Below w.heap.size w wr) := hbel
      clear hX RX QX hcut hrow hB1 hbel hq HRG HH
      go_wp2
      have P4 := ownsRow_setCell_below (ownsRow_setCell_below (ownsRow_setCell_below (ownsRow_setCell_below HRO.out (a := ⟨w.heap.size, 0, none⟩) (by show w.heap.size < T + 1; omega) (.int .i64 (nx : Int))) (a := ⟨w.heap.size, 1, none⟩) (by show w.heap.size < T + 1; omega) (.slice ao2 xs.length c2)) (a := ⟨w.heap.size, 2, none⟩) (by show w.heap.size < T + 1; omega) (.string o)) (a := ⟨w.heap.size, 3, none⟩) (by show w.heap.size < T + 1; omega) (.slice ao n c)
      exact bodyPost_ret (v := .agg #[.int .i64 (nx : Int), .slice ao2 xs.length c2, .string o, .slice ao n c]) (by simp [results, Try.results25, go_sem, r0, r1, r2, r3]) rfl ⟨⟨_, rfl, owns_mono3 P4 (by omega)⟩, (((HBL.out.setCell (p := ⟨w.heap.size, 0, none⟩) (Nat.le_refl _) _).setCell (p := ⟨w.heap.size, 1, none⟩) (Nat.le_refl _) _).setCell (p := ⟨w.heap.size, 2, none⟩) (Nat.le_refl _) _).setCell (p := ⟨w.heap.size, 3, none⟩) (Nat.le_refl _) _⟩
end Go.Proofs.Yteceaadmgpjmcab.mk

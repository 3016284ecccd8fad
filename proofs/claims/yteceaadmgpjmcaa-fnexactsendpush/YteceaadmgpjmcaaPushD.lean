/-
  PUSHING: spec.SendPush.
-/
import Derived.Test.YteceaadmgpjmcaaPushP
import Derived.Test.YteceaadmgpjmcaaCopyA
import Derived.Deep.RegionLaw
namespace Go.Proofs.Yteceaadmgpjmcaa.mk
open Go.RowKit
set_option linter.unusedVariables false

theorem cut_some (s : ByteArray) : 0 < (cut s).length := by
  unfold cut
  split <;> simp
theorem row_some {w : World} {base n : Nat} {e : TypeId} {size : Nat} {v : Value} {xs : List Value} (h : w.ownsRow base e size v n xs) (hn : 0 < n) : ∃ g cap, v = .slice (some ⟨g, 0, none⟩) n cap := by
  rcases h.2 with ⟨_, h0⟩ | ⟨g, cap, _, rfl, _⟩
  · omega
  · exact ⟨g, cap, rfl⟩
theorem two_b (w : World) (o p : Obj) : Below w.heap.size w ((w.alloc o).alloc p) := ((Below.refl _ _).alloc (Nat.le_refl _) _).alloc (by simp) _
def Pcx (gp j : Nat) (b c : Value) (W : World) : Prop := W.cell? ⟨gp, j, none⟩ = some b ∧ W.cell? ⟨gp, j + 1, none⟩ = some c
theorem held_alloc {W : World} (o : Obj) {gp j : Nat} {b c : Value} (hg : gp < W.heap.size) (h : Pcx gp j b c W) : Pcx gp j b c ((W.alloc o).drew) := by
  have hb := (Below.refl W.heap.size W).alloc (Nat.le_refl _) o
  exact ⟨(hb.cell (p := ⟨gp, j, none⟩) hg).trans h.1, (hb.cell (p := ⟨gp, j + 1, none⟩) hg).trans h.2⟩
theorem held_set {W : World} {gp j H : Nat} {b c v : Value} (hne : gp ≠ H) (h : Pcx gp j b c W) : Pcx gp j b c (W.setCell ⟨H, 1, none⟩ v) :=
  ⟨((grow_set W ⟨H, 1, none⟩ v).cell_far ⟨gp, j, none⟩ (cell_lt h.1) (by simp; omega)).trans h.1, ((grow_set W ⟨H, 1, none⟩ v).cell_far ⟨gp, j + 1, none⟩ (cell_lt h.2) (by simp; omega)).trans h.2⟩
set_option maxHeartbeats 1000000 in
theorem specPush_no (b : Int) (ao : Option Addr) (cap : Nat) (xs : List It) (s : ByteArray) (w : World) (hm : xs.length ≤ 1048576) (hz : ∀ i (h : i < xs.length), xs[i].text.size ≤ 1048576) (hr : Rs w ao xs.length (is xs)) (hao : ao = none → xs.length = 0 ∧ cap = 0) (hs : s.size ≤ 1048576) (hno : ¬ (sdOk b xs = true ∧ s.size ≤ 200)) :
    Calls Try.prog 22 #[.agg #[.int .i64 b, .slice ao xs.length cap], .string s] w fun e w' => PushPost w b xs s e w' := by
  have HC : Hid (∀ u : World, Rs u ao xs.length (is xs) → Calls Try.prog 52 #[.agg #[.int .i64 b, .slice ao xs.length cap]] u fun e w' => e = .returned (.bool (sdOk b xs)) ∧ Below u.heap.size u w') := fun u h => specValid_any b ao cap xs u hm hz h
  have R2 : Hid (Rs ((w.alloc (.cells #[.int .i64 b, .slice ao xs.length cap] 38)).alloc (.cells #[.int .i64 0, .slice none 0 0] 38)) ao xs.length (is xs)) := hr.keep (two_b _ _ _)
  have X1 : Hid (Bx ((w.alloc (.cells #[.int .i64 b, .slice ao xs.length cap] 38)).alloc (.cells #[.int .i64 0, .slice none 0 0] 38)) (w.heap.size + 1) 38 #[.int .i64 0, .slice none 0 0]) := (by have := Bx.new (w.alloc (.cells #[.int .i64 b, .slice ao xs.length cap] 38)) 38 #[.int .i64 0, .slice none 0 0]; rw [World.size_alloc] at this; exact this)
  have T0 : Hid (pushOf b xs s = (0, [], 1)) := (by rw [pushOf, if_neg hno] : pushOf b xs s = (0, [], 1))
  have BB : Hid (Below w.heap.size w ((w.alloc (.cells #[.int .i64 b, .slice ao xs.length cap] 38)).alloc (.cells #[.int .i64 0, .slice none 0 0] 38))) := two_b _ _ _
  clear hz hr hao
  cases hv : sdOk b xs with
  | false =>
    rw [hv] at HC
    clear hno hv
    go_enter Try.func22, Try.ntmps22
    go_wp2_with (go_at_call 52; refine (HC.out _ R2.out).mono ?_; rintro e w1 ⟨rfl, hb1⟩; (have y0 := (X1.out.keep hb1).cell 0); (have y1 := (X1.out.keep hb1).cell 1); (have z0 := (X1.out.keep hb1).frozen 0); (have z1 := (X1.out.keep hb1).frozen 1); simp at y0 y1)
    have B1 := kb BB.out hb1 (Nat.le_refl _)
    refine bodyPost_ret (v := .tuple #[.agg #[.int .i64 0, .slice none 0 0], .int .i64 1]) (by simp [results, Try.results22, go_sem, y0, y1]) rfl ?_; unfold PushPost; rw [T0.out]; exact ⟨⟨none, 0, rfl, World.ownsRow_nil _ _ _ _⟩, (B1.setCell (p := ⟨w.heap.size + 1, 0, none⟩) (by simp) _).setCell (p := ⟨w.heap.size + 1, 1, none⟩) (by simp) _⟩
  | true =>
    rw [hv] at HC
    have h2 : 200 < s.size := by
      by_cases h : s.size ≤ 200
      · exact absurd ⟨hv, h⟩ hno
      · omega
    clear hno hv
    go_enter Try.func22, Try.ntmps22
    go_wp2_with (go_at_call 52; refine (HC.out _ R2.out).mono ?_; rintro e w1 ⟨rfl, hb1⟩; (have y0 := (X1.out.keep hb1).cell 0); (have y1 := (X1.out.keep hb1).cell 1); (have z0 := (X1.out.keep hb1).frozen 0); (have z1 := (X1.out.keep hb1).frozen 1); simp at y0 y1)
    have B1 := kb BB.out hb1 (Nat.le_refl _)
    refine bodyPost_ret (v := .tuple #[.agg #[.int .i64 0, .slice none 0 0], .int .i64 1]) (by simp [results, Try.results22, go_sem, y0, y1]) rfl ?_; unfold PushPost; rw [T0.out]; exact ⟨⟨none, 0, rfl, World.ownsRow_nil _ _ _ _⟩, (B1.setCell (p := ⟨w.heap.size + 1, 0, none⟩) (by simp) _).setCell (p := ⟨w.heap.size + 1, 1, none⟩) (by simp) _⟩
set_option maxRecDepth 100000 in
set_option maxHeartbeats 2000000 in
theorem specPush_yes (b : Nat) (ao : Option Addr) (cap : Nat) (xs : List It) (s : ByteArray) (w : World) (hm : xs.length ≤ 1048576) (hz : ∀ i (h : i < xs.length), xs[i].text.size ≤ 1048576) (hr : Rs w ao xs.length (is xs)) (hao : ao = none → xs.length = 0 ∧ cap = 0) (hv : sdOk (b : Int) xs = true) (hs : s.size ≤ 200) :
    Calls Try.prog 22 #[.agg #[.int .i64 (b : Int), .slice ao xs.length cap], .string s] w fun e w' => PushPost w (b : Int) xs s e w' := by
  obtain ⟨i0, hi, hz0, hz1, hz2⟩ := info_parts info_item
  have hok := sdOk_of hv
  have hbb : b ≤ 1000000 := by have := hok.1; unfold HdOk at this; omega
  have hnn : xs.length ≤ 60 := by have := hok.1; unfold HdOk at this; omega
  have hcl := cut_length s
  have hcp := cut_some s
  have HC : Hid (∀ u : World, Rs u ao xs.length (is xs) → Calls Try.prog 52 #[.agg #[.int .i64 (b : Int), .slice ao xs.length cap]] u fun e w' => e = .returned (.bool true) ∧ Below u.heap.size u w') := fun u h => by have := specValid_any (b : Int) ao cap xs u hm hz h; rw [hv] at this; exact this
  have HT : Hid (∀ u : World, Calls Try.prog 53 #[.string s] u fun e w' => (∃ gp cp, e = .returned (.slice (some ⟨gp, 0, none⟩) (cut s).length cp) ∧ w'.ownsRow u.heap.size 67 2 (.slice (some ⟨gp, 0, none⟩) (cut s).length cp) (cut s).length (ps (cut s))) ∧ Below u.heap.size u w') := fun u => (specCut_yes s u hs).mono fun e w' ⟨⟨v, e1, e2⟩, e3⟩ => by
    obtain ⟨gp, cp, rfl⟩ := row_some e2 hcp
    exact ⟨⟨gp, cp, e1, e2⟩, e3⟩
  have HG : Hid (∀ u : World, Rs u ao xs.length (is xs) → Calls Try.prog 54 #[.agg #[.int .i64 (b : Int), .slice ao xs.length cap]] u fun e w' => (∃ g' c, e = .returned (.agg #[.int .i64 (b : Int), .slice (some ⟨g', 0, none⟩) xs.length c]) ∧ w'.ownsRow u.heap.size 87 4 (.slice (some ⟨g', 0, none⟩) xs.length c) xs.length (is xs)) ∧ Below u.heap.size u w') := fun u h => copy_opt (b : Int) ao cap xs u hm h hao
  have R2 : Hid (Rs ((w.alloc (.cells #[.int .i64 (b : Int), .slice ao xs.length cap] 38)).alloc (.cells #[.int .i64 0, .slice none 0 0] 38)) ao xs.length (is xs)) := hr.keep (two_b _ _ _)
  have X0 : Hid (Bx ((w.alloc (.cells #[.int .i64 (b : Int), .slice ao xs.length cap] 38)).alloc (.cells #[.int .i64 0, .slice none 0 0] 38)) w.heap.size 38 #[.int .i64 (b : Int), .slice ao xs.length cap]) := (Bx.new w 38 _).alloc _
  have X1 : Hid (Bx ((w.alloc (.cells #[.int .i64 (b : Int), .slice ao xs.length cap] 38)).alloc (.cells #[.int .i64 0, .slice none 0 0] 38)) (w.heap.size + 1) 38 #[.int .i64 0, .slice none 0 0]) := (by have := Bx.new (w.alloc (.cells #[.int .i64 (b : Int), .slice ao xs.length cap] 38)) 38 #[.int .i64 0, .slice none 0 0]; rw [World.size_alloc] at this; exact this)
  have BB : Hid (Below w.heap.size w ((w.alloc (.cells #[.int .i64 (b : Int), .slice ao xs.length cap] 38)).alloc (.cells #[.int .i64 0, .slice none 0 0] 38))) := two_b _ _ _
  have P0 : Hid (¬ Full b xs.length (cut s).length → pushOf (b : Int) xs s = ((b : Int), xs ++ (cut s).map newIt, 0)) := fun h => by rw [pushOf, if_pos ⟨hv, hs⟩, if_neg (by simpa using h)]
  have P3 : Hid (Full b xs.length (cut s).length → pushOf (b : Int) xs s = (0, [], 3)) := fun h => by rw [pushOf, if_pos ⟨hv, hs⟩, if_pos (by simpa using h)]
  clear hz hr hao hv hok
  by_cases hf : Full b xs.length (cut s).length
  · have T3 := P3.out hf
    have HT3 : Hid (pushOf (b : Int) xs s = (0, [], 3)) := T3
    unfold Full at hf
    clear P0 P3 T3 HG
    by_cases hf1 : 60 < xs.length + (cut s).length
    · go_enter Try.func22, Try.ntmps22; go_wp2_with (first | (go_at_call 52; refine (HC.out _ R2.out).mono ?_; rintro e w1 ⟨rfl, hb1⟩) | (go_at_call 53; refine (HT.out _).mono ?_; rintro e wc ⟨⟨gp, cp, rfl, hpr⟩, hbc⟩; (have u0 := ((X0.out.keep hb1).keep hbc).cell 0); (have u1 := ((X0.out.keep hb1).keep hbc).cell 1); (have y0 := ((X1.out.keep hb1).keep hbc).cell 0); (have y1 := ((X1.out.keep hb1).keep hbc).cell 1); (have z0 := ((X1.out.keep hb1).keep hbc).frozen 0); (have z1 := ((X1.out.keep hb1).keep hbc).frozen 1); simp at u0 u1 y0 y1)); have B1 := kb (kb BB.out hb1 (Nat.le_refl _)) hbc (Nat.le_refl _); refine bodyPost_ret (v := .tuple #[.agg #[.int .i64 0, .slice none 0 0], .int .i64 3]) (by simp [results, Try.results22, go_sem, y0, y1]) rfl ?_; unfold PushPost; rw [HT3.out]; exact ⟨⟨none, 0, rfl, World.ownsRow_nil _ _ _ _⟩, (B1.setCell (p := ⟨w.heap.size + 1, 0, none⟩) (by simp) _).setCell (p := ⟨w.heap.size + 1, 1, none⟩) (by simp) _⟩
    · have hf2 : 1000000 < b + xs.length + (cut s).length := by omega
      clear hf
      go_enter Try.func22, Try.ntmps22; go_wp2_with (first | (go_at_call 52; refine (HC.out _ R2.out).mono ?_; rintro e w1 ⟨rfl, hb1⟩) | (go_at_call 53; refine (HT.out _).mono ?_; rintro e wc ⟨⟨gp, cp, rfl, hpr⟩, hbc⟩; (have u0 := ((X0.out.keep hb1).keep hbc).cell 0); (have u1 := ((X0.out.keep hb1).keep hbc).cell 1); (have y0 := ((X1.out.keep hb1).keep hbc).cell 0); (have y1 := ((X1.out.keep hb1).keep hbc).cell 1); (have z0 := ((X1.out.keep hb1).keep hbc).frozen 0); (have z1 := ((X1.out.keep hb1).keep hbc).frozen 1); simp at u0 u1 y0 y1)); have B1 := kb (kb BB.out hb1 (Nat.le_refl _)) hbc (Nat.le_refl _); refine bodyPost_ret (v := .tuple #[.agg #[.int .i64 0, .slice none 0 0], .int .i64 3]) (by simp [results, Try.results22, go_sem, y0, y1]) rfl ?_; unfold PushPost; rw [HT3.out]; exact ⟨⟨none, 0, rfl, World.ownsRow_nil _ _ _ _⟩, (B1.setCell (p := ⟨w.heap.size + 1, 0, none⟩) (by simp) _).setCell (p := ⟨w.heap.size + 1, 1, none⟩) (by simp) _⟩
  · have T0 : Hid (pushOf (b : Int) xs s = ((b : Int), xs ++ (cut s).map newIt, 0)) := P0.out hf
    unfold Full at hf
    clear P0 P3
    go_enter Try.func22, Try.ntmps22
    go_wp2_with (first
      | (go_at_call 52; refine (HC.out _ R2.out).mono ?_; rintro e w1 ⟨rfl, hb1⟩)
      | (go_at_call 53; refine (HT.out _).mono ?_; rintro e wc ⟨⟨gp, cp, rfl, hpr⟩, hbc⟩; (have u0 := ((X0.out.keep hb1).keep hbc).cell 0); (have u1 := ((X0.out.keep hb1).keep hbc).cell 1); simp at u0 u1)
      | (go_at_call 54; refine (HG.out _ ((R2.out.keep hb1).keep hbc)).mono ?_; rintro e w2 ⟨⟨g2, c2, rfl, ho2⟩, hb2⟩))
    have s1 := hb1.size
    have s2 := hb2.size
    have sc := hbc.size
    simp only [World.size_alloc] at s1
    have Y1 := (X1.out.keep hb1).keep hbc
    have B2 := kb (kb BB.out hb1 (Nat.le_refl _)) hbc (Nat.le_refl _)
    have hpl := (hpr.lt gp rfl).2
    have HPC : Hid (∀ j (h : j < (cut s).length), wc.cell? ⟨gp, j * 2, none⟩ = some (.string (cut s)[j].1) ∧ wc.cell? ⟨gp, j * 2 + 1, none⟩ = some (.bool (cut s)[j].2)) := fun j h => by
      have hx := ps_at (cut s) j h
      have hpl := ps_length (cut s)
      exact ⟨(hpr.cellAt (j * 2) (by omega)).trans hx.1, (hpr.cellAt (j * 2 + 1) (by omega)).trans hx.2⟩
    clear u0 u1 X0 X1 BB HC HG HT R2 hb1 hbc hpr
    go_loopw [9] (fun i wr => ∃ (k g' c' : Nat), k ≤ (cut s).length ∧ i = .int .i64 k ∧ wr.ownsRow wc.heap.size 87 4 (.slice (some ⟨g', 0, none⟩) (xs.length + k) c') (xs.length + k) (is (xs ++ ((cut s).take k).map newIt)) ∧ Bx wr w2.heap.size 38 #[.int .i64 (b : Int), .slice (some ⟨g', 0, none⟩) (xs.length + k) c'] ∧ Below wc.heap.size wc wr) (fun i _ => (cut s).length - (intOf i).toNat)
    case atStart => exact ⟨0, g2, c2, Nat.zero_le _, rfl, by simpa using ho2.alloc _, by simpa using Bx.new w2 38 _, hb2.alloc s2 _⟩
    case round =>
      clear ho2 hb2
      obtain ⟨k, g', c', hk, rfl, hrow, xo, hbel⟩ := hrel
      have hrl := hrow.1
      have l2 := xo.lt
      have lg := hrow.lt g' rfl
      have p1 := xo.cell 1
      have f1 := xo.frozen 1
      simp at p1
      have hne : g' ≠ w2.heap.size := by
        have := xo.ne (by decide) hrow
        simpa [Value.ownBlock, eq_comm] using this
      by_cases hlt : k < (cut s).length
      · obtain ⟨a0, a1⟩ := HPC.out k hlt
        replace a0 := (hbel.cell (p := ⟨gp, k * 2, none⟩) hpl).trans a0
        replace a1 := (hbel.cell (p := ⟨gp, k * 2 + 1, none⟩) hpl).trans a1
        have HN : Hid (is (xs ++ ((cut s).take (k + 1)).map newIt) = is (xs ++ ((cut s).take k).map newIt) ++ [.string (cut s)[k].1, .bool (cut s)[k].2, .bool false, .int .i64 (-1)]) := (by rw [List.take_succ_eq_append_getElem hlt, List.map_append, ← List.append_assoc, is_append]; rfl : _ = _)
        generalize (cut s)[k].1 = t at *
        generalize (cut s)[k].2 = l at *
        generalize (is (xs ++ ((cut s).take k).map newIt)) = its at *
        clear HPC
        have hgl : gp < wr.heap.size := by omega
        have hgH : gp ≠ w2.heap.size := by omega
        have HS : Hid (Pcx gp (k * 2) (.string t) (.bool l) wr) := ⟨a0, a1⟩
        generalize hL : (cut s).length = N at *
        go_wp2
        go_region_law (refine step_append_lies _ rfl _ _ 36 rfl wc.heap.size 87 i0 (.agg #[.string ⟨#[]⟩, .bool false, .bool false, .int .i64 0]) 4 40 Try.underlying36 hi hz0 hz1 hz2 rfl (by decide) (.slice (some ⟨g', 0, none⟩) (xs.length + k) c') (xs.length + k) its rfl (World.ownsRow.drew (hrow.alloc _)) ⟨wr.heap.size, 0, none⟩ 1 1 [.string t, .bool l, .bool false, .int .i64 (-1)] rfl rfl (item_news wr t l false (-1)) (item_one _ _ _ _) (by omega) (by unfold maxLen; omega) (by omega) (by simp; omega) (wr.heap.size + 1) (by simp) ?_; intro g3 c3 w4 hown hgrow hat hlt3; (have y1 := far hgrow w2.heap.size 1 (v := .slice (some ⟨g', 0, none⟩) (xs.length + k) c') (by simp [go_sem, *]) (by simp [Value.ownBlock] <;> omega)); (have z1 := farF hgrow w2.heap.size 1 (by simp <;> omega) (by simp [go_sem, *]) (by simp [Value.ownBlock] <;> omega)))
        all_goals
          have hg3 : g3 ≠ w2.heap.size := by
            rcases hat with q | q
            · simp [Value.ownBlock] at q; omega
            · omega
          have o4 := ownsRow_setCell_other hown (a := ⟨w2.heap.size, 1, none⟩) (by simpa [Value.ownBlock] using hg3) (.slice (some ⟨g3, 0, none⟩) (xs.length + k + 1) c3)
          have b4 : Below wc.heap.size wc w4 := ((hbel.alloc hbel.size _).drew).grown hgrow (by have := hbel.size; simp; omega) (fun q hq => by simp [Value.ownBlock] at hq; omega)
          have x4 : Bx (w4.setCell ⟨w2.heap.size, 1, none⟩ (.slice (some ⟨g3, 0, none⟩) (xs.length + k + 1) c3)) w2.heap.size 38 #[.int .i64 (b : Int), .slice (some ⟨g3, 0, none⟩) (xs.length + k + 1) c3] := (Bx.kept (show Bx ((wr.alloc _).drew) w2.heap.size 38 _ from xo.alloc _) hgrow (by simp [Value.ownBlock]; omega)).put 1 _
          have b5 := b4.setCell (p := ⟨w2.heap.size, 1, none⟩) s2 (.slice (some ⟨g3, 0, none⟩) (xs.length + k + 1) c3)
          generalize w4.setCell ⟨w2.heap.size, 1, none⟩ (.slice (some ⟨g3, 0, none⟩) (xs.length + k + 1) c3) = w5 at *
          clear hown hgrow hat y1 z1 a0 a1 p1 f1 b4
          go_wp2
          refine ⟨⟨k + 1, g3, c3, by omega, by go_num, by rw [HN.out]; exact o4, x4, b5⟩, by simp [intOf]; omega⟩
      · obtain rfl : k = (cut s).length := by omega
        rw [List.take_length] at hrow
        have p0 := xo.cell 0
        have q0 := (Y1.keep hbel).cell 0
        have q1 := (Y1.keep hbel).cell 1
        have r0 := (Y1.keep hbel).frozen 0
        have r1 := (Y1.keep hbel).frozen 1
        simp at p0 q0 q1
        go_wp2
        refine bodyPost_ret (v := .tuple #[.agg #[.int .i64 (b : Int), .slice (some ⟨g', 0, none⟩) (xs.length + (cut s).length) c'], .int .i64 0]) (by simp [results, Try.results22, go_sem, q0, q1]) rfl ?_
        have o4 := ownsRow_setCell_other (ownsRow_setCell_other hrow (a := ⟨w.heap.size + 1, 0, none⟩) (by simp [Value.ownBlock]; omega) (.int .i64 (b : Int))) (a := ⟨w.heap.size + 1, 1, none⟩) (by simp [Value.ownBlock]; omega) (.slice (some ⟨g', 0, none⟩) (xs.length + (cut s).length) c')
        have B5 := ((kb B2 hbel (Nat.le_refl _)).setCell (p := ⟨w.heap.size + 1, 0, none⟩) (by simp) (.int .i64 (b : Int))).setCell (p := ⟨w.heap.size + 1, 1, none⟩) (by simp) (.slice (some ⟨g', 0, none⟩) (xs.length + (cut s).length) c')
        have hml : (xs ++ ((cut s).map newIt)).length = xs.length + (cut s).length := by simp
        unfold PushPost
        rw [T0.out]
        simp only [hml]
        exact ⟨⟨_, _, rfl, owns_mono o4 (by omega)⟩, B5⟩
theorem specPush_opt (b : Int) (ao : Option Addr) (cap : Nat) (xs : List It) (s : ByteArray) (w : World) (hm : xs.length ≤ 1048576) (hz : ∀ i (h : i < xs.length), xs[i].text.size ≤ 1048576) (hr : Rs w ao xs.length (is xs)) (hao : ao = none → xs.length = 0 ∧ cap = 0) (hs : s.size ≤ 1048576) :
    Calls Try.prog 22 #[.agg #[.int .i64 b, .slice ao xs.length cap], .string s] w fun e w' => PushPost w b xs s e w' := by
  by_cases h : sdOk b xs = true ∧ s.size ≤ 200
  · obtain ⟨n, rfl⟩ : ∃ n : Nat, b = (n : Int) := ⟨b.toNat, by have := (sdOk_of h.1).1; unfold HdOk at this; omega⟩
    exact specPush_yes n ao cap xs s w hm hz hr hao h.1 h.2
  · exact specPush_no b ao cap xs s w hm hz hr hao hs h
theorem specPush_any (b : Int) (g cap : Nat) (xs : List It) (s : ByteArray) (w : World) (hm : xs.length ≤ 1048576) (hz : ∀ i (h : i < xs.length), xs[i].text.size ≤ 1048576) (hr : Rs w (some ⟨g, 0, none⟩) xs.length (is xs)) (hs : s.size ≤ 1048576) :
    Calls Try.prog 22 #[.agg #[.int .i64 b, .slice (some ⟨g, 0, none⟩) xs.length cap], .string s] w fun e w' => PushPost w b xs s e w' :=
  specPush_opt b (some ⟨g, 0, none⟩) cap xs s w hm hz hr (fun h => by cases h) hs
end Go.Proofs.Yteceaadmgpjmcaa.mk

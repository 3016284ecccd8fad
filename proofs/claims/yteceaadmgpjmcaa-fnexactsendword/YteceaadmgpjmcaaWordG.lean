/-
  WORDS: spec.SendWord, where the word is heeded (UNDER WAY).
-/
import Derived.Test.YteceaadmgpjmcaaWordF
import Derived.Deep.DeepMust
import Derived.Test.YteceaadmgpjmcaaTickP
import Derived.Test.YteceaadmgpjmcaaValB
namespace Go.Proofs.Yteceaadmgpjmcaa.mk
open Go.RowKit
set_option linter.unusedVariables false

theorem is_drop (xs : List It) (d : Nat) : is (xs.drop d) = (is xs).drop (d * 4) := by
  induction d generalizing xs with
  | zero => simp
  | succ d ih =>
    cases xs with
    | nil => simp [is]
    | cons x xs =>
      rw [List.drop_succ_cons, ih xs, show (d + 1) * 4 = d * 4 + 4 by omega]
      simp [is, It.vals]
theorem drop_cells {w : World} {base g n cap : Nat} {e : TypeId} {xs : List It} (h : w.ownsRow base e 4 (.slice (some ⟨g, 0, none⟩) n cap) n (is xs)) (d : Nat) : ∀ j u, (is (xs.drop d))[j]? = some u → w.cell? ((⟨g, d * 4, none⟩ : Addr).add j) = some u := by
  intro j u hj
  rw [is_drop, List.getElem?_drop] at hj
  have hl : d * 4 + j < (is xs).length := by
    rcases Nat.lt_or_ge (d * 4 + j) (is xs).length with q | q
    · exact q
    · rw [List.getElem?_eq_none q] at hj; simp at hj
  have ea : (⟨g, d * 4, none⟩ : Addr).add j = ⟨g, d * 4 + j, none⟩ := by unfold Addr.add; split <;> simp_all
  have hc := h.cellAt (d * 4 + j) (by have := h.1; omega)
  rw [ea, hc, hj]
theorem owns_pos {w : World} {base n size : Nat} {e : TypeId} {v : Value} {cs : List Value} (h : w.ownsRow base e size v n cs) (hn : 0 < n) : ∃ g c, v = .slice (some ⟨g, 0, none⟩) n c ∧ base ≤ g := by
  rcases h.2 with ⟨_, h0⟩ | ⟨g, cap, cur, h1, h2, h3⟩
  · omega
  · exact ⟨g, cap, h1, h2⟩
theorem owns1 (W : World) (base : Nat) (hb : base ≤ W.heap.size) (H : Nat) (hH : W.heap.size = H) : (W.alloc (.cells #[] 87)).ownsRow base 87 4 (.slice (some ⟨H, 0, none⟩) 0 0) 0 (is []) := by
  subst hH
  exact World.ownsRow_lit W #[] 0 hb (Nat.zero_le _) rfl
theorem half (m k : Nat) : m / 2 ^ k / 2 = m / 2 ^ (k + 1) := by rw [Nat.div_div_eq_div_mul, Nat.pow_succ]
theorem hdn_yes' (m : Nat) (ys : List It) (k : Nat) (h : k < ys.length) (h1 : m / 2 ^ k % 2 = 1) (h2 : 0 ≤ ys[k].since) : is (hdn m ys (k + 1)) = (is (hdn m ys k)).set (k * 4 + 2) (.bool true) := by
  have hl : k < (hdn m ys k).length := by rw [hdn_length]; exact h
  rw [hdn_yes m ys k h h1 h2, is_had (hdn m ys k) k hl, hdn_at m ys k h]
set_option maxRecDepth 100000 in
set_option maxHeartbeats 4000000 in
theorem specWord_yes (b d m : Nat) (ao : Option Addr) (cap : Nat) (xs : List It) (w : World) (hm : xs.length ≤ 1048576) (hz : ∀ i (h : i < xs.length), xs[i].text.size ≤ 1048576) (hr : Rs w ao xs.length (is xs)) (hao : ao = none → xs.length = 0 ∧ cap = 0) (hv : sdOk (b : Int) xs = true) (hd : d ≤ front xs) (hm8 : m ≤ 255) :
    Calls Try.prog 28 #[.agg #[.int .i64 (b : Int), .slice ao xs.length cap], .int .i64 ((b + d : Nat) : Int), .int .i64 (m : Int)] w fun e w' => WordPost w (b : Int) xs ((b + d : Nat) : Int) (m : Int) e w' := by
  have hok := sdOk_of hv
  have hbb : b ≤ 1000000 := by have := hok.1; unfold HdOk at this; omega
  have hnn : xs.length ≤ 60 := by have := hok.1; unfold HdOk at this; omega
  have hfl := front_le xs
  have HC : Hid (∀ u : World, Rs u ao xs.length (is xs) → Calls Try.prog 52 #[.agg #[.int .i64 (b : Int), .slice ao xs.length cap]] u fun e w' => e = .returned (.bool true) ∧ Below u.heap.size u w') := fun u h => by (have := specValid_any (b : Int) ao cap xs u hm hz h; rw [hv] at this; exact this)
  have HG : Hid (∀ u : World, Rs u ao xs.length (is xs) → Calls Try.prog 54 #[.agg #[.int .i64 (b : Int), .slice ao xs.length cap]] u fun e w' => (∃ g' c, e = .returned (.agg #[.int .i64 (b : Int), .slice (some ⟨g', 0, none⟩) xs.length c]) ∧ w'.ownsRow u.heap.size 87 4 (.slice (some ⟨g', 0, none⟩) xs.length c) xs.length (is xs)) ∧ Below u.heap.size u w') := fun u h => copy_opt (b : Int) ao cap xs u hm h hao
  have HL : Hid (∀ u : World, Rs u ao xs.length (is xs) → Calls Try.prog 63 #[.agg #[.int .i64 (b : Int), .slice ao xs.length cap]] u fun e w' => e = .returned (.int .i64 (front xs : Int)) ∧ Below u.heap.size u w') := fun u h => l4Front_any (b : Int) ao cap xs u hm h
  have R2 : Hid (Rs ((w.alloc (.cells #[.int .i64 (b : Int), .slice ao xs.length cap] 38)).alloc (.cells #[.int .i64 0, .slice none 0 0] 38)) ao xs.length (is xs)) := hr.keep (two_below _ _ _)
  have X0 : Hid (Bx ((w.alloc (.cells #[.int .i64 (b : Int), .slice ao xs.length cap] 38)).alloc (.cells #[.int .i64 0, .slice none 0 0] 38)) w.heap.size 38 #[.int .i64 (b : Int), .slice ao xs.length cap]) := (Bx.new w 38 _).alloc _
  have X1 : Hid (Bx ((w.alloc (.cells #[.int .i64 (b : Int), .slice ao xs.length cap] 38)).alloc (.cells #[.int .i64 0, .slice none 0 0] 38)) (w.heap.size + 1) 38 #[.int .i64 0, .slice none 0 0]) := (by have := Bx.new (w.alloc (.cells #[.int .i64 (b : Int), .slice ao xs.length cap] 38)) 38 #[.int .i64 0, .slice none 0 0]; rw [World.size_alloc] at this; exact this)
  have BB : Hid (Below w.heap.size w ((w.alloc (.cells #[.int .i64 (b : Int), .slice ao xs.length cap] 38)).alloc (.cells #[.int .i64 0, .slice none 0 0] 38))) := two_below _ _ _
  have T0 : Hid (wordOf (b : Int) xs ((b + d : Nat) : Int) (m : Int) = (((b + d : Nat) : Int), hdn m (xs.drop d) 8)) := (by
    rw [wordOf_yes hv]
    unfold heard
    rw [if_pos (by unfold WdOk; omega), show (((b + d : Nat) : Int) - (b : Int)).toNat = d by omega, Int.toNat_natCast, Int.toNat_natCast] : wordOf (b : Int) xs ((b + d : Nat) : Int) (m : Int) = (((b + d : Nat) : Int), hdn m (xs.drop d) 8))
  have HF : Hid (∀ u : World, Calls Try.prog 37 #[.int .i64 (m : Int), .int .i64 0, .int .i64 255] u fun e w' => e = .returned (.bool true) ∧ u = w') := fun u => l1In_true _ 0 255 u (by omega) (by omega)
  obtain ⟨n, hn⟩ : ∃ n, n = b + d := ⟨_, rfl⟩
  rw [← hn] at T0 ⊢
  have hd1 : decide ((n : Int) < (b : Int)) = false := by simp; omega
  have hd2 : decide ((b : Int) + (front xs : Int) < (n : Int)) = false := by simp; omega
  have hd3 : decide (n < b) = false := by simp; omega
  have hd4 : decide (b + front xs < n) = false := by simp; omega
  have hwr : IntKind.i64.wrap ((b : Int) + (front xs : Int)) = (b : Int) + (front xs : Int) := by rw [IntKind.wrap_i64]; omega
  have hdx : d ≤ xs.length := by omega
  have hsub : (n : Int) - (b : Int) = (d : Int) := by omega
  have hnb : n ≤ 1000100 := by omega
  have HN : Hid (n = b + d) := hn
  clear hz hr hv hok hd hfl hn
  generalize front xs = fr at *
  obtain ⟨i0, hi, hz0, hz1, hz2⟩ := info_parts info_item
  go_enter Try.func28, Try.ntmps28
  go_wp2_with (first | (go_at_call 52; refine (HC.out _ R2.out).mono ?_; rintro e w1 ⟨rfl, hb1⟩; (have u0 := (X0.out.keep hb1).cell 0); (have u1 := (X0.out.keep hb1).cell 1); simp at u0 u1) | (go_at_call 54; refine (HG.out _ (R2.out.keep hb1)).mono ?_; rintro e w2 ⟨⟨g2, c2, rfl, ho2⟩, hb2⟩))
  have s1 := hb1.size
  have s2 := hb2.size
  simp only [World.size_alloc] at s1
  obtain ⟨W3, hW3⟩ : ∃ W3, w2.alloc (.cells #[.int .i64 (b : Int), .slice (some ⟨g2, 0, none⟩) xs.length c2] 38) = W3 := ⟨_, rfl⟩
  have Z0 : Bx W3 w.heap.size 38 #[.int .i64 (b : Int), .slice ao xs.length cap] := (by rw [← hW3]; exact ((X0.out.keep hb1).keep hb2).alloc _); have Z1 : Bx W3 (w.heap.size + 1) 38 #[.int .i64 0, .slice none 0 0] := (by rw [← hW3]; exact ((X1.out.keep hb1).keep hb2).alloc _); have Z2 : Bx W3 w2.heap.size 38 #[.int .i64 (b : Int), .slice (some ⟨g2, 0, none⟩) xs.length c2] := (by rw [← hW3]; exact Bx.new w2 _ _); have RW : Hid (Rs W3 ao xs.length (is xs)) := (by rw [← hW3]; exact ((R2.out.keep hb1).keep hb2).keep ((Below.refl _ _).alloc (Nat.le_refl _) _)); have oW : W3.ownsRow w1.heap.size 87 4 (.slice (some ⟨g2, 0, none⟩) xs.length c2) xs.length (is xs) := (by rw [← hW3]; exact ho2.alloc _); have BW : Below w.heap.size w W3 := (by rw [← hW3]; exact (kb (kb BB.out hb1 (Nat.le_refl _)) hb2 (Nat.le_refl _)).alloc (kb (kb BB.out hb1 (Nat.le_refl _)) hb2 (Nat.le_refl _)).size _); have a0 : W3.cell? ⟨w.heap.size, 0, none⟩ = some (.int .i64 (b : Int)) := Z0.cell 0; have a1 : W3.cell? ⟨w.heap.size, 1, none⟩ = some (.slice ao xs.length cap) := Z0.cell 1
  rw [hW3]
  clear hW3 X0 X1 R2 BB HC HG hb1 hb2 ho2 u0 u1
  go_region_held3 (fun w' => w'.cell? ⟨w.heap.size, 0, none⟩ = some (.int .i64 (b : Int)) ∧ w'.cell? ⟨w.heap.size, 1, none⟩ = some (.slice ao xs.length cap) ∧ Below W3.heap.size W3 w') (first | assumption | exact ⟨a0, a1, (Below.refl _ _).drew⟩ | (go_split_ands; exact ⟨(Z0.keep (kb (by assumption) hb4 (Nat.le_refl _))).cell 0, (Z0.keep (kb (by assumption) hb4 (Nat.le_refl _))).cell 1, kb (by assumption) hb4 (Nat.le_refl _)⟩)) (first | (go_at_call 63; refine (HL.out _ (RW.out.keep (by go_split_ands; assumption))).mono ?_; rintro e w4 ⟨rfl, hb4⟩) | (go_at_call 37; refine (HF.out _).mono ?_; rintro e w' ⟨rfl, rfl⟩))
  have hU : Below W3.heap.size W3 w4 := by go_split_ands; assumption
  have v0 := (Z2.keep hU).cell 0
  have v1 := (Z2.keep hU).cell 1
  have vf := (Z2.keep hU).frozen 0
  have vg := (Z2.keep hU).frozen 1
  have e0 : w4.cell? ⟨w.heap.size, 0, none⟩ = some (.int .i64 (b : Int)) := (Z0.keep hU).cell 0
  have oU := owns_keep oW hU
  have bU := kb BW hU (Nat.le_refl _)
  simp at v0 v1
  have l0 := (Z0.keep hU).lt
  have l1 := (Z1.keep hU).lt
  have l2 := (Z2.keep hU).lt
  have hcap : xs.length ≤ c2 := by
    obtain ⟨ao, cap', he, h1, h2, h3⟩ := rs_of_owns oU
    cases he
    exact h1
  have hdn : (d : Int) ≤ (xs.length : Int) := by omega
  have s3 := BW.size
  have OU : Hid (w4.ownsRow w1.heap.size 87 4 (.slice (some ⟨g2, 0, none⟩) xs.length c2) xs.length (is xs)) := oU
  have ZZ2 : Hid (Bx w4 w2.heap.size 38 #[.int .i64 (b : Int), .slice (some ⟨g2, 0, none⟩) xs.length c2]) := Z2.keep hU
  have ZZ1 : Hid (Bx w4 (w.heap.size + 1) 38 #[.int .i64 0, .slice none 0 0]) := Z1.keep hU
  have BU : Hid (Below w.heap.size w w4) := bU
  obtain ⟨ys, hys⟩ : ∃ ys, ys = xs.drop d := ⟨_, rfl⟩
  have hyl : ys.length = xs.length - d := by rw [hys, List.length_drop]
  clear oU oW Z0 Z1 Z2 bU BW
  rcases Nat.lt_or_ge d xs.length with hdc | hdc
  · have hdc1 : d < c2 := by omega
    have hdc2 : (d : Int) < (c2 : Int) := by omega
    have hn0 : ¬ xs.length - d = 0 := by omega
    have HYS : Hid (ys = xs.drop d) := hys
    have HYX : Hid (ys.length = xs.length - d) := hyl
    obtain ⟨L, hL⟩ : ∃ L, L = xs.length - d := ⟨_, rfl⟩
    have HLL : Hid (L = xs.length - d) := hL
    have HYL : Hid (ys.length = L) := hyl.trans hL.symm
    clear hys hyl hL
    go_wp2_with (at_builtin; go_must (refine wpList_append_own _ rfl _ _ 36 rfl w4.heap.size 87 i0 (.agg #[.string ⟨#[]⟩, .bool false, .bool false, .int .i64 0]) 4 40 Try.underlying36 hi hz0 hz1 hz2 rfl (by decide) (.slice (some ⟨w4.heap.size, 0, none⟩) 0 0) 0 [] rfl (World.ownsRow_lit w4 #[] 0 (Nat.le_refl _) (Nat.zero_le _) rfl) ⟨g2, d * 4, none⟩ (xs.length - d) (c2 - d) (is ys) rfl (by rw [is_length, HYX.out]) (by rw [HYS.out]; exact drop_cells (OU.out.alloc _) d) (is_one _) (by unfold maxLen; omega) (by omega) (by simp) ?_); intro v' w5 hown' hgrow _; rw [Nat.zero_add, List.nil_append, ← HLL.out] at hown'; obtain ⟨g5, c5, rfl, hg5⟩ := owns_pos hown' (by have := HLL.out; omega); (have X2 := (ZZ2.out.alloc (.cells #[] 87)).kept hgrow (by simp [Value.ownBlock]; omega)); (have X1 := (ZZ1.out.alloc (.cells #[] 87)).kept hgrow (by simp [Value.ownBlock]; omega)); (have q0 := X2.cell 0); (have q1 := X2.cell 1); (have f0 := X2.frozen 0); (have f1 := X2.frozen 1); simp at q0 q1)
    have B5 : Below w.heap.size w w5 := (BU.out.alloc BU.out.size _).grown hgrow (by have := BU.out.size; simp; omega) (fun k hk => by simp [Value.ownBlock] at hk; have := BU.out.size; omega)
    have hg6 := BU.out.size
    obtain ⟨W6, hW6⟩ : ∃ W6, (w5.setCell ⟨w2.heap.size, 1, none⟩ (.slice (some ⟨g5, 0, none⟩) L c5)).setCell ⟨w2.heap.size, 0, none⟩ (.int .i64 (n : Int)) = W6 := ⟨_, rfl⟩
    have Y2 : Bx W6 w2.heap.size 38 #[.int .i64 (n : Int), .slice (some ⟨g5, 0, none⟩) L c5] := by rw [← hW6]; exact (X2.put 1 _).put 0 _
    have Y1 : Bx W6 (w.heap.size + 1) 38 #[.int .i64 0, .slice none 0 0] := by rw [← hW6]; exact (X1.other _ (by show w.heap.size + 1 ≠ w2.heap.size; omega) _).other _ (by show w.heap.size + 1 ≠ w2.heap.size; omega) _
    have OR : W6.ownsRow w4.heap.size 87 4 (.slice (some ⟨g5, 0, none⟩) L c5) L (is ys) := by rw [← hW6]; exact ownsRow_setCell_other (ownsRow_setCell_other hown' (a := ⟨w2.heap.size, 1, none⟩) (by simp [Value.ownBlock]; omega) _) (a := ⟨w2.heap.size, 0, none⟩) (by simp [Value.ownBlock]; omega) _
    have B6 : Below w.heap.size w W6 := by rw [← hW6]; exact (B5.setCell (p := ⟨w2.heap.size, 1, none⟩) (by show w.heap.size ≤ w2.heap.size; omega) _).setCell (p := ⟨w2.heap.size, 0, none⟩) (by show w.heap.size ≤ w2.heap.size; omega) _
    rw [hW6]
    clear hW6 X2 X1 hown' B5 q0 q1 f0 f1
    go_loopw [2, 8] (fun q i wr => ∃ k : Nat, k ≤ 8 ∧ i = .int .i64 k ∧ q = .int .i64 ((m / 2 ^ k : Nat) : Int) ∧ Bx wr w2.heap.size 38 #[.int .i64 (n : Int), .slice (some ⟨g5, 0, none⟩) L c5] ∧ Bx wr (w.heap.size + 1) 38 #[.int .i64 0, .slice none 0 0] ∧ wr.ownsRow w4.heap.size 87 4 (.slice (some ⟨g5, 0, none⟩) L c5) L (is (mk.hdn m ys k)) ∧ Below w.heap.size w wr) (fun _ i _ => 8 - (intOf i).toNat)
    case atStart => exact ⟨0, by omega, rfl, by simp, Y2, Y1, OR, B6⟩
    case round =>
      clear Y2 Y1 OR B6
      obtain ⟨k, hk, rfl, rfl, y2, y1, oo, bb⟩ := hrel
      have e0 := y2.cell 0
      have e1 := y2.cell 1
      simp at e0 e1
      have OO : Hid (wr.ownsRow w4.heap.size 87 4 (.slice (some ⟨g5, 0, none⟩) L c5) L (is (mk.hdn m ys k))) := oo
      have YY2 : Hid (Bx wr w2.heap.size 38 #[.int .i64 (n : Int), .slice (some ⟨g5, 0, none⟩) L c5]) := y2
      have YY1 : Hid (Bx wr (w.heap.size + 1) 38 #[.int .i64 0, .slice none 0 0]) := y1
      have hlen := oo.1
      clear oo
      obtain ⟨q, hq⟩ : ∃ q, q = m / 2 ^ k := ⟨_, rfl⟩
      have hqb : q ≤ 255 := by rw [hq]; exact Nat.le_trans (Nat.div_le_self _ _) hm8
      rw [← hq]
      have HQ : Hid (q = m / 2 ^ k) := hq
      have HQ2 : Hid (q / 2 = m / 2 ^ (k + 1)) := (by rw [hq]; exact half m k : q / 2 = m / 2 ^ (k + 1))
      clear hq
      by_cases hk8 : k < 8
      · have hk8i : (k : Int) < 8 := by omega
        by_cases hbit : q % 2 = 1
        · have hbi : (q : Int) % 2 = 1 := by omega
          by_cases hkl : k < L
          · have hkli : (k : Int) < (L : Int) := by omega
            have hky : k < ys.length := by have := HYL.out; omega
            have hkh : k < (mk.hdn m ys k).length := by rw [hdn_length]; exact hky
            obtain ⟨r0, r1, r2, r3⟩ := is_at (mk.hdn m ys k) k hkh
            rw [hdn_at m ys k hky] at r0 r1 r2 r3
            have c2' := (OO.out.cellAt (k * 4 + 2) (by omega)).trans r2
            have c3' := (OO.out.cellAt (k * 4 + 3) (by omega)).trans r3
            have f2' := OO.out.frozenAt (k * 4 + 2)
            have HNO : Hid (¬ (0 ≤ ys[k].since) → mk.hdn m ys (k + 1) = mk.hdn m ys k) := fun h => hdn_no m ys k (fun _ h2 => h (by have := h2.2; rw [List.getElem?_eq_getElem hky] at this; simpa using this))
            have HYES : Hid (0 ≤ ys[k].since → is (mk.hdn m ys (k + 1)) = (is (mk.hdn m ys k)).set (k * 4 + 2) (.bool true)) := fun h => hdn_yes' m ys k hky (by rw [← HQ.out]; exact hbit) h
            clear r0 r1 r2 r3 hkh
            generalize ys[k].since = z at *
            generalize ys[k].has = hh at *
            by_cases hs : 0 ≤ z
            · go_wp2
              refine ⟨⟨k + 1, by omega, by go_num, by have := HQ2.out; go_num, YY2.out.other _ (by show w2.heap.size ≠ g5; omega) _, YY1.out.other _ (by show w.heap.size + 1 ≠ g5; omega) _, by rw [HYES.out hs]; exact (OO.out.stored (k * 4 + 2) (.bool true)).1, bb.setCell (p := ⟨g5, k * 4 + 2, none⟩) (by show w.heap.size ≤ g5; omega) _⟩, by simp [intOf] <;> omega⟩
            · go_wp2
              refine ⟨⟨k + 1, by omega, by go_num, by have := HQ2.out; go_num, YY2.out, YY1.out, by rw [HNO.out hs]; exact OO.out, bb⟩, by simp [intOf] <;> omega⟩
          · have hkli : decide ((k : Int) < (L : Int)) = false := by simp; omega
            have HNO : Hid (mk.hdn m ys (k + 1) = mk.hdn m ys k) := hdn_no m ys k (fun h => by have := HYL.out; omega)
            go_wp2
            refine ⟨⟨k + 1, by omega, by go_num, by have := HQ2.out; go_num, YY2.out, YY1.out, by rw [HNO.out]; exact OO.out, bb⟩, by simp [intOf] <;> omega⟩
        · have hbi : (q : Int) % 2 = 0 := by omega
          have HNO : Hid (mk.hdn m ys (k + 1) = mk.hdn m ys k) := hdn_no m ys k (fun _ h => hbit (by rw [HQ.out]; exact h.1))
          go_wp2
          refine ⟨⟨k + 1, by omega, by go_num, by have := HQ2.out; go_num, YY2.out, YY1.out, by rw [HNO.out]; exact OO.out, bb⟩, by simp [intOf] <;> omega⟩
      · obtain rfl : k = 8 := by omega
        have x0 := YY1.out.cell 0
        have x1 := YY1.out.cell 1
        have z0 := YY1.out.frozen 0
        have z1 := YY1.out.frozen 1
        simp at x0 x1
        go_wp2
        have e8 : (mk.hdn m (xs.drop d) 8).length = L := by rw [hdn_length, ← HYS.out, HYL.out]
        have P4 := ownsRow_setCell_other (ownsRow_setCell_other OO.out (a := ⟨w.heap.size + 1, 0, none⟩) (by simp [Value.ownBlock]; omega) (.int .i64 (n : Int))) (a := ⟨w.heap.size + 1, 1, none⟩) (by simp [Value.ownBlock]; omega) (.slice (some ⟨g5, 0, none⟩) L c5)
        refine bodyPost_ret (v := .agg #[.int .i64 (n : Int), .slice (some ⟨g5, 0, none⟩) L c5]) (by simp [results, Try.results28, go_sem, x0, x1]) rfl ?_
        unfold WordPost
        rw [T0.out]
        refine ⟨⟨some ⟨g5, 0, none⟩, c5, ?_, ?_⟩, (bb.setCell (p := ⟨w.heap.size + 1, 0, none⟩) (by simp) _).setCell (p := ⟨w.heap.size + 1, 1, none⟩) (by simp) _⟩
        · dsimp only
          rw [e8]
        · dsimp only
          rw [e8, ← HYS.out]
          exact owns_mono P4 (by omega)
  · obtain rfl : d = xs.length := by omega
    have HYS : Hid (ys = xs.drop xs.length) := hys
    have HYL : Hid (ys.length = 0) := (by rw [hyl]; omega : ys.length = 0)
    clear hys hyl hdc
    go_wp2
    all_goals
      obtain ⟨W6, hW6⟩ : ∃ W6, ((w4.setCell ⟨w2.heap.size, 1, none⟩ (.slice (some ⟨w4.heap.size, 0, none⟩) 0 0)).setCell ⟨w2.heap.size, 0, none⟩ (.int .i64 (n : Int))).alloc (.cells #[] 87) = W6 := ⟨_, rfl⟩
      have Y2 : Bx W6 w2.heap.size 38 #[.int .i64 (n : Int), .slice (some ⟨w4.heap.size, 0, none⟩) 0 0] := by rw [← hW6]; exact ((ZZ2.out.put 1 _).put 0 _).alloc _
      have Y1 : Bx W6 (w.heap.size + 1) 38 #[.int .i64 0, .slice none 0 0] := by rw [← hW6]; exact ((ZZ1.out.other _ (by show w.heap.size + 1 ≠ w2.heap.size; omega) _).other _ (by show w.heap.size + 1 ≠ w2.heap.size; omega) _).alloc _
      have OR : W6.ownsRow w4.heap.size 87 4 (.slice (some ⟨w4.heap.size, 0, none⟩) 0 0) 0 (is ys) := by
        rw [← hW6, List.eq_nil_of_length_eq_zero HYL.out]
        exact owns1 _ _ (by simp) _ (by simp)
      have B6 : Below w.heap.size w W6 := by rw [← hW6]; exact ((BU.out.setCell (p := ⟨w2.heap.size, 1, none⟩) (by show w.heap.size ≤ w2.heap.size; omega) _).setCell (p := ⟨w2.heap.size, 0, none⟩) (by show w.heap.size ≤ w2.heap.size; omega) _).alloc (by have := BU.out.size; simp; omega) _
      have hg6 := BU.out.size
      rw [hW6]
      clear hW6
      go_loopw [2, 8] (fun q i wr => ∃ k : Nat, k ≤ 8 ∧ i = .int .i64 k ∧ q = .int .i64 ((m / 2 ^ k : Nat) : Int) ∧ Bx wr w2.heap.size 38 #[.int .i64 (n : Int), .slice (some ⟨w4.heap.size, 0, none⟩) 0 0] ∧ Bx wr (w.heap.size + 1) 38 #[.int .i64 0, .slice none 0 0] ∧ wr.ownsRow w4.heap.size 87 4 (.slice (some ⟨w4.heap.size, 0, none⟩) 0 0) 0 (is (mk.hdn m ys k)) ∧ Below w.heap.size w wr) (fun _ i _ => 8 - (intOf i).toNat)
      case atStart => exact ⟨0, by omega, rfl, by simp, Y2, Y1, OR, B6⟩
      case round =>
        clear Y2 Y1 OR B6
        obtain ⟨k, hk, rfl, rfl, y2, y1, oo, bb⟩ := hrel
        have e0 := y2.cell 0
        have e1 := y2.cell 1
        simp at e0 e1
        have OO : Hid (wr.ownsRow w4.heap.size 87 4 (.slice (some ⟨w4.heap.size, 0, none⟩) 0 0) 0 (is (mk.hdn m ys k))) := oo
        have YY2 : Hid (Bx wr w2.heap.size 38 #[.int .i64 (n : Int), .slice (some ⟨w4.heap.size, 0, none⟩) 0 0]) := y2
        have YY1 : Hid (Bx wr (w.heap.size + 1) 38 #[.int .i64 0, .slice none 0 0]) := y1
        have hlen := oo.1
        clear oo
        obtain ⟨q, hq⟩ : ∃ q, q = m / 2 ^ k := ⟨_, rfl⟩
        have hqb : q ≤ 255 := by rw [hq]; exact Nat.le_trans (Nat.div_le_self _ _) hm8
        rw [← hq]
        have HQ : Hid (q = m / 2 ^ k) := hq
        have HQ2 : Hid (q / 2 = m / 2 ^ (k + 1)) := (by rw [hq]; exact half m k : q / 2 = m / 2 ^ (k + 1))
        clear hq
        by_cases hk8 : k < 8
        · have hk8i : (k : Int) < 8 := by omega
          by_cases hbit : q % 2 = 1
          · have hbi : (q : Int) % 2 = 1 := by omega
            have hkli : decide ((k : Int) < 0) = false := decide_eq_false (by omega)
            have HNO : Hid (mk.hdn m ys (k + 1) = mk.hdn m ys k) := hdn_no m ys k (fun h => by have := HYL.out; omega)
            go_wp2
            refine ⟨⟨k + 1, by omega, by go_num, by have := HQ2.out; go_num, YY2.out, YY1.out, by rw [HNO.out]; exact OO.out, bb⟩, by simp [intOf] <;> omega⟩
          · have hbi : (q : Int) % 2 = 0 := by omega
            have HNO : Hid (mk.hdn m ys (k + 1) = mk.hdn m ys k) := hdn_no m ys k (fun _ h => hbit (by rw [HQ.out]; exact h.1))
            go_wp2
            refine ⟨⟨k + 1, by omega, by go_num, by have := HQ2.out; go_num, YY2.out, YY1.out, by rw [HNO.out]; exact OO.out, bb⟩, by simp [intOf] <;> omega⟩
        · obtain rfl : k = 8 := by omega
          have x0 := YY1.out.cell 0
          have x1 := YY1.out.cell 1
          have z0 := YY1.out.frozen 0
          have z1 := YY1.out.frozen 1
          simp at x0 x1
          go_wp2
          have e8 : (mk.hdn m (xs.drop xs.length) 8).length = 0 := by rw [hdn_length, ← HYS.out, HYL.out]
          have P4 := ownsRow_setCell_other (ownsRow_setCell_other OO.out (a := ⟨w.heap.size + 1, 0, none⟩) (by simp [Value.ownBlock]; omega) (.int .i64 (n : Int))) (a := ⟨w.heap.size + 1, 1, none⟩) (by simp [Value.ownBlock]; omega) (.slice (some ⟨w4.heap.size, 0, none⟩) 0 0)
          refine bodyPost_ret (v := .agg #[.int .i64 (n : Int), .slice (some ⟨w4.heap.size, 0, none⟩) 0 0]) (by simp [results, Try.results28, go_sem, x0, x1]) rfl ?_
          unfold WordPost
          rw [T0.out]
          refine ⟨⟨some ⟨w4.heap.size, 0, none⟩, 0, ?_, ?_⟩, (bb.setCell (p := ⟨w.heap.size + 1, 0, none⟩) (by simp) _).setCell (p := ⟨w.heap.size + 1, 1, none⟩) (by simp) _⟩
          · dsimp only
            rw [e8]
          · dsimp only
            rw [e8, ← HYS.out]
            exact owns_mono P4 (by omega)
end Go.Proofs.Yteceaadmgpjmcaa.mk

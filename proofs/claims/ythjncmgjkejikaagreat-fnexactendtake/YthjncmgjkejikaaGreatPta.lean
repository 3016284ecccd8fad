import Derived.Test.YthjncmgjkejikaaGreatRgQ
import Derived.Test.YthjncmgjkejikaaGreatCpT
import Derived.Test.YthjncmgjkejikaaGreatRgJ0
/-
  TAKING IN: spec.l5In.
-/
namespace Go.Proofs.YthjncmgjkejikaaGreat.mk
open Go.RowKit
set_option linter.unusedVariables false

theorem hs_drop1 (xs : List Hd) : hs (xs.drop 1) = (hs xs).drop 3 := by
  cases xs with
  | nil => rfl
  | cons x ys => rfl
theorem hdrop_cells {w : World} {base g n cap : Nat} {e : TypeId} {xs : List Hd} (h : w.ownsRow base e 3 (.slice (some ⟨g, 0, none⟩) n cap) n (hs xs)) : ∀ j u, (hs (xs.drop 1))[j]? = some u → w.cell? ((⟨g, 3, none⟩ : Addr).add j) = some u := by
  intro j u hj
  rw [hs_drop1, List.getElem?_drop] at hj
  have hl : 3 + j < (hs xs).length := by
    rcases Nat.lt_or_ge (3 + j) (hs xs).length with q | q
    · exact q
    · rw [List.getElem?_eq_none q] at hj; simp at hj
  have ea : (⟨g, 3, none⟩ : Addr).add j = ⟨g, 3 + j, none⟩ := by unfold Addr.add; split <;> simp_all
  rw [ea, h.cellAt (3 + j) (by rw [← h.1]; exact hl), hj]
theorem cons_drop {x : Hd} {xs : List Hd} (h : 0 < xs.length) (hx : x = xs[0]) : tin xs = tin (x :: xs.drop 1) := by
  cases xs with
  | nil => simp at h
  | cons y ys => rw [hx]; rfl
theorem drop_small {xs : List Hd} (h : ∀ i (h : i < xs.length), xs[i].seq < 1000000 ∧ xs[i].text.size ≤ 20) : ∀ i (h : i < (xs.drop 1).length), (xs.drop 1)[i].seq < 1000000 ∧ (xs.drop 1)[i].text.size ≤ 20 := by
  intro i hi
  rw [List.getElem_drop]
  exact h (1 + i) (by rw [List.length_drop] at hi; omega)
theorem one_cell {W : World} {H j : Nat} {s : ByteArray} {u : Value} (h : (W.alloc (.cells #[.string s] 9)).cell? ⟨H, 0, none⟩ = some (.string s)) (hj : ([.string s] : List Value)[j]? = some u) : (W.alloc (.cells #[.string s] 9)).cell? ((⟨H, 0, none⟩ : Addr).add j) = some u := by
  cases j with
  | zero => simp at hj; rw [← hj]; exact h
  | succ j => simp at hj
/-- a Take in the making: its box, its rows -/
structure Lt (base B : Nat) (nx : Nat) (xs : List Hd) (o : ByteArray) (rs : List ByteArray) (hv rv : Value) (w : World) : Prop where
  box : Bx w B 37 #[.int .i64 (nx : Int), hv, .string o, rv]
  held : w.ownsRow base 95 3 hv xs.length (hs xs)
  ready : w.ownsRow base 9 1 rv rs.length (ss rs)
  small : ∀ i (h : i < xs.length), xs[i].seq < 1000000 ∧ xs[i].text.size ≤ 20
  opn : o.size ≤ 200
  many : rs.length ≤ 4
  len : xs.length ≤ 9
  le : nx ≤ 1000000
def nextAt (w : World) (B : Nat) : Nat := match w.cell? ⟨B, 0, none⟩ with
  | some (.int _ z) => z.toNat
  | _ => 0
theorem Lt.nextAt {base B nx : Nat} {xs : List Hd} {o : ByteArray} {rs : List ByteArray} {hv rv : Value} {w : World} (h : Lt base B nx xs o rs hv rv w) : nextAt w B = nx := by
  unfold mk.nextAt
  rw [h.box.cell 0]
  simp
theorem Lt.keep {base B nx : Nat} {xs : List Hd} {o : ByteArray} {rs : List ByteArray} {hv rv : Value} {w w' : World} (h : Lt base B nx xs o rs hv rv w) (hb : Below w.heap.size w w') : Lt base B nx xs o rs hv rv w' := ⟨h.box.keep hb, owns_keep h.held hb, owns_keep h.ready hb, h.small, h.opn, h.many, h.len, h.le⟩
set_option maxRecDepth 100000 in
set_option maxHeartbeats 2000000 in
theorem l5In_any (base nx : Nat) (xs : List Hd) (o : ByteArray) (rs : List ByteArray) (hv rv : Value) (w : World) (h1 : w.ownsRow base 95 3 hv xs.length (hs xs)) (h2 : w.ownsRow base 9 1 rv rs.length (ss rs)) (hsm : ∀ i (h : i < xs.length), xs[i].seq < 1000000 ∧ xs[i].text.size ≤ 20) (ho : o.size ≤ 200) (hm : rs.length ≤ 4) (hl9 : xs.length ≤ 9) (hle : nx ≤ 1000000) (hbs : base ≤ w.heap.size) :
    Calls Tryz.prog 80 #[.agg #[.int .i64 (nx : Int), hv, .string o, rv]] w fun e w' => (∃ hv' rv', e = .returned (.agg #[.int .i64 (((tin xs nx o rs).1 : Nat) : Int), hv', .string (tin xs nx o rs).2.2.1, rv']) ∧ w'.ownsRow base 95 3 hv' (tin xs nx o rs).2.1.length (hs (tin xs nx o rs).2.1) ∧ w'.ownsRow base 9 1 rv' (tin xs nx o rs).2.2.2.length (ss (tin xs nx o rs).2.2.2)) ∧ Below base w w' := by
  obtain ⟨T, hT⟩ : ∃ T, T = tin xs nx o rs := ⟨_, rfl⟩
  rw [← hT]
  have HT : Hid (T = tin xs nx o rs) := hT
  obtain ⟨ao, ca, rfl, -, -, -⟩ := rs_of_owns h1
  obtain ⟨so, cs, rfl, -, -, -⟩ := rs_of_owns h2
  have b2 : Below w.heap.size w ((w.alloc (.cells #[.int .i64 (nx : Int), .slice ao xs.length ca, .string o, .slice so rs.length cs] 37)).alloc (.cells #[.int .i64 0, .slice none 0 0, .string ⟨#[]⟩, .slice none 0 0] 37)) := ((Below.refl _ _).alloc (Nat.le_refl _) _).alloc (by simp) _
  have L0 : Hid (Lt base w.heap.size nx xs o rs (.slice ao xs.length ca) (.slice so rs.length cs) ((w.alloc (.cells #[.int .i64 (nx : Int), .slice ao xs.length ca, .string o, .slice so rs.length cs] 37)).alloc (.cells #[.int .i64 0, .slice none 0 0, .string ⟨#[]⟩, .slice none 0 0] 37))) := (⟨(Bx.new w _ _).alloc _, owns_keep h1 b2, owns_keep h2 b2, hsm, ho, hm, hl9, hle⟩ : Lt base w.heap.size nx xs o rs (.slice ao xs.length ca) (.slice so rs.length cs) ((w.alloc (.cells #[.int .i64 (nx : Int), .slice ao xs.length ca, .string o, .slice so rs.length cs] 37)).alloc (.cells #[.int .i64 0, .slice none 0 0, .string ⟨#[]⟩, .slice none 0 0] 37)))
  have Z0 : Hid (Bx ((w.alloc (.cells #[.int .i64 (nx : Int), .slice ao xs.length ca, .string o, .slice so rs.length cs] 37)).alloc (.cells #[.int .i64 0, .slice none 0 0, .string ⟨#[]⟩, .slice none 0 0] 37)) (w.heap.size + 1) 37 #[.int .i64 0, .slice none 0 0, .string ⟨#[]⟩, .slice none 0 0]) := (by have := Bx.new (w.alloc (.cells #[.int .i64 (nx : Int), .slice ao xs.length ca, .string o, .slice so rs.length cs] 37)) 37 #[.int .i64 0, .slice none 0 0, .string ⟨#[]⟩, .slice none 0 0]; rw [World.size_alloc] at this; exact this : Bx ((w.alloc (.cells #[.int .i64 (nx : Int), .slice ao xs.length ca, .string o, .slice so rs.length cs] 37)).alloc (.cells #[.int .i64 0, .slice none 0 0, .string ⟨#[]⟩, .slice none 0 0] 37)) (w.heap.size + 1) 37 #[.int .i64 0, .slice none 0 0, .string ⟨#[]⟩, .slice none 0 0])
  have BB : Hid (Below base w ((w.alloc (.cells #[.int .i64 (nx : Int), .slice ao xs.length ca, .string o, .slice so rs.length cs] 37)).alloc (.cells #[.int .i64 0, .slice none 0 0, .string ⟨#[]⟩, .slice none 0 0] 37))) := b2.mono hbs
  clear h1 h2 hT b2 hsm
  go_enter Tryz.func80, Tryz.ntmps80
  go_wp2
  go_loopw [3] (fun _ wr => ∃ (nx : Nat) (xs : List Hd) (o : ByteArray) (rs : List ByteArray) (hv rv : Value), Lt base w.heap.size nx xs o rs hv rv wr ∧ Bx wr (w.heap.size + 1) 37 #[.int .i64 0, .slice none 0 0, .string ⟨#[]⟩, .slice none 0 0] ∧ T = tin xs nx o rs ∧ Below base w wr) (fun _ wr => 1000001 - nextAt wr w.heap.size)
  case atStart => exact ⟨nx, xs, o, rs, _, _, L0.out, Z0.out, HT.out, BB.out⟩
  case round =>
    clear L0 Z0 HT BB
    obtain ⟨nx, xs, o, rs, hv, rv, hL, hZ, hT, hbel⟩ := hrel
    obtain ⟨ao, ca, rfl, hca, -, hrh⟩ := rs_of_owns hL.held
    obtain ⟨so, cs, rfl, -, -, -⟩ := rs_of_owns hL.ready
    have c0 := hL.box.cell 0
    have c1 := hL.box.cell 1
    have c2 := hL.box.cell 2
    have c3 := hL.box.cell 3
    simp at c0 c1 c2 c3
    have hle := hL.le
    have hmany := hL.many
    have hopn := hL.opn
    have hlen := hL.len
    obtain ⟨W0, hW0⟩ : ∃ W0, W0 = wr := ⟨_, rfl⟩
    rw [← hW0] at c0 c1 c2 c3 hL hZ hbel hrh ⊢
    clear hW0
    have HL : Hid (Lt base w.heap.size nx xs o rs (.slice ao xs.length ca) (.slice so rs.length cs) W0) := hL
    have HZ : Hid (Bx W0 (w.heap.size + 1) 37 #[.int .i64 0, .slice none 0 0, .string ⟨#[]⟩, .slice none 0 0]) := hZ
    have HT : Hid (T = tin xs nx o rs) := hT
    have HBL : Hid (Below base w W0) := hbel
    clear hL hZ hT hbel
    have hz1 := HZ.out.lt
    by_cases hpos : 0 < xs.length
    · obtain ⟨g, rfl, hg, hgc⟩ : ∃ g, ao = some ⟨g, 0, none⟩ ∧ g < W0.heap.size ∧ ∀ j, j < (hs xs).length → W0.cell? ⟨g, j, none⟩ = (hs xs)[j]? := by
        rcases hrh.ex with e | e
        · omega
        · exact e
      have hhl := hs_length xs
      obtain ⟨k0', k1', k2'⟩ := hs_at xs 0 hpos
      have k0 := (hgc 0 (by omega)).trans k0'
      have k1 := (hgc 1 (by omega)).trans k1'
      have k2 := (hgc 2 (by omega)).trans k2'
      have dl : decide ((0 : Int) < (xs.length : Int)) = true := decide_eq_true (by omega)
      have hsm0 := HL.out.small 0 hpos
      have HCA : Hid (∀ u : World, Calls Tryz.prog 87 #[.agg #[.int .i64 (nx : Int), .slice (some ⟨g, 0, none⟩) xs.length ca, .string o, .slice so rs.length cs], .agg #[.string xs[0].text, .bool xs[0].last]] u fun e w' => e = .returned (.bool (decide (CanIn o rs.length xs[0].text xs[0].last))) ∧ Below u.heap.size u w') := fun u => l5Can_any _ _ _ _ _ _ _ _ _ _ u (by omega) (by omega) (by omega)
      obtain ⟨x, hx⟩ : ∃ x, x = xs[0] := ⟨_, rfl⟩
      rw [← hx] at k0 k1 k2 hsm0 HCA
      have HX : Hid (x = xs[0]) := hx
      clear hgc hrh k0' k1' k2' hhl hx
      by_cases hq : x.seq = (nx : Int)
      · by_cases hcan : CanIn o rs.length x.text x.last
        · have dc : decide (CanIn o rs.length x.text x.last) = true := decide_eq_true hcan
          rw [dc] at HCA
          rw [hq] at k0
          go_wp2
          refine wp_region_held_drew (S := (fun w' => Below W0.heap.size W0 w')) (by kernel_rfl) ?_ (fun hHeld => ?_)
          · exact (Below.refl _ _).drew
          refine tkF 0 (some 4) ?_
          refine tkE 1 (some 5) ?_ ?_ ?_
          rotate_left
          · (intro w hSw; (have hc0 := cell_keep c0 hSw); (have hc1 := cell_keep c1 hSw); (have hc2 := cell_keep c2 hSw); (have hc3 := cell_keep c3 hSw); (have hk0 := cell_keep k0 hSw); (have hk1 := cell_keep k1 hSw); (have hk2 := cell_keep k2 hSw); go_simp <;> with_reducible rfl)
          refine tkF 2 (some 6) ?_
          refine tkF 3 (some 7) ?_
          refine tkF 4 (some 8) ?_
          refine tkF 5 (some 9) ?_
          refine tkE 6 (some 10) ?_ ?_ ?_
          rotate_left
          · (intro w hSw; (have hc0 := cell_keep c0 hSw); (have hc1 := cell_keep c1 hSw); (have hc2 := cell_keep c2 hSw); (have hc3 := cell_keep c3 hSw); (have hk0 := cell_keep k0 hSw); (have hk1 := cell_keep k1 hSw); (have hk2 := cell_keep k2 hSw); go_simp <;> with_reducible rfl)
          refine tkF 7 (some 11) ?_
          refine tkF 8 (some 12) ?_
          refine tkE 9 (some 13) ?_ ?_ ?_
          rotate_left
          · (intro w hSw; (have hc0 := cell_keep c0 hSw); (have hc1 := cell_keep c1 hSw); (have hc2 := cell_keep c2 hSw); (have hc3 := cell_keep c3 hSw); (have hk0 := cell_keep k0 hSw); (have hk1 := cell_keep k1 hSw); (have hk2 := cell_keep k2 hSw); go_simp <;> with_reducible rfl)
          refine tkF 10 (some 14) ?_
          refine tkE 11 (some 15) ?_ ?_ ?_
          rotate_left
          · (intro w hSw; (have hc0 := cell_keep c0 hSw); (have hc1 := cell_keep c1 hSw); (have hc2 := cell_keep c2 hSw); (have hc3 := cell_keep c3 hSw); (have hk0 := cell_keep k0 hSw); (have hk1 := cell_keep k1 hSw); (have hk2 := cell_keep k2 hSw); go_simp <;> with_reducible rfl)
          refine tkF 12 (some 16) ?_
          refine tkF 13 (some 17) ?_
          refine tkF 14 (some 18) ?_
          refine tkE 15 (some 19) ?_ ?_ ?_
          rotate_left
          · (intro w hSw; (have hc0 := cell_keep c0 hSw); (have hc1 := cell_keep c1 hSw); (have hc2 := cell_keep c2 hSw); (have hc3 := cell_keep c3 hSw); (have hk0 := cell_keep k0 hSw); (have hk1 := cell_keep k1 hSw); (have hk2 := cell_keep k2 hSw); go_simp <;> with_reducible rfl)
          refine tkF 16 (some 20) ?_
          refine tkE 17 (some 21) ?_ ?_ ?_
          rotate_left
          · (intro w hSw; (have hc0 := cell_keep c0 hSw); (have hc1 := cell_keep c1 hSw); (have hc2 := cell_keep c2 hSw); (have hc3 := cell_keep c3 hSw); (have hk0 := cell_keep k0 hSw); (have hk1 := cell_keep k1 hSw); (have hk2 := cell_keep k2 hSw); go_simp <;> with_reducible rfl)
          refine tkF 18 (some 22) ?_
          refine tkF 19 (some 23) ?_
          refine tkE 20 (some 24) ?_ ?_ ?_
          rotate_left
          · (intro w hSw; (have hc0 := cell_keep c0 hSw); (have hc1 := cell_keep c1 hSw); (have hc2 := cell_keep c2 hSw); (have hc3 := cell_keep c3 hSw); (have hk0 := cell_keep k0 hSw); (have hk1 := cell_keep k1 hSw); (have hk2 := cell_keep k2 hSw); go_simp <;> with_reducible rfl)
          refine wpAnyH_ready (rs := [21]) (by kernel_rfl) (by simp) ?_
          refine AllReadyH.cons rfl (fun K hK => ?_) AllReadyH.nil
          go_simp
          refine (HCA.out _).mono ?_
          rintro e w3 ⟨rfl, hb3⟩
          go_wp2_with fail
          refine hK.out _ _ ?_ (fun hHeld => ?_)
          · exact kb (by assumption) hb3 (Nat.le_refl _)
          clear hK K
          try simp only [Act.put, List.setIfInBounds_toArray, List.set_cons_zero, List.set_cons_succ]
          refine tkF 22 (some 26) ?_
          refine wpAnyH_done (by kernel_rfl) ?_ _
          have d0 := cell_keep c0 hHeld
          have d1 := cell_keep c1 hHeld
          have d2 := cell_keep c2 hHeld
          have d3 := cell_keep c3 hHeld
          have m1 := cell_keep k1 hHeld
          have m2 := cell_keep k2 hHeld
          have L3 := HL.out.keep hHeld
          have Z3 := HZ.out.keep hHeld
          have BX : Below base w w3 := HBL.out.trans (hHeld.mono (Nat.le_trans hbs HBL.out.size))
          have HL3 : Hid (Lt base w.heap.size nx xs o rs (.slice (some ⟨g, 0, none⟩) xs.length ca) (.slice so rs.length cs) w3) := L3
          have HZ3 : Hid (Bx w3 (w.heap.size + 1) 37 #[.int .i64 0, .slice none 0 0, .string ⟨#[]⟩, .slice none 0 0]) := Z3
          have HBX : Hid (Below base w w3) := BX
          have hbz := Z3.lt
          have hna : Hid (nextAt W0 w.heap.size = nx) := HL.out.nextAt
          obtain ⟨iS, hiS, hS1, hS2, hS3⟩ := info_parts info_str
          clear hb3 hHeld HCA dc c0 c1 c2 c3 k0 k1 k2 L3 Z3 BX HL HZ HBL
          obtain ⟨i0, hi, hz0, hz1', hz2⟩ := info_parts info_held
          have hxl : (xs.length : Int) ≤ (ca : Int) := by omega
          have hbz0 : w.heap.size < w3.heap.size := HL3.out.box.lt
          have h1l : (1 : Int) ≤ (xs.length : Int) := by omega
          have hcat : ¬ 9223372036854775807 < o.size + x.text.size := by omega
          rcases Nat.lt_or_ge 1 ca with h1 | h1
          · have h1c : (1 : Int) < (ca : Int) := by omega
            cases hlast : x.last
            · rw [hlast] at m2
              go_wp2_with (at_builtin; refine list_append_any _ rfl _ _ 35 rfl base 95 i0 (.agg #[.int .i64 0, .string ⟨#[]⟩, .bool false]) 3 32 Tryz.underlying35 hi hz0 hz1' hz2 rfl (by decide) (.slice (some ⟨w3.heap.size + 1, 0, none⟩) 0 0) 0 [] rfl (own0 95 3 (w3.alloc (.cells #[.string x.text, .bool false] 65)) base (by simp; omega) (w3.heap.size + 1) (by simp)) (some ⟨g, 3, none⟩) (xs.length - 1) (ca - 1) (hs (xs.drop 1)) rfl (by rw [hs_length, List.length_drop]) (fun e => by cases e) (fun ad had => by cases had; exact hdrop_cells ((HL3.out.held.alloc _).alloc _)) (hs_one _) (by unfold maxLen; omega) (by omega) (by simp; omega) ?_; intro v5 w5 O5 g5; (simp only [Nat.zero_add, List.nil_append] at O5); (obtain ⟨a5, c5, rfl, -, -, -⟩ := rs_of_owns O5); (have X5 := ((HL3.out.box.alloc (.cells #[.string x.text, .bool false] 65)).alloc (.cells #[] 95)).kept g5 (by simp [Value.ownBlock]; omega)); (have Q5 := ((Bx.new w3 65 #[.string x.text, .bool false]).alloc (.cells #[] 95)).kept g5 (by simp [Value.ownBlock])); (have hbz5 := X5.lt); (have q0 := X5.cell 0); (have q1 := X5.cell 1); (have q2 := X5.cell 2); (have q3 := X5.cell 3); (have p0 := Q5.cell 0); (have p1 := Q5.cell 1); simp at q0 q1 q2 q3 p0 p1; (have f0 := X5.frozen 0); (have f1 := X5.frozen 1); (have f2 := X5.frozen 2); (have f3 := X5.frozen 3); (have N1 := X5.ne (by decide) O5); (have R5 := ((HL3.out.ready.alloc (.cells #[.string x.text, .bool false] 65)).alloc (.cells #[] 95)).kept g5 (rows_ne7 ((HL3.out.ready.alloc (.cells #[.string x.text, .bool false] 65)).alloc (.cells #[] 95)) (own0 95 3 (w3.alloc (.cells #[.string x.text, .bool false] 65)) base (by simp; omega) (w3.heap.size + 1) (by simp)) (by decide))); (have N2 := X5.ne (by decide) R5); (have X6 := ((X5.put 1 (.slice a5 (xs.length - 1) c5)).put 2 (.string (o ++ x.text))).put 0 (.int .i64 ((nx : Int) + 1))); (have O6 := (ownsRow_setCell_other (ownsRow_setCell_other (ownsRow_setCell_other O5 (a := ⟨w.heap.size, 1, none⟩) (Ne.symm N1) (.slice a5 (xs.length - 1) c5)) (a := ⟨w.heap.size, 2, none⟩) (Ne.symm N1) (.string (o ++ x.text))) (a := ⟨w.heap.size, 0, none⟩) (Ne.symm N1) (.int .i64 ((nx : Int) + 1)))); (have R6 := (ownsRow_setCell_other (ownsRow_setCell_other (ownsRow_setCell_other R5 (a := ⟨w.heap.size, 1, none⟩) (Ne.symm N2) (.slice a5 (xs.length - 1) c5)) (a := ⟨w.heap.size, 2, none⟩) (Ne.symm N2) (.string (o ++ x.text))) (a := ⟨w.heap.size, 0, none⟩) (Ne.symm N2) (.int .i64 ((nx : Int) + 1)))); (have Z5 := ((HZ3.out.alloc (.cells #[.string x.text, .bool false] 65)).alloc (.cells #[] 95)).kept g5 (by simp [Value.ownBlock]; omega)); (have Z6 := ((Z5.other ⟨w.heap.size, 1, none⟩ (by show w.heap.size + 1 ≠ w.heap.size; omega) (.slice a5 (xs.length - 1) c5)).other ⟨w.heap.size, 2, none⟩ (by show w.heap.size + 1 ≠ w.heap.size; omega) (.string (o ++ x.text))).other ⟨w.heap.size, 0, none⟩ (by show w.heap.size + 1 ≠ w.heap.size; omega) (.int .i64 ((nx : Int) + 1))); (have B4 := (HBX.out.alloc (by omega) (.cells #[.string x.text, .bool false] 65)).alloc (by simp; omega) (.cells #[] 95)); (have B5 := B4.grown g5 (by simp; omega) (fun k hk => by simp [Value.ownBlock] at hk; omega)); (have B6 := ((B5.setCell (p := ⟨w.heap.size, 1, none⟩) hbs (.slice a5 (xs.length - 1) c5)).setCell (p := ⟨w.heap.size, 2, none⟩) hbs (.string (o ++ x.text))).setCell (p := ⟨w.heap.size, 0, none⟩) hbs (.int .i64 ((nx : Int) + 1))))
              have L6 : Lt base w.heap.size (nx + 1) (xs.drop 1) (o ++ x.text) rs (.slice a5 (xs.length - 1) c5) (.slice so rs.length cs) _ := ⟨X6, by rw [List.length_drop]; exact O6, R6, drop_small HL3.out.small, by rw [ByteArray.size_append]; exact hcan.1, hmany, by rw [List.length_drop]; omega, by omega⟩
              have hT6 : T = tin (xs.drop 1) (nx + 1) (o ++ x.text) rs := by rw [HT.out, cons_drop hpos HX.out]; exact tin_more hq hcan hlast
              exact ⟨⟨nx + 1, xs.drop 1, o ++ x.text, rs, _, _, L6, Z6, hT6, B6⟩, by rw [L6.nextAt, hna.out]; omega⟩
            · rw [hlast] at m2
              go_wp2_with (first | (at_builtin; refine list_append_any _ rfl _ _ 35 rfl base 95 i0 (.agg #[.int .i64 0, .string ⟨#[]⟩, .bool false]) 3 32 Tryz.underlying35 hi hz0 hz1' hz2 rfl (by decide) (.slice (some ⟨w3.heap.size + 1, 0, none⟩) 0 0) 0 [] rfl (own0 95 3 (w3.alloc (.cells #[.string x.text, .bool true] 65)) base (by simp; omega) (w3.heap.size + 1) (by simp)) (some ⟨g, 3, none⟩) (xs.length - 1) (ca - 1) (hs (xs.drop 1)) rfl (by rw [hs_length, List.length_drop]) (fun e => by cases e) (fun ad had => by cases had; exact hdrop_cells ((HL3.out.held.alloc _).alloc _)) (hs_one _) (by unfold maxLen; omega) (by omega) (by simp; omega) ?_; intro v5 w5 O5 g5; (simp only [Nat.zero_add, List.nil_append] at O5); (obtain ⟨a5, c5, rfl, -, -, -⟩ := rs_of_owns O5); (have X5 := ((HL3.out.box.alloc (.cells #[.string x.text, .bool true] 65)).alloc (.cells #[] 95)).kept g5 (by simp [Value.ownBlock]; omega)); (have Q5 := ((Bx.new w3 65 #[.string x.text, .bool true]).alloc (.cells #[] 95)).kept g5 (by simp [Value.ownBlock])); (have hbz5 := X5.lt); (have q0 := X5.cell 0); (have q1 := X5.cell 1); (have q2 := X5.cell 2); (have q3 := X5.cell 3); (have p0 := Q5.cell 0); (have p1 := Q5.cell 1); simp at q0 q1 q2 q3 p0 p1; (have f0 := X5.frozen 0); (have f1 := X5.frozen 1); (have f2 := X5.frozen 2); (have f3 := X5.frozen 3); (have N1 := X5.ne (by decide) O5); (have R5 := ((HL3.out.ready.alloc (.cells #[.string x.text, .bool true] 65)).alloc (.cells #[] 95)).kept g5 (rows_ne7 ((HL3.out.ready.alloc (.cells #[.string x.text, .bool true] 65)).alloc (.cells #[] 95)) (own0 95 3 (w3.alloc (.cells #[.string x.text, .bool true] 65)) base (by simp; omega) (w3.heap.size + 1) (by simp)) (by decide))); (have N2 := X5.ne (by decide) R5); (have X6 := ((X5.put 1 (.slice a5 (xs.length - 1) c5)).put 2 (.string (o ++ x.text))).put 0 (.int .i64 ((nx : Int) + 1))); (have O6 := (ownsRow_setCell_other (ownsRow_setCell_other (ownsRow_setCell_other O5 (a := ⟨w.heap.size, 1, none⟩) (Ne.symm N1) (.slice a5 (xs.length - 1) c5)) (a := ⟨w.heap.size, 2, none⟩) (Ne.symm N1) (.string (o ++ x.text))) (a := ⟨w.heap.size, 0, none⟩) (Ne.symm N1) (.int .i64 ((nx : Int) + 1)))); (have R6 := (ownsRow_setCell_other (ownsRow_setCell_other (ownsRow_setCell_other R5 (a := ⟨w.heap.size, 1, none⟩) (Ne.symm N2) (.slice a5 (xs.length - 1) c5)) (a := ⟨w.heap.size, 2, none⟩) (Ne.symm N2) (.string (o ++ x.text))) (a := ⟨w.heap.size, 0, none⟩) (Ne.symm N2) (.int .i64 ((nx : Int) + 1)))); (have Z5 := ((HZ3.out.alloc (.cells #[.string x.text, .bool true] 65)).alloc (.cells #[] 95)).kept g5 (by simp [Value.ownBlock]; omega)); (have Z6 := ((Z5.other ⟨w.heap.size, 1, none⟩ (by show w.heap.size + 1 ≠ w.heap.size; omega) (.slice a5 (xs.length - 1) c5)).other ⟨w.heap.size, 2, none⟩ (by show w.heap.size + 1 ≠ w.heap.size; omega) (.string (o ++ x.text))).other ⟨w.heap.size, 0, none⟩ (by show w.heap.size + 1 ≠ w.heap.size; omega) (.int .i64 ((nx : Int) + 1))); (have B4 := (HBX.out.alloc (by omega) (.cells #[.string x.text, .bool true] 65)).alloc (by simp; omega) (.cells #[] 95)); (have B5 := B4.grown g5 (by simp; omega) (fun k hk => by simp [Value.ownBlock] at hk; omega)); (have B6 := ((B5.setCell (p := ⟨w.heap.size, 1, none⟩) hbs (.slice a5 (xs.length - 1) c5)).setCell (p := ⟨w.heap.size, 2, none⟩) hbs (.string (o ++ x.text))).setCell (p := ⟨w.heap.size, 0, none⟩) hbs (.int .i64 ((nx : Int) + 1)))) | (at_builtin; go_must (refine list_append_any _ rfl _ _ 26 rfl base 9 iS (.string ⟨#[]⟩) 1 16 Tryz.underlying26 hiS hS1 hS2 hS3 rfl (by decide) (.slice so rs.length cs) rs.length (ss rs) rfl (R6.alloc (.cells #[.string (o ++ x.text)] 9)) (some ⟨w5.heap.size, 0, none⟩) 1 1 [.string (o ++ x.text)] rfl rfl (fun e => by cases e) (fun ad had j u hj => by cases had; exact one_cell (by simp [go_sem]) hj) (one6 _) (by unfold maxLen; omega) (by omega) (Nat.le_trans hbs (B6.alloc (Nat.le_trans hbs B6.size) (.cells #[.string (o ++ x.text)] 9)).size) ?_); intro v7 w7 O7 g7; (obtain ⟨a7, c7, rfl, -, -, -⟩ := rs_of_owns O7); (have X7 := (X6.alloc (.cells #[.string (o ++ x.text)] 9)).kept g7 ((X6.alloc (.cells #[.string (o ++ x.text)] 9)).ne (by decide) (R6.alloc (.cells #[.string (o ++ x.text)] 9)))); (have s0 := X7.cell 0); (have s1 := X7.cell 1); (have s2 := X7.cell 2); (have s3 := X7.cell 3); simp at s0 s1 s2 s3; (have k0 := X7.frozen 0); (have k1 := X7.frozen 1); (have k2 := X7.frozen 2); (have k3 := X7.frozen 3)) | fail)
              have O7h := (O6.alloc (.cells #[.string (o ++ x.text)] 9)).kept g7 (rows_ne7 (O6.alloc (.cells #[.string (o ++ x.text)] 9)) (R6.alloc (.cells #[.string (o ++ x.text)] 9)) (by decide))
              have N3 := X7.ne (by decide) O7h
              have N4 := X7.ne (by decide) O7
              have X8 := (X7.put 3 (.slice a7 (rs.length + 1) c7)).put 2 (.string ⟨#[]⟩)
              have O8 := (ownsRow_setCell_other (ownsRow_setCell_other O7h (a := ⟨w.heap.size, 3, none⟩) (Ne.symm N3) (.slice a7 (rs.length + 1) c7)) (a := ⟨w.heap.size, 2, none⟩) (Ne.symm N3) (.string ⟨#[]⟩))
              have R8 := (ownsRow_setCell_other (ownsRow_setCell_other O7 (a := ⟨w.heap.size, 3, none⟩) (Ne.symm N4) (.slice a7 (rs.length + 1) c7)) (a := ⟨w.heap.size, 2, none⟩) (Ne.symm N4) (.string ⟨#[]⟩))
              have Z7 := (Z6.alloc (.cells #[.string (o ++ x.text)] 9)).kept g7 ((Z6.alloc (.cells #[.string (o ++ x.text)] 9)).ne (by decide) (R6.alloc (.cells #[.string (o ++ x.text)] 9)))
              have Z8 := (Z7.other ⟨w.heap.size, 3, none⟩ (by show w.heap.size + 1 ≠ w.heap.size; omega) (.slice a7 (rs.length + 1) c7)).other ⟨w.heap.size, 2, none⟩ (by show w.heap.size + 1 ≠ w.heap.size; omega) (.string ⟨#[]⟩)
              have B7 := B6.alloc (Nat.le_trans hbs B6.size) (.cells #[.string (o ++ x.text)] 9)
              have B8 := ((B7.grown g7 (Nat.le_trans hbs B7.size) (fun k hk => ((R6.alloc (.cells #[.string (o ++ x.text)] 9)).lt k hk).1)).setCell (p := ⟨w.heap.size, 3, none⟩) hbs (.slice a7 (rs.length + 1) c7)).setCell (p := ⟨w.heap.size, 2, none⟩) hbs (.string ⟨#[]⟩)
              have hr4 : rs.length < 4 := by rcases hcan.2 with q | q; (rw [hlast] at q; cases q); exact q
              have L8 : Lt base w.heap.size (nx + 1) (xs.drop 1) ⟨#[]⟩ (rs ++ [o ++ x.text]) (.slice a5 (xs.length - 1) c5) (.slice a7 (rs.length + 1) c7) _ := ⟨X8, by rw [List.length_drop]; exact O8, by rw [List.length_append, ss_append]; exact R8, drop_small HL3.out.small, by decide, by rw [List.length_append]; simp; omega, by rw [List.length_drop]; omega, by omega⟩
              have hT8 : T = tin (xs.drop 1) (nx + 1) ⟨#[]⟩ (rs ++ [o ++ x.text]) := by rw [HT.out, cons_drop hpos HX.out]; exact tin_last hq hcan hlast
              exact ⟨⟨nx + 1, xs.drop 1, ⟨#[]⟩, rs ++ [o ++ x.text], _, _, L8, Z8, hT8, B8⟩, by rw [L8.nextAt, hna.out]; omega⟩
          · obtain rfl : ca = 1 := by omega
            have hx1 : xs.length = 1 := by omega
            have hx0 : xs.length - 1 = 0 := by omega
            cases hlast : x.last
            · rw [hlast] at m2
              go_wp2_with (at_builtin; refine list_append_any _ rfl _ _ 35 rfl base 95 i0 (.agg #[.int .i64 0, .string ⟨#[]⟩, .bool false]) 3 32 Tryz.underlying35 hi hz0 hz1' hz2 rfl (by decide) (.slice (some ⟨w3.heap.size + 1, 0, none⟩) 0 0) 0 [] rfl (own0 95 3 (w3.alloc (.cells #[.string x.text, .bool false] 65)) base (by simp; omega) (w3.heap.size + 1) (by simp)) (some ⟨g, 0, none⟩) 0 0 (hs (xs.drop 1)) rfl (by rw [hs_length, List.length_drop]; omega) (fun e => by cases e) (fun ad had j u hj => by rw [List.drop_eq_nil_of_le (by omega)] at hj; simp [hs] at hj) (hs_one _) (by unfold maxLen; omega) (by omega) (by simp; omega) ?_; intro v5 w5 O5 g5; (simp only [Nat.zero_add, List.nil_append] at O5); (obtain ⟨a5, c5, rfl, -, -, -⟩ := rs_of_owns O5); (have X5 := ((HL3.out.box.alloc (.cells #[.string x.text, .bool false] 65)).alloc (.cells #[] 95)).kept g5 (by simp [Value.ownBlock]; omega)); (have Q5 := ((Bx.new w3 65 #[.string x.text, .bool false]).alloc (.cells #[] 95)).kept g5 (by simp [Value.ownBlock])); (have hbz5 := X5.lt); (have q0 := X5.cell 0); (have q1 := X5.cell 1); (have q2 := X5.cell 2); (have q3 := X5.cell 3); (have p0 := Q5.cell 0); (have p1 := Q5.cell 1); simp at q0 q1 q2 q3 p0 p1; (have f0 := X5.frozen 0); (have f1 := X5.frozen 1); (have f2 := X5.frozen 2); (have f3 := X5.frozen 3); (have N1 := X5.ne (by decide) O5); (have R5 := ((HL3.out.ready.alloc (.cells #[.string x.text, .bool false] 65)).alloc (.cells #[] 95)).kept g5 (rows_ne7 ((HL3.out.ready.alloc (.cells #[.string x.text, .bool false] 65)).alloc (.cells #[] 95)) (own0 95 3 (w3.alloc (.cells #[.string x.text, .bool false] 65)) base (by simp; omega) (w3.heap.size + 1) (by simp)) (by decide))); (have N2 := X5.ne (by decide) R5); (have X6 := ((X5.put 1 (.slice a5 0 c5)).put 2 (.string (o ++ x.text))).put 0 (.int .i64 ((nx : Int) + 1))); (have O6 := (ownsRow_setCell_other (ownsRow_setCell_other (ownsRow_setCell_other O5 (a := ⟨w.heap.size, 1, none⟩) (Ne.symm N1) (.slice a5 0 c5)) (a := ⟨w.heap.size, 2, none⟩) (Ne.symm N1) (.string (o ++ x.text))) (a := ⟨w.heap.size, 0, none⟩) (Ne.symm N1) (.int .i64 ((nx : Int) + 1)))); (have R6 := (ownsRow_setCell_other (ownsRow_setCell_other (ownsRow_setCell_other R5 (a := ⟨w.heap.size, 1, none⟩) (Ne.symm N2) (.slice a5 0 c5)) (a := ⟨w.heap.size, 2, none⟩) (Ne.symm N2) (.string (o ++ x.text))) (a := ⟨w.heap.size, 0, none⟩) (Ne.symm N2) (.int .i64 ((nx : Int) + 1)))); (have Z5 := ((HZ3.out.alloc (.cells #[.string x.text, .bool false] 65)).alloc (.cells #[] 95)).kept g5 (by simp [Value.ownBlock]; omega)); (have Z6 := ((Z5.other ⟨w.heap.size, 1, none⟩ (by show w.heap.size + 1 ≠ w.heap.size; omega) (.slice a5 0 c5)).other ⟨w.heap.size, 2, none⟩ (by show w.heap.size + 1 ≠ w.heap.size; omega) (.string (o ++ x.text))).other ⟨w.heap.size, 0, none⟩ (by show w.heap.size + 1 ≠ w.heap.size; omega) (.int .i64 ((nx : Int) + 1))); (have B4 := (HBX.out.alloc (by omega) (.cells #[.string x.text, .bool false] 65)).alloc (by simp; omega) (.cells #[] 95)); (have B5 := B4.grown g5 (by simp; omega) (fun k hk => by simp [Value.ownBlock] at hk; omega)); (have B6 := ((B5.setCell (p := ⟨w.heap.size, 1, none⟩) hbs (.slice a5 0 c5)).setCell (p := ⟨w.heap.size, 2, none⟩) hbs (.string (o ++ x.text))).setCell (p := ⟨w.heap.size, 0, none⟩) hbs (.int .i64 ((nx : Int) + 1))))
              have L6 : Lt base w.heap.size (nx + 1) (xs.drop 1) (o ++ x.text) rs (.slice a5 0 c5) (.slice so rs.length cs) _ := ⟨X6, by rw [List.length_drop]; exact (by rw [hx0]; exact O6), R6, drop_small HL3.out.small, by rw [ByteArray.size_append]; exact hcan.1, hmany, by rw [List.length_drop]; omega, by omega⟩
              have hT6 : T = tin (xs.drop 1) (nx + 1) (o ++ x.text) rs := by rw [HT.out, cons_drop hpos HX.out]; exact tin_more hq hcan hlast
              exact ⟨⟨nx + 1, xs.drop 1, o ++ x.text, rs, _, _, L6, Z6, hT6, B6⟩, by rw [L6.nextAt, hna.out]; omega⟩
            · rw [hlast] at m2
              go_wp2_with (first | (at_builtin; refine list_append_any _ rfl _ _ 35 rfl base 95 i0 (.agg #[.int .i64 0, .string ⟨#[]⟩, .bool false]) 3 32 Tryz.underlying35 hi hz0 hz1' hz2 rfl (by decide) (.slice (some ⟨w3.heap.size + 1, 0, none⟩) 0 0) 0 [] rfl (own0 95 3 (w3.alloc (.cells #[.string x.text, .bool true] 65)) base (by simp; omega) (w3.heap.size + 1) (by simp)) (some ⟨g, 0, none⟩) 0 0 (hs (xs.drop 1)) rfl (by rw [hs_length, List.length_drop]; omega) (fun e => by cases e) (fun ad had j u hj => by rw [List.drop_eq_nil_of_le (by omega)] at hj; simp [hs] at hj) (hs_one _) (by unfold maxLen; omega) (by omega) (by simp; omega) ?_; intro v5 w5 O5 g5; (simp only [Nat.zero_add, List.nil_append] at O5); (obtain ⟨a5, c5, rfl, -, -, -⟩ := rs_of_owns O5); (have X5 := ((HL3.out.box.alloc (.cells #[.string x.text, .bool true] 65)).alloc (.cells #[] 95)).kept g5 (by simp [Value.ownBlock]; omega)); (have Q5 := ((Bx.new w3 65 #[.string x.text, .bool true]).alloc (.cells #[] 95)).kept g5 (by simp [Value.ownBlock])); (have hbz5 := X5.lt); (have q0 := X5.cell 0); (have q1 := X5.cell 1); (have q2 := X5.cell 2); (have q3 := X5.cell 3); (have p0 := Q5.cell 0); (have p1 := Q5.cell 1); simp at q0 q1 q2 q3 p0 p1; (have f0 := X5.frozen 0); (have f1 := X5.frozen 1); (have f2 := X5.frozen 2); (have f3 := X5.frozen 3); (have N1 := X5.ne (by decide) O5); (have R5 := ((HL3.out.ready.alloc (.cells #[.string x.text, .bool true] 65)).alloc (.cells #[] 95)).kept g5 (rows_ne7 ((HL3.out.ready.alloc (.cells #[.string x.text, .bool true] 65)).alloc (.cells #[] 95)) (own0 95 3 (w3.alloc (.cells #[.string x.text, .bool true] 65)) base (by simp; omega) (w3.heap.size + 1) (by simp)) (by decide))); (have N2 := X5.ne (by decide) R5); (have X6 := ((X5.put 1 (.slice a5 0 c5)).put 2 (.string (o ++ x.text))).put 0 (.int .i64 ((nx : Int) + 1))); (have O6 := (ownsRow_setCell_other (ownsRow_setCell_other (ownsRow_setCell_other O5 (a := ⟨w.heap.size, 1, none⟩) (Ne.symm N1) (.slice a5 0 c5)) (a := ⟨w.heap.size, 2, none⟩) (Ne.symm N1) (.string (o ++ x.text))) (a := ⟨w.heap.size, 0, none⟩) (Ne.symm N1) (.int .i64 ((nx : Int) + 1)))); (have R6 := (ownsRow_setCell_other (ownsRow_setCell_other (ownsRow_setCell_other R5 (a := ⟨w.heap.size, 1, none⟩) (Ne.symm N2) (.slice a5 0 c5)) (a := ⟨w.heap.size, 2, none⟩) (Ne.symm N2) (.string (o ++ x.text))) (a := ⟨w.heap.size, 0, none⟩) (Ne.symm N2) (.int .i64 ((nx : Int) + 1)))); (have Z5 := ((HZ3.out.alloc (.cells #[.string x.text, .bool true] 65)).alloc (.cells #[] 95)).kept g5 (by simp [Value.ownBlock]; omega)); (have Z6 := ((Z5.other ⟨w.heap.size, 1, none⟩ (by show w.heap.size + 1 ≠ w.heap.size; omega) (.slice a5 0 c5)).other ⟨w.heap.size, 2, none⟩ (by show w.heap.size + 1 ≠ w.heap.size; omega) (.string (o ++ x.text))).other ⟨w.heap.size, 0, none⟩ (by show w.heap.size + 1 ≠ w.heap.size; omega) (.int .i64 ((nx : Int) + 1))); (have B4 := (HBX.out.alloc (by omega) (.cells #[.string x.text, .bool true] 65)).alloc (by simp; omega) (.cells #[] 95)); (have B5 := B4.grown g5 (by simp; omega) (fun k hk => by simp [Value.ownBlock] at hk; omega)); (have B6 := ((B5.setCell (p := ⟨w.heap.size, 1, none⟩) hbs (.slice a5 0 c5)).setCell (p := ⟨w.heap.size, 2, none⟩) hbs (.string (o ++ x.text))).setCell (p := ⟨w.heap.size, 0, none⟩) hbs (.int .i64 ((nx : Int) + 1)))) | (at_builtin; go_must (refine list_append_any _ rfl _ _ 26 rfl base 9 iS (.string ⟨#[]⟩) 1 16 Tryz.underlying26 hiS hS1 hS2 hS3 rfl (by decide) (.slice so rs.length cs) rs.length (ss rs) rfl (R6.alloc (.cells #[.string (o ++ x.text)] 9)) (some ⟨w5.heap.size, 0, none⟩) 1 1 [.string (o ++ x.text)] rfl rfl (fun e => by cases e) (fun ad had j u hj => by cases had; exact one_cell (by simp [go_sem]) hj) (one6 _) (by unfold maxLen; omega) (by omega) (Nat.le_trans hbs (B6.alloc (Nat.le_trans hbs B6.size) (.cells #[.string (o ++ x.text)] 9)).size) ?_); intro v7 w7 O7 g7; (obtain ⟨a7, c7, rfl, -, -, -⟩ := rs_of_owns O7); (have X7 := (X6.alloc (.cells #[.string (o ++ x.text)] 9)).kept g7 ((X6.alloc (.cells #[.string (o ++ x.text)] 9)).ne (by decide) (R6.alloc (.cells #[.string (o ++ x.text)] 9)))); (have s0 := X7.cell 0); (have s1 := X7.cell 1); (have s2 := X7.cell 2); (have s3 := X7.cell 3); simp at s0 s1 s2 s3; (have k0 := X7.frozen 0); (have k1 := X7.frozen 1); (have k2 := X7.frozen 2); (have k3 := X7.frozen 3)) | fail)
              have O7h := (O6.alloc (.cells #[.string (o ++ x.text)] 9)).kept g7 (rows_ne7 (O6.alloc (.cells #[.string (o ++ x.text)] 9)) (R6.alloc (.cells #[.string (o ++ x.text)] 9)) (by decide))
              have N3 := X7.ne (by decide) O7h
              have N4 := X7.ne (by decide) O7
              have X8 := (X7.put 3 (.slice a7 (rs.length + 1) c7)).put 2 (.string ⟨#[]⟩)
              have O8 := (ownsRow_setCell_other (ownsRow_setCell_other O7h (a := ⟨w.heap.size, 3, none⟩) (Ne.symm N3) (.slice a7 (rs.length + 1) c7)) (a := ⟨w.heap.size, 2, none⟩) (Ne.symm N3) (.string ⟨#[]⟩))
              have R8 := (ownsRow_setCell_other (ownsRow_setCell_other O7 (a := ⟨w.heap.size, 3, none⟩) (Ne.symm N4) (.slice a7 (rs.length + 1) c7)) (a := ⟨w.heap.size, 2, none⟩) (Ne.symm N4) (.string ⟨#[]⟩))
              have Z7 := (Z6.alloc (.cells #[.string (o ++ x.text)] 9)).kept g7 ((Z6.alloc (.cells #[.string (o ++ x.text)] 9)).ne (by decide) (R6.alloc (.cells #[.string (o ++ x.text)] 9)))
              have Z8 := (Z7.other ⟨w.heap.size, 3, none⟩ (by show w.heap.size + 1 ≠ w.heap.size; omega) (.slice a7 (rs.length + 1) c7)).other ⟨w.heap.size, 2, none⟩ (by show w.heap.size + 1 ≠ w.heap.size; omega) (.string ⟨#[]⟩)
              have B7 := B6.alloc (Nat.le_trans hbs B6.size) (.cells #[.string (o ++ x.text)] 9)
              have B8 := ((B7.grown g7 (Nat.le_trans hbs B7.size) (fun k hk => ((R6.alloc (.cells #[.string (o ++ x.text)] 9)).lt k hk).1)).setCell (p := ⟨w.heap.size, 3, none⟩) hbs (.slice a7 (rs.length + 1) c7)).setCell (p := ⟨w.heap.size, 2, none⟩) hbs (.string ⟨#[]⟩)
              have hr4 : rs.length < 4 := by rcases hcan.2 with q | q; (rw [hlast] at q; cases q); exact q
              have L8 : Lt base w.heap.size (nx + 1) (xs.drop 1) ⟨#[]⟩ (rs ++ [o ++ x.text]) (.slice a5 0 c5) (.slice a7 (rs.length + 1) c7) _ := ⟨X8, by rw [List.length_drop]; exact (by rw [hx0]; exact O8), by rw [List.length_append, ss_append]; exact R8, drop_small HL3.out.small, by decide, by rw [List.length_append]; simp; omega, by rw [List.length_drop]; omega, by omega⟩
              have hT8 : T = tin (xs.drop 1) (nx + 1) ⟨#[]⟩ (rs ++ [o ++ x.text]) := by rw [HT.out, cons_drop hpos HX.out]; exact tin_last hq hcan hlast
              exact ⟨⟨nx + 1, xs.drop 1, ⟨#[]⟩, rs ++ [o ++ x.text], _, _, L8, Z8, hT8, B8⟩, by rw [L8.nextAt, hna.out]; omega⟩
        · have dc : decide (CanIn o rs.length x.text x.last) = false := decide_eq_false hcan
          rw [dc] at HCA
          have hst : Hid (tin xs nx o rs = (nx, xs, o, rs)) := tin_stop (fun h0 e => hcan (by rw [HX.out]; exact e.2))
          rw [hq] at k0
          go_wp2
          refine wp_region_held_drew (S := (fun w' => Below W0.heap.size W0 w')) (by kernel_rfl) ?_ (fun hHeld => ?_)
          · exact (Below.refl _ _).drew
          refine tkF 0 (some 4) ?_
          refine tkE 1 (some 5) ?_ ?_ ?_
          rotate_left
          · (intro w hSw; (have hc0 := cell_keep c0 hSw); (have hc1 := cell_keep c1 hSw); (have hc2 := cell_keep c2 hSw); (have hc3 := cell_keep c3 hSw); (have hk0 := cell_keep k0 hSw); (have hk1 := cell_keep k1 hSw); (have hk2 := cell_keep k2 hSw); go_simp <;> with_reducible rfl)
          refine tkF 2 (some 6) ?_
          refine tkF 3 (some 7) ?_
          refine tkF 4 (some 8) ?_
          refine tkF 5 (some 9) ?_
          refine tkE 6 (some 10) ?_ ?_ ?_
          rotate_left
          · (intro w hSw; (have hc0 := cell_keep c0 hSw); (have hc1 := cell_keep c1 hSw); (have hc2 := cell_keep c2 hSw); (have hc3 := cell_keep c3 hSw); (have hk0 := cell_keep k0 hSw); (have hk1 := cell_keep k1 hSw); (have hk2 := cell_keep k2 hSw); go_simp <;> with_reducible rfl)
          refine tkF 7 (some 11) ?_
          refine tkF 8 (some 12) ?_
          refine tkE 9 (some 13) ?_ ?_ ?_
          rotate_left
          · (intro w hSw; (have hc0 := cell_keep c0 hSw); (have hc1 := cell_keep c1 hSw); (have hc2 := cell_keep c2 hSw); (have hc3 := cell_keep c3 hSw); (have hk0 := cell_keep k0 hSw); (have hk1 := cell_keep k1 hSw); (have hk2 := cell_keep k2 hSw); go_simp <;> with_reducible rfl)
          refine tkF 10 (some 14) ?_
          refine tkE 11 (some 15) ?_ ?_ ?_
          rotate_left
          · (intro w hSw; (have hc0 := cell_keep c0 hSw); (have hc1 := cell_keep c1 hSw); (have hc2 := cell_keep c2 hSw); (have hc3 := cell_keep c3 hSw); (have hk0 := cell_keep k0 hSw); (have hk1 := cell_keep k1 hSw); (have hk2 := cell_keep k2 hSw); go_simp <;> with_reducible rfl)
          refine tkF 12 (some 16) ?_
          refine tkF 13 (some 17) ?_
          refine tkF 14 (some 18) ?_
          refine tkE 15 (some 19) ?_ ?_ ?_
          rotate_left
          · (intro w hSw; (have hc0 := cell_keep c0 hSw); (have hc1 := cell_keep c1 hSw); (have hc2 := cell_keep c2 hSw); (have hc3 := cell_keep c3 hSw); (have hk0 := cell_keep k0 hSw); (have hk1 := cell_keep k1 hSw); (have hk2 := cell_keep k2 hSw); go_simp <;> with_reducible rfl)
          refine tkF 16 (some 20) ?_
          refine tkE 17 (some 21) ?_ ?_ ?_
          rotate_left
          · (intro w hSw; (have hc0 := cell_keep c0 hSw); (have hc1 := cell_keep c1 hSw); (have hc2 := cell_keep c2 hSw); (have hc3 := cell_keep c3 hSw); (have hk0 := cell_keep k0 hSw); (have hk1 := cell_keep k1 hSw); (have hk2 := cell_keep k2 hSw); go_simp <;> with_reducible rfl)
          refine tkF 18 (some 22) ?_
          refine tkF 19 (some 23) ?_
          refine tkE 20 (some 24) ?_ ?_ ?_
          rotate_left
          · (intro w hSw; (have hc0 := cell_keep c0 hSw); (have hc1 := cell_keep c1 hSw); (have hc2 := cell_keep c2 hSw); (have hc3 := cell_keep c3 hSw); (have hk0 := cell_keep k0 hSw); (have hk1 := cell_keep k1 hSw); (have hk2 := cell_keep k2 hSw); go_simp <;> with_reducible rfl)
          refine wpAnyH_ready (rs := [21]) (by kernel_rfl) (by simp) ?_
          refine AllReadyH.cons rfl (fun K hK => ?_) AllReadyH.nil
          go_simp
          refine (HCA.out _).mono ?_
          rintro e w3 ⟨rfl, hb3⟩
          go_wp2_with fail
          refine hK.out _ _ ?_ (fun hHeld => ?_)
          · exact kb (by assumption) hb3 (Nat.le_refl _)
          clear hK K
          try simp only [Act.put, List.setIfInBounds_toArray, List.set_cons_zero, List.set_cons_succ]
          refine tkF 22 (some 26) ?_
          refine wpAnyH_done (by kernel_rfl) ?_ _
          obtain ⟨V, hV⟩ : ∃ V, V = w3 := ⟨_, rfl⟩
          rw [← hV] at hHeld ⊢
          clear hV
          have BV : Below W0.heap.size W0 V := hHeld
          have d0 := cell_keep c0 BV
          have d1 := cell_keep c1 BV
          have d2 := cell_keep c2 BV
          have d3 := cell_keep c3 BV
          have ZV := HZ.out.keep BV
          have z0 := ZV.cell 0
          have z1 := ZV.cell 1
          have z2 := ZV.cell 2
          have z3 := ZV.cell 3
          simp at z0 z1 z2 z3
          have f0 := ZV.frozen 0
          have f1 := ZV.frozen 1
          have f2 := ZV.frozen 2
          have f3 := ZV.frozen 3
          go_wp2
          have rh := owns_keep HL.out.held BV
          have rr := owns_keep HL.out.ready BV
          have nh := ZV.ne (by decide) rh
          have nr := ZV.ne (by decide) rr
          have rh4 := ownsRow_setCell_other (ownsRow_setCell_other (ownsRow_setCell_other (ownsRow_setCell_other rh (a := ⟨w.heap.size + 1, 0, none⟩) (Ne.symm nh) (.int .i64 (nx : Int))) (a := ⟨w.heap.size + 1, 1, none⟩) (Ne.symm nh) (.slice (some ⟨g, 0, none⟩) xs.length ca)) (a := ⟨w.heap.size + 1, 2, none⟩) (Ne.symm nh) (.string o)) (a := ⟨w.heap.size + 1, 3, none⟩) (Ne.symm nh) (.slice so rs.length cs)
          have rr4 := ownsRow_setCell_other (ownsRow_setCell_other (ownsRow_setCell_other (ownsRow_setCell_other rr (a := ⟨w.heap.size + 1, 0, none⟩) (Ne.symm nr) (.int .i64 (nx : Int))) (a := ⟨w.heap.size + 1, 1, none⟩) (Ne.symm nr) (.slice (some ⟨g, 0, none⟩) xs.length ca)) (a := ⟨w.heap.size + 1, 2, none⟩) (Ne.symm nr) (.string o)) (a := ⟨w.heap.size + 1, 3, none⟩) (Ne.symm nr) (.slice so rs.length cs)
          have B4 := ((((HBL.out.trans (BV.mono (Nat.le_trans hbs HBL.out.size))).setCell (p := ⟨w.heap.size + 1, 0, none⟩) (by show base ≤ w.heap.size + 1; omega) (.int .i64 (nx : Int))).setCell (p := ⟨w.heap.size + 1, 1, none⟩) (by show base ≤ w.heap.size + 1; omega) (.slice (some ⟨g, 0, none⟩) xs.length ca)).setCell (p := ⟨w.heap.size + 1, 2, none⟩) (by show base ≤ w.heap.size + 1; omega) (.string o)).setCell (p := ⟨w.heap.size + 1, 3, none⟩) (by show base ≤ w.heap.size + 1; omega) (.slice so rs.length cs)
          refine bodyPost_ret (v := .agg #[.int .i64 (nx : Int), .slice (some ⟨g, 0, none⟩) xs.length ca, .string o, .slice so rs.length cs]) (by simp [results, Tryz.results80, go_sem, z0, z1, z2, z3]) rfl ?_
          rw [HT.out, hst.out]
          exact ⟨⟨_, _, rfl, rh4, rr4⟩, B4⟩
      · have dq : (x.seq == (nx : Int)) = false := by simpa using hq
        have hst : Hid (tin xs nx o rs = (nx, xs, o, rs)) := tin_stop (fun h0 e => hq (by rw [HX.out]; exact e.1))
        go_wp2
        refine wp_region_held_drew (S := (fun w' => Below W0.heap.size W0 w')) (by kernel_rfl) ?_ (fun hHeld => ?_)
        · exact (Below.refl _ _).drew
        refine tkF 0 (some 4) ?_
        refine tkE 1 (some 5) ?_ ?_ ?_
        rotate_left
        · (intro w hSw; (have hc0 := cell_keep c0 hSw); (have hc1 := cell_keep c1 hSw); (have hc2 := cell_keep c2 hSw); (have hc3 := cell_keep c3 hSw); (have hk0 := cell_keep k0 hSw); go_simp <;> with_reducible rfl)
        refine tkF 2 (some 6) ?_
        refine tkF 3 (some 7) ?_
        refine tkF 4 (some 8) ?_
        refine tkF 5 (some 9) ?_
        refine tkE 6 (some 10) ?_ ?_ ?_
        rotate_left
        · (intro w hSw; (have hc0 := cell_keep c0 hSw); (have hc1 := cell_keep c1 hSw); (have hc2 := cell_keep c2 hSw); (have hc3 := cell_keep c3 hSw); (have hk0 := cell_keep k0 hSw); go_simp <;> with_reducible rfl)
        refine tkF 7 (some 11) ?_
        refine tkF 8 (some 12) ?_
        refine tkE 9 (some 13) ?_ ?_ ?_
        rotate_left
        · (intro w hSw; (have hc0 := cell_keep c0 hSw); (have hc1 := cell_keep c1 hSw); (have hc2 := cell_keep c2 hSw); (have hc3 := cell_keep c3 hSw); (have hk0 := cell_keep k0 hSw); go_simp <;> with_reducible rfl)
        refine tkF 10 (some 14) ?_
        refine tkE 11 (some 15) ?_ ?_ ?_
        rotate_left
        · (intro w hSw; (have hc0 := cell_keep c0 hSw); (have hc1 := cell_keep c1 hSw); (have hc2 := cell_keep c2 hSw); (have hc3 := cell_keep c3 hSw); (have hk0 := cell_keep k0 hSw); go_simp <;> with_reducible rfl)
        refine tkF 12 (some 16) ?_
        refine tkF 13 (some 17) ?_
        refine tkF 14 (some 18) ?_
        refine tkS 15 (some 19) ?_
        refine tkS 16 (some 20) ?_
        refine tkS 17 (some 21) ?_
        refine tkS 18 (some 22) ?_
        refine tkS 19 (some 23) ?_
        refine tkS 20 (some 24) ?_
        refine tkS 21 (some 25) ?_
        refine tkF 22 (some 26) ?_
        refine wpAnyH_done (by kernel_rfl) ?_ _
        generalize W0.drew = V at hHeld ⊢
        have BV : Below W0.heap.size W0 V := hHeld
        have d0 := cell_keep c0 BV
        have d1 := cell_keep c1 BV
        have d2 := cell_keep c2 BV
        have d3 := cell_keep c3 BV
        have ZV := HZ.out.keep BV
        have z0 := ZV.cell 0
        have z1 := ZV.cell 1
        have z2 := ZV.cell 2
        have z3 := ZV.cell 3
        simp at z0 z1 z2 z3
        have f0 := ZV.frozen 0
        have f1 := ZV.frozen 1
        have f2 := ZV.frozen 2
        have f3 := ZV.frozen 3
        go_wp2
        have rh := owns_keep HL.out.held BV
        have rr := owns_keep HL.out.ready BV
        have nh := ZV.ne (by decide) rh
        have nr := ZV.ne (by decide) rr
        have rh4 := ownsRow_setCell_other (ownsRow_setCell_other (ownsRow_setCell_other (ownsRow_setCell_other rh (a := ⟨w.heap.size + 1, 0, none⟩) (Ne.symm nh) (.int .i64 (nx : Int))) (a := ⟨w.heap.size + 1, 1, none⟩) (Ne.symm nh) (.slice (some ⟨g, 0, none⟩) xs.length ca)) (a := ⟨w.heap.size + 1, 2, none⟩) (Ne.symm nh) (.string o)) (a := ⟨w.heap.size + 1, 3, none⟩) (Ne.symm nh) (.slice so rs.length cs)
        have rr4 := ownsRow_setCell_other (ownsRow_setCell_other (ownsRow_setCell_other (ownsRow_setCell_other rr (a := ⟨w.heap.size + 1, 0, none⟩) (Ne.symm nr) (.int .i64 (nx : Int))) (a := ⟨w.heap.size + 1, 1, none⟩) (Ne.symm nr) (.slice (some ⟨g, 0, none⟩) xs.length ca)) (a := ⟨w.heap.size + 1, 2, none⟩) (Ne.symm nr) (.string o)) (a := ⟨w.heap.size + 1, 3, none⟩) (Ne.symm nr) (.slice so rs.length cs)
        have B4 := ((((HBL.out.trans (BV.mono (Nat.le_trans hbs HBL.out.size))).setCell (p := ⟨w.heap.size + 1, 0, none⟩) (by show base ≤ w.heap.size + 1; omega) (.int .i64 (nx : Int))).setCell (p := ⟨w.heap.size + 1, 1, none⟩) (by show base ≤ w.heap.size + 1; omega) (.slice (some ⟨g, 0, none⟩) xs.length ca)).setCell (p := ⟨w.heap.size + 1, 2, none⟩) (by show base ≤ w.heap.size + 1; omega) (.string o)).setCell (p := ⟨w.heap.size + 1, 3, none⟩) (by show base ≤ w.heap.size + 1; omega) (.slice so rs.length cs)
        refine bodyPost_ret (v := .agg #[.int .i64 (nx : Int), .slice (some ⟨g, 0, none⟩) xs.length ca, .string o, .slice so rs.length cs]) (by simp [results, Tryz.results80, go_sem, z0, z1, z2, z3]) rfl ?_
        rw [HT.out, hst.out]
        exact ⟨⟨_, _, rfl, rh4, rr4⟩, B4⟩
    · have hst : Hid (tin xs nx o rs = (nx, xs, o, rs)) := tin_stop (fun h0 e => hpos h0)
      have dl : decide ((0 : Int) < (xs.length : Int)) = false := decide_eq_false (by omega)
      clear hrh
      go_wp2
      refine wp_region_held_drew (S := (fun w' => Below W0.heap.size W0 w')) (by kernel_rfl) ?_ (fun hHeld => ?_)
      · exact (Below.refl _ _).drew
      refine tkF 0 (some 4) ?_
      refine tkE 1 (some 5) ?_ ?_ ?_
      rotate_left
      · (intro w hSw; (have hc0 := cell_keep c0 hSw); (have hc1 := cell_keep c1 hSw); (have hc2 := cell_keep c2 hSw); (have hc3 := cell_keep c3 hSw); go_simp <;> with_reducible rfl)
      refine tkF 2 (some 6) ?_
      refine tkF 3 (some 7) ?_
      refine tkF 4 (some 8) ?_
      refine tkS 5 (some 9) ?_
      refine tkS 6 (some 10) ?_
      refine tkS 7 (some 11) ?_
      refine tkS 8 (some 12) ?_
      refine tkS 9 (some 13) ?_
      refine tkS 10 (some 14) ?_
      refine tkS 11 (some 15) ?_
      refine tkS 12 (some 16) ?_
      refine tkF 13 (some 17) ?_
      refine tkF 14 (some 18) ?_
      refine tkS 15 (some 19) ?_
      refine tkS 16 (some 20) ?_
      refine tkS 17 (some 21) ?_
      refine tkS 18 (some 22) ?_
      refine tkS 19 (some 23) ?_
      refine tkS 20 (some 24) ?_
      refine tkS 21 (some 25) ?_
      refine tkF 22 (some 26) ?_
      refine wpAnyH_done (by kernel_rfl) ?_ _
      generalize W0.drew = V at hHeld ⊢
      have BV : Below W0.heap.size W0 V := hHeld
      have d0 := cell_keep c0 BV
      have d1 := cell_keep c1 BV
      have d2 := cell_keep c2 BV
      have d3 := cell_keep c3 BV
      have ZV := HZ.out.keep BV
      have z0 := ZV.cell 0
      have z1 := ZV.cell 1
      have z2 := ZV.cell 2
      have z3 := ZV.cell 3
      simp at z0 z1 z2 z3
      have f0 := ZV.frozen 0
      have f1 := ZV.frozen 1
      have f2 := ZV.frozen 2
      have f3 := ZV.frozen 3
      go_wp2
      have rh := owns_keep HL.out.held BV
      have rr := owns_keep HL.out.ready BV
      have nh := ZV.ne (by decide) rh
      have nr := ZV.ne (by decide) rr
      have rh4 := ownsRow_setCell_other (ownsRow_setCell_other (ownsRow_setCell_other (ownsRow_setCell_other rh (a := ⟨w.heap.size + 1, 0, none⟩) (Ne.symm nh) (.int .i64 (nx : Int))) (a := ⟨w.heap.size + 1, 1, none⟩) (Ne.symm nh) (.slice ao xs.length ca)) (a := ⟨w.heap.size + 1, 2, none⟩) (Ne.symm nh) (.string o)) (a := ⟨w.heap.size + 1, 3, none⟩) (Ne.symm nh) (.slice so rs.length cs)
      have rr4 := ownsRow_setCell_other (ownsRow_setCell_other (ownsRow_setCell_other (ownsRow_setCell_other rr (a := ⟨w.heap.size + 1, 0, none⟩) (Ne.symm nr) (.int .i64 (nx : Int))) (a := ⟨w.heap.size + 1, 1, none⟩) (Ne.symm nr) (.slice ao xs.length ca)) (a := ⟨w.heap.size + 1, 2, none⟩) (Ne.symm nr) (.string o)) (a := ⟨w.heap.size + 1, 3, none⟩) (Ne.symm nr) (.slice so rs.length cs)
      have B4 := ((((HBL.out.trans (BV.mono (Nat.le_trans hbs HBL.out.size))).setCell (p := ⟨w.heap.size + 1, 0, none⟩) (by show base ≤ w.heap.size + 1; omega) (.int .i64 (nx : Int))).setCell (p := ⟨w.heap.size + 1, 1, none⟩) (by show base ≤ w.heap.size + 1; omega) (.slice ao xs.length ca)).setCell (p := ⟨w.heap.size + 1, 2, none⟩) (by show base ≤ w.heap.size + 1; omega) (.string o)).setCell (p := ⟨w.heap.size + 1, 3, none⟩) (by show base ≤ w.heap.size + 1; omega) (.slice so rs.length cs)
      refine bodyPost_ret (v := .agg #[.int .i64 (nx : Int), .slice ao xs.length ca, .string o, .slice so rs.length cs]) (by simp [results, Tryz.results80, go_sem, z0, z1, z2, z3]) rfl ?_
      rw [HT.out, hst.out]
      exact ⟨⟨_, _, rfl, rh4, rr4⟩, B4⟩
end Go.Proofs.YthjncmgjkejikaaGreat.mk
/-
  TAKING A PART: spec.TakePart.
-/
namespace Go.Proofs.YthjncmgjkejikaaGreat.mk
open Go.RowKit
set_option linter.unusedVariables false

theorem held_one0 (n : Int) (s : ByteArray) (l : Bool) : ∀ u ∈ ([.int .i64 n, .string s, .bool l] : List Value), u.oneCell' = true := by
  intro u hu; simp at hu; rcases hu with rfl | rfl | rfl <;> rfl
theorem ins_done (x : Hd) (pre : List Hd) (y : Hd) (h : ∃ z ∈ pre, x.seq < z.seq) : ins x (pre ++ [y]) = ins x pre ++ [y] := by
  induction pre with
  | nil => obtain ⟨z, hz, _⟩ := h; simp at hz
  | cons a bs ih =>
    show ins x (a :: (bs ++ [y])) = ins x (a :: bs) ++ [y]
    unfold ins
    by_cases hx : x.seq < a.seq
    · rw [if_pos hx, if_pos hx]; rfl
    · rw [if_neg hx, if_neg hx, ih (by obtain ⟨z, hz, hq⟩ := h; rcases List.mem_cons.1 hz with e | e; (subst e; exact absurd hq hx); exact ⟨z, e, hq⟩)]; rfl
theorem ins_here (x : Hd) (pre : List Hd) (y : Hd) (h : ∀ z ∈ pre, ¬ x.seq < z.seq) (hy : x.seq < y.seq) : ins x (pre ++ [y]) = (pre ++ [x]) ++ [y] := by
  induction pre with
  | nil => show ins x [y] = _; unfold ins; rw [if_pos hy]; rfl
  | cons a bs ih =>
    show ins x (a :: (bs ++ [y])) = _
    unfold ins
    rw [if_neg (h a (by simp)), ih (fun z hz => h z (by simp [hz]))]; rfl
theorem ins_end (x : Hd) (pre : List Hd) (h : ∀ z ∈ pre, ¬ x.seq < z.seq) : ins x pre = pre ++ [x] := by
  induction pre with
  | nil => rfl
  | cons a bs ih => unfold ins; rw [if_neg (h a (by simp)), ih (fun z hz => h z (by simp [hz]))]; rfl
theorem take_snoc7 (xs : List Hd) (k : Nat) (h : k < xs.length) : xs.take (k + 1) = xs.take k ++ [xs[k]] := by
  rw [List.take_add_one, List.getElem?_eq_getElem h]; rfl
theorem hs_snoc (xs : List Hd) (y : Hd) : hs (xs ++ [y]) = hs xs ++ [.int .i64 y.seq, .string y.text, .bool y.last] := by rw [hs_append]; rfl
theorem three_cell {W : World} {H j : Nat} {t : TypeId} {a b c u : Value} (hH : W.heap.size = H) (hj : ([a, b, c] : List Value)[j]? = some u) : (W.alloc (.cells #[a, b, c] t)).cell? ((⟨H, 0, none⟩ : Addr).add j) = some u := by
  subst hH
  have ea : (⟨W.heap.size, 0, none⟩ : Addr).add j = ⟨W.heap.size, j, none⟩ := by unfold Addr.add; split <;> simp_all
  rw [ea]
  match j, hj with
  | 0, hj => simp at hj; subst hj; simp [go_sem]
  | 1, hj => simp at hj; subst hj; simp [go_sem]
  | 2, hj => simp at hj; subst hj; simp [go_sem]
  | j + 3, hj => simp at hj
/-- the list in the making: k of the parts have been looked at, d: the new one has its place -/
def putUp (x : Hd) (xs : List Hd) (k : Nat) (d : Bool) : List Hd := if d then ins x (xs.take k) else xs.take k
structure Pu (x : Hd) (xs : List Hd) (k : Nat) (d : Bool) : Prop where
  le : k ≤ xs.length
  ne : ∀ z ∈ xs.take k, z.seq ≠ x.seq
  yes : d = true → ∃ z ∈ xs.take k, x.seq < z.seq
  no : d = false → ∀ z ∈ xs.take k, ¬ x.seq < z.seq
theorem Pu.len {x : Hd} {xs : List Hd} {k : Nat} {d : Bool} (h : Pu x xs k d) : (putUp x xs k d).length ≤ xs.length + 1 := by
  have := h.le
  unfold putUp
  split
  · rw [ins_length, List.length_take]; omega
  · rw [List.length_take]; omega
theorem Pu.step_done {x : Hd} {xs : List Hd} {k : Nat} (h : Pu x xs k true) (hk : k < xs.length) (hne : xs[k].seq ≠ x.seq) : Pu x xs (k + 1) true ∧ putUp x xs (k + 1) true = putUp x xs k true ++ [xs[k]] := by
  have e := take_snoc7 xs k hk
  obtain ⟨z, hz, hq⟩ := h.yes rfl
  refine ⟨⟨hk, ?_, fun _ => ⟨z, (by rw [e]; exact List.mem_append_left _ hz), hq⟩, fun h => (by cases h)⟩, ?_⟩
  · rw [e]; intro z hz; rcases List.mem_append.1 hz with q | q
    · exact h.ne z q
    · rw [List.mem_singleton] at q; rw [q]; exact hne
  · show ins x (xs.take (k + 1)) = ins x (xs.take k) ++ [xs[k]]
    rw [e]; exact ins_done x _ _ ⟨z, hz, hq⟩
theorem Pu.step_here {x : Hd} {xs : List Hd} {k : Nat} (h : Pu x xs k false) (hk : k < xs.length) (hne : x.seq < xs[k].seq) : Pu x xs (k + 1) true ∧ putUp x xs (k + 1) true = (putUp x xs k false ++ [x]) ++ [xs[k]] := by
  have e := take_snoc7 xs k hk
  refine ⟨⟨hk, ?_, fun _ => ⟨xs[k], (by rw [e]; exact List.mem_append_right _ (by simp)), hne⟩, fun h => (by cases h)⟩, ?_⟩
  · rw [e]; intro z hz; rcases List.mem_append.1 hz with q | q
    · exact h.ne z q
    · rw [List.mem_singleton] at q; rw [q]; omega
  · show ins x (xs.take (k + 1)) = (xs.take k ++ [x]) ++ [xs[k]]
    rw [e]; exact ins_here x _ _ (h.no rfl) hne
theorem Pu.step_not {x : Hd} {xs : List Hd} {k : Nat} (h : Pu x xs k false) (hk : k < xs.length) (hne : xs[k].seq < x.seq) : Pu x xs (k + 1) false ∧ putUp x xs (k + 1) false = putUp x xs k false ++ [xs[k]] := by
  have e := take_snoc7 xs k hk
  refine ⟨⟨hk, ?_, fun h => (by cases h), fun _ => ?_⟩, e⟩
  · rw [e]; intro z hz; rcases List.mem_append.1 hz with q | q
    · exact h.ne z q
    · rw [List.mem_singleton] at q; rw [q]; omega
  · rw [e]; intro z hz; rcases List.mem_append.1 hz with q | q
    · exact h.no rfl z q
    · rw [List.mem_singleton] at q; rw [q]; omega
set_option maxHeartbeats 1000000 in
theorem specPart_no (nx : Int) (ao so : Option Addr) (ca cs : Nat) (xs : List Hd) (o : ByteArray) (rs : List ByteArray) (q : Int) (s : ByteArray) (l : Bool) (w : World) (hn : xs.length ≤ 1048576) (ht : ∀ i (h : i < xs.length), xs[i].text.size ≤ 1048576) (ho : o.size ≤ 1048576) (hk : rs.length ≤ 1048576) (hz : ∀ i (h : i < rs.length), rs[i].size ≤ 1048576) (hsz : s.size ≤ 1048576) (hr : Rt w ao so xs rs) (hn1 : ao = none → xs.length = 0 ∧ ca = 0) (hn2 : so = none → rs.length = 0 ∧ cs = 0) (hv : tkOk nx xs o rs = false) :
    Calls Tryz.prog 40 #[.agg #[.int .i64 nx, .slice ao xs.length ca, .string o, .slice so rs.length cs], .int .i64 q, .agg #[.string s, .bool l]] w fun e w' => TakePost w (partOf nx xs o rs q s l) e w' := by
  have HC : Hid (∀ u : World, Rt u ao so xs rs → Calls Tryz.prog 47 #[.agg #[.int .i64 nx, .slice ao xs.length ca, .string o, .slice so rs.length cs]] u fun e w' => e = .returned (.bool false) ∧ Below u.heap.size u w') := fun u h => by have := specValidTake_any nx ao so ca cs xs o rs u hn ht ho hk hz h; rw [hv] at this; exact this
  have B0 : Hid (Below w.heap.size w (((w.alloc (.cells #[.int .i64 nx, .slice ao xs.length ca, .string o, .slice so rs.length cs] 37)).alloc (.cells #[.string s, .bool l] 65)).alloc (.cells #[.int .i64 0, .slice none 0 0, .string ⟨#[]⟩, .slice none 0 0] 37))) := three_below w _ _ _
  have R0 : Hid (Rt (((w.alloc (.cells #[.int .i64 nx, .slice ao xs.length ca, .string o, .slice so rs.length cs] 37)).alloc (.cells #[.string s, .bool l] 65)).alloc (.cells #[.int .i64 0, .slice none 0 0, .string ⟨#[]⟩, .slice none 0 0] 37)) ao so xs rs) := hr.keep B0.out
  have X0 : Hid (Bx (((w.alloc (.cells #[.int .i64 nx, .slice ao xs.length ca, .string o, .slice so rs.length cs] 37)).alloc (.cells #[.string s, .bool l] 65)).alloc (.cells #[.int .i64 0, .slice none 0 0, .string ⟨#[]⟩, .slice none 0 0] 37)) (w.heap.size + 1 + 1) 37 #[.int .i64 0, .slice none 0 0, .string ⟨#[]⟩, .slice none 0 0]) := (by have := Bx.new ((w.alloc (.cells #[.int .i64 nx, .slice ao xs.length ca, .string o, .slice so rs.length cs] 37)).alloc (.cells #[.string s, .bool l] 65)) 37 #[.int .i64 0, .slice none 0 0, .string ⟨#[]⟩, .slice none 0 0]; rw [World.size_alloc, World.size_alloc] at this; exact this : Bx (((w.alloc (.cells #[.int .i64 nx, .slice ao xs.length ca, .string o, .slice so rs.length cs] 37)).alloc (.cells #[.string s, .bool l] 65)).alloc (.cells #[.int .i64 0, .slice none 0 0, .string ⟨#[]⟩, .slice none 0 0] 37)) (w.heap.size + 1 + 1) 37 #[.int .i64 0, .slice none 0 0, .string ⟨#[]⟩, .slice none 0 0])
  have T0 : Hid (partOf nx xs o rs q s l = (0, [], ⟨#[]⟩, [])) := partOf_no hv
  clear ht hz hr hv hn1 hn2
  go_enter Tryz.func40, Tryz.ntmps40
  go_wp2_with (go_at_call 47; refine (HC.out _ R0.out).mono ?_; rintro e w1 ⟨rfl, hb1⟩; (have ZV := X0.out.keep hb1); (have z0 := ZV.cell 0); (have z1 := ZV.cell 1); (have z2 := ZV.cell 2); (have z3 := ZV.cell 3); simp at z0 z1 z2 z3; (have f0 := ZV.frozen 0); (have f1 := ZV.frozen 1); (have f2 := ZV.frozen 2); (have f3 := ZV.frozen 3))
  have B1 := kb B0.out hb1 (Nat.le_refl _)
  refine bodyPost_ret (v := .agg #[.int .i64 0, .slice none 0 0, .string ⟨#[]⟩, .slice none 0 0]) (by simp [results, Tryz.results40, go_sem, z0, z1, z2, z3]) rfl ?_
  unfold TakePost
  rw [T0.out]
  exact ⟨⟨_, _, rfl, World.ownsRow_nil _ _ _ _, World.ownsRow_nil _ _ _ _⟩, ((((B1.setCell (p := ⟨w.heap.size + 1 + 1, 0, none⟩) (by show w.heap.size ≤ w.heap.size + 1 + 1; omega) _).setCell (p := ⟨w.heap.size + 1 + 1, 1, none⟩) (by show w.heap.size ≤ w.heap.size + 1 + 1; omega) _).setCell (p := ⟨w.heap.size + 1 + 1, 2, none⟩) (by show w.heap.size ≤ w.heap.size + 1 + 1; omega) _).setCell (p := ⟨w.heap.size + 1 + 1, 3, none⟩) (by show w.heap.size ≤ w.heap.size + 1 + 1; omega) _)⟩
theorem bx_below {base : Nat} {u u' : World} {B : Nat} {t : TypeId} {cs : Array Value} (h : Bx u B t cs) (hb : Below base u u') (hlt : B < base) : Bx u' B t cs := (hb.block B hlt).trans h
theorem ins_small {nx : Nat} {xs : List Hd} {q : Int} {s : ByteArray} {l : Bool} (h : ∀ i (h : i < xs.length), xs[i].seq < 1000000 ∧ xs[i].text.size ≤ 20) (hp : Puts nx xs q s) (i : Nat) (hi : i < (ins ⟨q, s, l⟩ xs).length) : (ins ⟨q, s, l⟩ xs)[i].seq < 1000000 ∧ (ins ⟨q, s, l⟩ xs)[i].text.size ≤ 20 := by
  rcases (mem_ins _ _ _).1 (List.getElem_mem hi) with e | e
  · rw [e]; exact ⟨hp.1.2.2, hp.2.1⟩
  · obtain ⟨j, hj, e2⟩ := List.getElem_of_mem e
    rw [← e2]; exact h j hj
set_option maxRecDepth 100000 in
set_option maxHeartbeats 4000000 in
theorem specPart_yes (nx : Nat) (ao so : Option Addr) (ca cs : Nat) (xs : List Hd) (o : ByteArray) (rs : List ByteArray) (q : Int) (s : ByteArray) (l : Bool) (w : World) (hn : xs.length ≤ 1048576) (ht : ∀ i (h : i < xs.length), xs[i].text.size ≤ 1048576) (ho : o.size ≤ 1048576) (hk : rs.length ≤ 1048576) (hz : ∀ i (h : i < rs.length), rs[i].size ≤ 1048576) (hsz : s.size ≤ 1048576) (hr : Rt w ao so xs rs) (hn1 : ao = none → xs.length = 0 ∧ ca = 0) (hn2 : so = none → rs.length = 0 ∧ cs = 0) (hv : tkOk (nx : Int) xs o rs = true) :
    Calls Tryz.prog 40 #[.agg #[.int .i64 (nx : Int), .slice ao xs.length ca, .string o, .slice so rs.length cs], .int .i64 q, .agg #[.string s, .bool l]] w fun e w' => TakePost w (partOf (nx : Int) xs o rs q s l) e w' := by
  have hok := tkOk_of hv
  have hlen := hok.len
  have hhd := hok.1
  unfold TkHd at hhd
  have HSM : Hid (∀ i (h : i < xs.length), xs[i].seq < 1000000 ∧ xs[i].text.size ≤ 20) := fun i h => ⟨(hok.2.2 i h).2.2.1, (hok.2.2 i h).2.2.2.1⟩
  have HST : Hid (tin xs nx o rs = (nx, xs, o, rs)) := tin_stop (fun h0 e => (hok.2.2 0 h0).2.2.2.2 e)
  have HC : Hid (∀ u : World, Rt u ao so xs rs → Calls Tryz.prog 47 #[.agg #[.int .i64 (nx : Int), .slice ao xs.length ca, .string o, .slice so rs.length cs]] u fun e w' => e = .returned (.bool true) ∧ Below u.heap.size u w') := fun u h => by have := specValidTake_any (nx : Int) ao so ca cs xs o rs u hn ht ho hk hz h; rw [hv] at this; exact this
  have HP : Hid (∀ u : World, Rt u ao so xs rs → Calls Tryz.prog 51 #[.agg #[.int .i64 (nx : Int), .slice ao xs.length ca, .string o, .slice so rs.length cs]] u fun e w' => (∃ hv rv, e = .returned (.agg #[.int .i64 (nx : Int), hv, .string o, rv]) ∧ w'.ownsRow u.heap.size 95 3 hv xs.length (hs xs) ∧ w'.ownsRow u.heap.size 9 1 rv rs.length (ss rs)) ∧ Below u.heap.size u w') := fun u h => tcopy_any (nx : Int) ao so ca cs xs o rs u hn hk h hn1 hn2
  obtain ⟨D, hD⟩ : ∃ D, D = decide (NearIn (nx : Int) q) := ⟨_, rfl⟩
  have HN : Hid (∀ u : World, Calls Tryz.prog 79 #[.agg #[.int .i64 (nx : Int), .slice ao xs.length ca, .string o, .slice so rs.length cs], .int .i64 q] u fun e w' => e = .returned (.bool D) ∧ Below u.heap.size u w') := fun u => by rw [hD]; exact l5Near_any (nx : Int) ao so xs.length ca rs.length cs o q u (by omega) (by omega)
  have HD : Hid (D = decide (NearIn (nx : Int) q)) := hD
  have B0 : Hid (Below w.heap.size w (((w.alloc (.cells #[.int .i64 (nx : Int), .slice ao xs.length ca, .string o, .slice so rs.length cs] 37)).alloc (.cells #[.string s, .bool l] 65)).alloc (.cells #[.int .i64 0, .slice none 0 0, .string ⟨#[]⟩, .slice none 0 0] 37))) := three_below w _ _ _
  have R0 : Hid (Rt (((w.alloc (.cells #[.int .i64 (nx : Int), .slice ao xs.length ca, .string o, .slice so rs.length cs] 37)).alloc (.cells #[.string s, .bool l] 65)).alloc (.cells #[.int .i64 0, .slice none 0 0, .string ⟨#[]⟩, .slice none 0 0] 37)) ao so xs rs) := hr.keep B0.out
  have A0 : Hid (Bx (((w.alloc (.cells #[.int .i64 (nx : Int), .slice ao xs.length ca, .string o, .slice so rs.length cs] 37)).alloc (.cells #[.string s, .bool l] 65)).alloc (.cells #[.int .i64 0, .slice none 0 0, .string ⟨#[]⟩, .slice none 0 0] 37)) w.heap.size 37 #[.int .i64 (nx : Int), .slice ao xs.length ca, .string o, .slice so rs.length cs]) := ((Bx.new w _ _).alloc _).alloc _
  have P0 : Hid (Bx (((w.alloc (.cells #[.int .i64 (nx : Int), .slice ao xs.length ca, .string o, .slice so rs.length cs] 37)).alloc (.cells #[.string s, .bool l] 65)).alloc (.cells #[.int .i64 0, .slice none 0 0, .string ⟨#[]⟩, .slice none 0 0] 37)) (w.heap.size + 1) 65 #[.string s, .bool l]) := (by have := (Bx.new (w.alloc (.cells #[.int .i64 (nx : Int), .slice ao xs.length ca, .string o, .slice so rs.length cs] 37)) 65 #[.string s, .bool l]).alloc (.cells #[.int .i64 0, .slice none 0 0, .string ⟨#[]⟩, .slice none 0 0] 37); rw [World.size_alloc] at this; exact this : Bx (((w.alloc (.cells #[.int .i64 (nx : Int), .slice ao xs.length ca, .string o, .slice so rs.length cs] 37)).alloc (.cells #[.string s, .bool l] 65)).alloc (.cells #[.int .i64 0, .slice none 0 0, .string ⟨#[]⟩, .slice none 0 0] 37)) (w.heap.size + 1) 65 #[.string s, .bool l])
  have X0 : Hid (Bx (((w.alloc (.cells #[.int .i64 (nx : Int), .slice ao xs.length ca, .string o, .slice so rs.length cs] 37)).alloc (.cells #[.string s, .bool l] 65)).alloc (.cells #[.int .i64 0, .slice none 0 0, .string ⟨#[]⟩, .slice none 0 0] 37)) (w.heap.size + 1 + 1) 37 #[.int .i64 0, .slice none 0 0, .string ⟨#[]⟩, .slice none 0 0]) := (by have := Bx.new ((w.alloc (.cells #[.int .i64 (nx : Int), .slice ao xs.length ca, .string o, .slice so rs.length cs] 37)).alloc (.cells #[.string s, .bool l] 65)) 37 #[.int .i64 0, .slice none 0 0, .string ⟨#[]⟩, .slice none 0 0]; rw [World.size_alloc, World.size_alloc] at this; exact this : Bx (((w.alloc (.cells #[.int .i64 (nx : Int), .slice ao xs.length ca, .string o, .slice so rs.length cs] 37)).alloc (.cells #[.string s, .bool l] 65)).alloc (.cells #[.int .i64 0, .slice none 0 0, .string ⟨#[]⟩, .slice none 0 0] 37)) (w.heap.size + 1 + 1) 37 #[.int .i64 0, .slice none 0 0, .string ⟨#[]⟩, .slice none 0 0])
  have T0 : Hid (partOf (nx : Int) xs o rs q s l = tin (heldBy nx xs q s l) nx o rs) := partOf_yes hv
  have TN : Hid (¬ Puts nx xs q s → partOf (nx : Int) xs o rs q s l = (nx, xs, o, rs)) := fun h => by rw [T0.out, heldBy_no h, HST.out]
  clear ht hz hr hv hok hD hn1 hn2
  have CP : Hid (∀ u, Below (((w.alloc (.cells #[.int .i64 (nx : Int), .slice ao xs.length ca, .string o, .slice so rs.length cs] 37)).alloc (.cells #[.string s, .bool l] 65)).alloc (.cells #[.int .i64 0, .slice none 0 0, .string ⟨#[]⟩, .slice none 0 0] 37)).heap.size (((w.alloc (.cells #[.int .i64 (nx : Int), .slice ao xs.length ca, .string o, .slice so rs.length cs] 37)).alloc (.cells #[.string s, .bool l] 65)).alloc (.cells #[.int .i64 0, .slice none 0 0, .string ⟨#[]⟩, .slice none 0 0] 37)) u → Bx u w.heap.size 37 #[.int .i64 (nx : Int), .slice ao xs.length ca, .string o, .slice so rs.length cs] ∧ Bx u (w.heap.size + 1) 65 #[.string s, .bool l] ∧ Bx u (w.heap.size + 1 + 1) 37 #[.int .i64 0, .slice none 0 0, .string ⟨#[]⟩, .slice none 0 0]) := fun u h => ⟨A0.out.keep h, P0.out.keep h, X0.out.keep h⟩
  cases D with
  | false =>
    go_enter Tryz.func40, Tryz.ntmps40
    go_wp2_with (first
      | (go_at_call 47; refine (HC.out _ R0.out).mono ?_; rintro e w1 ⟨rfl, hb1⟩; (obtain ⟨a1, pp1, xx1⟩ := CP.out _ hb1); (have d0 := a1.cell 0); (have d1 := a1.cell 1); (have d2 := a1.cell 2); (have d3 := a1.cell 3); simp at d0 d1 d2 d3)
      | (go_at_call 51; refine (HP.out _ (R0.out.keep hb1)).mono ?_; rintro e w2 ⟨⟨hv2, rv2, rfl, h2, r2⟩, hb2⟩; (obtain ⟨a2, c2, rfl, -, -, -⟩ := rs_of_owns h2); (obtain ⟨b2, e2, rfl, -, -, -⟩ := rs_of_owns r2); clear d0 d1 d2 d3; (have A2 := a1.keep hb2); (have lt2 := A2.lt); (have d0 := A2.cell 0); (have d1 := A2.cell 1); (have d2 := A2.cell 2); (have d3 := A2.cell 3); simp at d0 d1 d2 d3)
      | (go_at_call 79; refine (HN.out _).mono ?_; rintro e w3 ⟨rfl, hb3⟩; clear d0 d1 d2 d3; (have A3 := (A2.alloc (.cells #[.int .i64 (nx : Int), .slice a2 xs.length c2, .string o, .slice b2 rs.length e2] 37)).keep hb3); (have d0 := A3.cell 0); (have d1 := A3.cell 1); (have d2 := A3.cell 2); (have d3 := A3.cell 3); simp at d0 d1 d2 d3; (have P3 := ((pp1.keep hb2).alloc (.cells #[.int .i64 (nx : Int), .slice a2 xs.length c2, .string o, .slice b2 rs.length e2] 37)).keep hb3); (have p0 := P3.cell 0); (have p1 := P3.cell 1); simp at p0 p1; (have X3 := ((xx1.keep hb2).alloc (.cells #[.int .i64 (nx : Int), .slice a2 xs.length c2, .string o, .slice b2 rs.length e2] 37)).keep hb3); (have z0 := X3.cell 0); (have z1 := X3.cell 1); (have z2 := X3.cell 2); (have z3 := X3.cell 3); simp at z0 z1 z2 z3; (have f0 := X3.frozen 0); (have f1 := X3.frozen 1); (have f2 := X3.frozen 2); (have f3 := X3.frozen 3); (have O3 := (Bx.new w2 37 #[.int .i64 (nx : Int), .slice a2 xs.length c2, .string o, .slice b2 rs.length e2]).keep hb3); (have o0 := O3.cell 0); (have o1 := O3.cell 1); (have o2 := O3.cell 2); (have o3 := O3.cell 3); simp at o0 o1 o2 o3; (have g0 := O3.frozen 0); (have g1 := O3.frozen 1); (have g2 := O3.frozen 2); (have g3 := O3.frozen 3))
      | fail)
    have B2 := kb (kb B0.out hb1 (Nat.le_refl _)) hb2 (Nat.le_refl _)
    have B2a := B2.alloc B2.size (.cells #[.int .i64 (nx : Int), .slice a2 xs.length c2, .string o, .slice b2 rs.length e2] 37)
    have B3 := kb B2a hb3 (Nat.le_refl _)
    have RH := owns_keep (h2.alloc (.cells #[.int .i64 (nx : Int), .slice a2 xs.length c2, .string o, .slice b2 rs.length e2] 37)) hb3
    have RR := owns_keep (r2.alloc (.cells #[.int .i64 (nx : Int), .slice a2 xs.length c2, .string o, .slice b2 rs.length e2] 37)) hb3
    have hW1 : Hid (w.heap.size ≤ w1.heap.size) := (kb B0.out hb1 (Nat.le_refl _)).size
    have ZV := X3
    have nh := ZV.ne (by decide) RH
    have nr := ZV.ne (by decide) RR
    have P1 := (ownsRow_setCell_other (ownsRow_setCell_other (ownsRow_setCell_other (ownsRow_setCell_other RH (a := ⟨w.heap.size + 1 + 1, 0, none⟩) (Ne.symm nh) (.int .i64 (nx : Int))) (a := ⟨w.heap.size + 1 + 1, 1, none⟩) (Ne.symm nh) (.slice a2 xs.length c2)) (a := ⟨w.heap.size + 1 + 1, 2, none⟩) (Ne.symm nh) (.string o)) (a := ⟨w.heap.size + 1 + 1, 3, none⟩) (Ne.symm nh) (.slice b2 rs.length e2))
    have P2 := (ownsRow_setCell_other (ownsRow_setCell_other (ownsRow_setCell_other (ownsRow_setCell_other RR (a := ⟨w.heap.size + 1 + 1, 0, none⟩) (Ne.symm nr) (.int .i64 (nx : Int))) (a := ⟨w.heap.size + 1 + 1, 1, none⟩) (Ne.symm nr) (.slice a2 xs.length c2)) (a := ⟨w.heap.size + 1 + 1, 2, none⟩) (Ne.symm nr) (.string o)) (a := ⟨w.heap.size + 1 + 1, 3, none⟩) (Ne.symm nr) (.slice b2 rs.length e2))
    refine bodyPost_ret (v := .agg #[.int .i64 (nx : Int), .slice a2 xs.length c2, .string o, .slice b2 rs.length e2]) (by simp [results, Tryz.results40, go_sem, z0, z1, z2, z3]) rfl ?_
    unfold TakePost
    rw [TN.out (fun h => by have := HD.out; rw [decide_eq_true h.1] at this; cases this)]
    exact ⟨⟨_, _, rfl, owns_mono3 P1 hW1.out, owns_mono3 P2 hW1.out⟩, ((((B3.setCell (p := ⟨w.heap.size + 1 + 1, 0, none⟩) (by show w.heap.size ≤ w.heap.size + 1 + 1; omega) (.int .i64 (nx : Int))).setCell (p := ⟨w.heap.size + 1 + 1, 1, none⟩) (by show w.heap.size ≤ w.heap.size + 1 + 1; omega) (.slice a2 xs.length c2)).setCell (p := ⟨w.heap.size + 1 + 1, 2, none⟩) (by show w.heap.size ≤ w.heap.size + 1 + 1; omega) (.string o)).setCell (p := ⟨w.heap.size + 1 + 1, 3, none⟩) (by show w.heap.size ≤ w.heap.size + 1 + 1; omega) (.slice b2 rs.length e2))⟩
  | true =>
    by_cases hbig : 20 < s.size
    · skip
      go_enter Tryz.func40, Tryz.ntmps40
      go_wp2_with (first
        | (go_at_call 47; refine (HC.out _ R0.out).mono ?_; rintro e w1 ⟨rfl, hb1⟩; (obtain ⟨a1, pp1, xx1⟩ := CP.out _ hb1); (have d0 := a1.cell 0); (have d1 := a1.cell 1); (have d2 := a1.cell 2); (have d3 := a1.cell 3); simp at d0 d1 d2 d3)
        | (go_at_call 51; refine (HP.out _ (R0.out.keep hb1)).mono ?_; rintro e w2 ⟨⟨hv2, rv2, rfl, h2, r2⟩, hb2⟩; (obtain ⟨a2, c2, rfl, -, -, -⟩ := rs_of_owns h2); (obtain ⟨b2, e2, rfl, -, -, -⟩ := rs_of_owns r2); clear d0 d1 d2 d3; (have A2 := a1.keep hb2); (have lt2 := A2.lt); (have d0 := A2.cell 0); (have d1 := A2.cell 1); (have d2 := A2.cell 2); (have d3 := A2.cell 3); simp at d0 d1 d2 d3)
        | (go_at_call 79; refine (HN.out _).mono ?_; rintro e w3 ⟨rfl, hb3⟩; clear d0 d1 d2 d3; (have A3 := (A2.alloc (.cells #[.int .i64 (nx : Int), .slice a2 xs.length c2, .string o, .slice b2 rs.length e2] 37)).keep hb3); (have d0 := A3.cell 0); (have d1 := A3.cell 1); (have d2 := A3.cell 2); (have d3 := A3.cell 3); simp at d0 d1 d2 d3; (have P3 := ((pp1.keep hb2).alloc (.cells #[.int .i64 (nx : Int), .slice a2 xs.length c2, .string o, .slice b2 rs.length e2] 37)).keep hb3); (have p0 := P3.cell 0); (have p1 := P3.cell 1); simp at p0 p1; (have X3 := ((xx1.keep hb2).alloc (.cells #[.int .i64 (nx : Int), .slice a2 xs.length c2, .string o, .slice b2 rs.length e2] 37)).keep hb3); (have z0 := X3.cell 0); (have z1 := X3.cell 1); (have z2 := X3.cell 2); (have z3 := X3.cell 3); simp at z0 z1 z2 z3; (have f0 := X3.frozen 0); (have f1 := X3.frozen 1); (have f2 := X3.frozen 2); (have f3 := X3.frozen 3); (have O3 := (Bx.new w2 37 #[.int .i64 (nx : Int), .slice a2 xs.length c2, .string o, .slice b2 rs.length e2]).keep hb3); (have o0 := O3.cell 0); (have o1 := O3.cell 1); (have o2 := O3.cell 2); (have o3 := O3.cell 3); simp at o0 o1 o2 o3; (have g0 := O3.frozen 0); (have g1 := O3.frozen 1); (have g2 := O3.frozen 2); (have g3 := O3.frozen 3))
        | fail)
      have B2 := kb (kb B0.out hb1 (Nat.le_refl _)) hb2 (Nat.le_refl _)
      have B2a := B2.alloc B2.size (.cells #[.int .i64 (nx : Int), .slice a2 xs.length c2, .string o, .slice b2 rs.length e2] 37)
      have B3 := kb B2a hb3 (Nat.le_refl _)
      have RH := owns_keep (h2.alloc (.cells #[.int .i64 (nx : Int), .slice a2 xs.length c2, .string o, .slice b2 rs.length e2] 37)) hb3
      have RR := owns_keep (r2.alloc (.cells #[.int .i64 (nx : Int), .slice a2 xs.length c2, .string o, .slice b2 rs.length e2] 37)) hb3
      have hW1 : Hid (w.heap.size ≤ w1.heap.size) := (kb B0.out hb1 (Nat.le_refl _)).size
      have ZV := X3
      have nh := ZV.ne (by decide) RH
      have nr := ZV.ne (by decide) RR
      have P1 := (ownsRow_setCell_other (ownsRow_setCell_other (ownsRow_setCell_other (ownsRow_setCell_other RH (a := ⟨w.heap.size + 1 + 1, 0, none⟩) (Ne.symm nh) (.int .i64 (nx : Int))) (a := ⟨w.heap.size + 1 + 1, 1, none⟩) (Ne.symm nh) (.slice a2 xs.length c2)) (a := ⟨w.heap.size + 1 + 1, 2, none⟩) (Ne.symm nh) (.string o)) (a := ⟨w.heap.size + 1 + 1, 3, none⟩) (Ne.symm nh) (.slice b2 rs.length e2))
      have P2 := (ownsRow_setCell_other (ownsRow_setCell_other (ownsRow_setCell_other (ownsRow_setCell_other RR (a := ⟨w.heap.size + 1 + 1, 0, none⟩) (Ne.symm nr) (.int .i64 (nx : Int))) (a := ⟨w.heap.size + 1 + 1, 1, none⟩) (Ne.symm nr) (.slice a2 xs.length c2)) (a := ⟨w.heap.size + 1 + 1, 2, none⟩) (Ne.symm nr) (.string o)) (a := ⟨w.heap.size + 1 + 1, 3, none⟩) (Ne.symm nr) (.slice b2 rs.length e2))
      refine bodyPost_ret (v := .agg #[.int .i64 (nx : Int), .slice a2 xs.length c2, .string o, .slice b2 rs.length e2]) (by simp [results, Tryz.results40, go_sem, z0, z1, z2, z3]) rfl ?_
      unfold TakePost
      rw [TN.out (fun h => by have := h.2.1; omega)]
      exact ⟨⟨_, _, rfl, owns_mono3 P1 hW1.out, owns_mono3 P2 hW1.out⟩, ((((B3.setCell (p := ⟨w.heap.size + 1 + 1, 0, none⟩) (by show w.heap.size ≤ w.heap.size + 1 + 1; omega) (.int .i64 (nx : Int))).setCell (p := ⟨w.heap.size + 1 + 1, 1, none⟩) (by show w.heap.size ≤ w.heap.size + 1 + 1; omega) (.slice a2 xs.length c2)).setCell (p := ⟨w.heap.size + 1 + 1, 2, none⟩) (by show w.heap.size ≤ w.heap.size + 1 + 1; omega) (.string o)).setCell (p := ⟨w.heap.size + 1 + 1, 3, none⟩) (by show w.heap.size ≤ w.heap.size + 1 + 1; omega) (.slice b2 rs.length e2))⟩
    · skip
      go_enter Tryz.func40, Tryz.ntmps40
      go_wp2_with (first
        | (go_at_call 47; refine (HC.out _ R0.out).mono ?_; rintro e w1 ⟨rfl, hb1⟩; (obtain ⟨a1, pp1, xx1⟩ := CP.out _ hb1); (have d0 := a1.cell 0); (have d1 := a1.cell 1); (have d2 := a1.cell 2); (have d3 := a1.cell 3); simp at d0 d1 d2 d3)
        | (go_at_call 51; refine (HP.out _ (R0.out.keep hb1)).mono ?_; rintro e w2 ⟨⟨hv2, rv2, rfl, h2, r2⟩, hb2⟩; (obtain ⟨a2, c2, rfl, -, -, -⟩ := rs_of_owns h2); (obtain ⟨b2, e2, rfl, -, -, -⟩ := rs_of_owns r2); clear d0 d1 d2 d3; (have A2 := a1.keep hb2); (have lt2 := A2.lt); (have d0 := A2.cell 0); (have d1 := A2.cell 1); (have d2 := A2.cell 2); (have d3 := A2.cell 3); simp at d0 d1 d2 d3)
        | (go_at_call 79; refine (HN.out _).mono ?_; rintro e w3 ⟨rfl, hb3⟩; clear d0 d1 d2 d3; (have A3 := (A2.alloc (.cells #[.int .i64 (nx : Int), .slice a2 xs.length c2, .string o, .slice b2 rs.length e2] 37)).keep hb3); (have d0 := A3.cell 0); (have d1 := A3.cell 1); (have d2 := A3.cell 2); (have d3 := A3.cell 3); simp at d0 d1 d2 d3; (have P3 := ((pp1.keep hb2).alloc (.cells #[.int .i64 (nx : Int), .slice a2 xs.length c2, .string o, .slice b2 rs.length e2] 37)).keep hb3); (have p0 := P3.cell 0); (have p1 := P3.cell 1); simp at p0 p1; (have X3 := ((xx1.keep hb2).alloc (.cells #[.int .i64 (nx : Int), .slice a2 xs.length c2, .string o, .slice b2 rs.length e2] 37)).keep hb3); (have z0 := X3.cell 0); (have z1 := X3.cell 1); (have z2 := X3.cell 2); (have z3 := X3.cell 3); simp at z0 z1 z2 z3; (have f0 := X3.frozen 0); (have f1 := X3.frozen 1); (have f2 := X3.frozen 2); (have f3 := X3.frozen 3); (have O3 := (Bx.new w2 37 #[.int .i64 (nx : Int), .slice a2 xs.length c2, .string o, .slice b2 rs.length e2]).keep hb3); (have o0 := O3.cell 0); (have o1 := O3.cell 1); (have o2 := O3.cell 2); (have o3 := O3.cell 3); simp at o0 o1 o2 o3; (have g0 := O3.frozen 0); (have g1 := O3.frozen 1); (have g2 := O3.frozen 2); (have g3 := O3.frozen 3))
        | fail)
      have B2 := kb (kb B0.out hb1 (Nat.le_refl _)) hb2 (Nat.le_refl _)
      have B2a := B2.alloc B2.size (.cells #[.int .i64 (nx : Int), .slice a2 xs.length c2, .string o, .slice b2 rs.length e2] 37)
      have B3 := kb B2a hb3 (Nat.le_refl _)
      have RH := owns_keep (h2.alloc (.cells #[.int .i64 (nx : Int), .slice a2 xs.length c2, .string o, .slice b2 rs.length e2] 37)) hb3
      have RR := owns_keep (r2.alloc (.cells #[.int .i64 (nx : Int), .slice a2 xs.length c2, .string o, .slice b2 rs.length e2] 37)) hb3
      have hW1 : Hid (w.heap.size ≤ w1.heap.size) := (kb B0.out hb1 (Nat.le_refl _)).size
      have KA : Hid (∀ u, Below w3.heap.size w3 u → Bx u w.heap.size 37 #[.int .i64 (nx : Int), .slice ao xs.length ca, .string o, .slice so rs.length cs] ∧ Bx u (w.heap.size + 1) 65 #[.string s, .bool l] ∧ Bx u (w.heap.size + 1 + 1) 37 #[.int .i64 0, .slice none 0 0, .string ⟨#[]⟩, .slice none 0 0] ∧ Bx u w2.heap.size 37 #[.int .i64 (nx : Int), .slice a2 xs.length c2, .string o, .slice b2 rs.length e2] ∧ u.ownsRow w1.heap.size 95 3 (.slice a2 xs.length c2) xs.length (hs xs) ∧ u.ownsRow w1.heap.size 9 1 (.slice b2 rs.length e2) rs.length (ss rs)) := fun u h => ⟨A3.keep h, P3.keep h, X3.keep h, O3.keep h, owns_keep RH h, owns_keep RR h⟩
      have RA : Hid (Rs w3 ao xs.length (hs xs)) := (((((R0.out.keep hb1).held).keep hb2).keep ((Below.refl _ _).alloc (Nat.le_refl _) _)).keep hb3)
      have E0 : Hid ((w3.alloc (.cells #[] 95)).ownsRow w3.heap.size 95 3 (.slice (some ⟨w3.heap.size, 0, none⟩) 0 0) 0 []) := own0 95 3 w3 w3.heap.size (Nat.le_refl _) _ rfl
      have HB3 : Hid (Below w.heap.size w w3) := B3
      have hlx : Hid (w.heap.size + 1 + 1 < w1.heap.size) := xx1.lt
      have hl13 : Hid (w1.heap.size ≤ w3.heap.size) := Nat.le_trans hb2.size (Nat.le_trans (by simp) hb3.size)
      have hrw : w.heap.size + 1 + 1 < w2.heap.size := Nat.lt_of_lt_of_le xx1.lt hb2.size
      have h23 : w2.heap.size < w3.heap.size := O3.lt
      obtain ⟨iH, hiH, hH1, hH2, hH3⟩ := info_parts info_held
      clear d0 d1 d2 d3 p0 p1 z0 z1 z2 z3 f0 f1 f2 f3 o0 o1 o2 o3 g0 g1 g2 g3 A2 A3 P3 X3 O3 RH RR B2 B2a B3 h2 r2 hb1 hb2 hb3 a1 pp1 xx1 HC HP HN lt2
      go_loopw [8, 9, 10] (fun v dn i wr => ∃ (k : Nat) (d : Bool), i = .int .i64 k ∧ dn = .bool d ∧ Pu ⟨q, s, l⟩ xs k d ∧ wr.ownsRow w3.heap.size 95 3 v (putUp ⟨q, s, l⟩ xs k d).length (hs (putUp ⟨q, s, l⟩ xs k d)) ∧ Below w3.heap.size w3 wr) (fun _ _ i _ => xs.length - (intOf i).toNat)
      case atStart => exact ⟨0, false, rfl, rfl, ⟨Nat.zero_le _, fun z hz => by simp at hz, fun h => (by cases h), fun _ z hz => by simp at hz⟩, E0.out, (Below.refl _ _).alloc (Nat.le_refl _) _⟩
      case round =>
        obtain ⟨k, d, rfl, rfl, hP, hL, hB⟩ := hrel
        have hLl := hP.len
        obtain ⟨L, hLd⟩ : ∃ L, L = putUp ⟨q, s, l⟩ xs k d := ⟨_, rfl⟩
        rw [← hLd] at hL hLl
        have HLD : Hid (L = putUp ⟨q, s, l⟩ xs k d) := hLd
        clear hLd E0
        obtain ⟨la, lc, rfl, -, -, -⟩ := rs_of_owns hL
        obtain ⟨kA, kP, kX, kO, RH, RR⟩ := KA.out wr hB; (have d0 := kA.cell 0); (have d1 := kA.cell 1); (have d2 := kA.cell 2); (have d3 := kA.cell 3); simp at d0 d1 d2 d3; (have p0 := kP.cell 0); (have p1 := kP.cell 1); simp at p0 p1; (have z0 := kX.cell 0); (have z1 := kX.cell 1); (have z2 := kX.cell 2); (have z3 := kX.cell 3); simp at z0 z1 z2 z3; (have f0 := kX.frozen 0); (have f1 := kX.frozen 1); (have f2 := kX.frozen 2); (have f3 := kX.frozen 3); (have o0 := kO.cell 0); (have o1 := kO.cell 1); (have o2 := kO.cell 2); (have o3 := kO.cell 3); simp at o0 o1 o2 o3; (have g0 := kO.frozen 0); (have g1 := kO.frozen 1); (have g2 := kO.frozen 2); (have g3 := kO.frozen 3)
        by_cases hlt : k < xs.length
        · obtain ⟨ga, rfl, hga, hgc⟩ : ∃ g, ao = some ⟨g, 0, none⟩ ∧ g < w3.heap.size ∧ ∀ j, j < (hs xs).length → w3.cell? ⟨g, j, none⟩ = (hs xs)[j]? := by
            rcases RA.out.ex with e | e
            · omega
            · exact e
          have hhl := hs_length xs
          obtain ⟨k0', k1', k2'⟩ := hs_at xs k hlt
          have k0 := (hgc (k * 3) (by omega)).trans k0'
          have k1 := (hgc (k * 3 + 1) (by omega)).trans k1'
          have k2 := (hgc (k * 3 + 2) (by omega)).trans k2'
          obtain ⟨y, hy⟩ : ∃ y, y = xs[k] := ⟨_, rfl⟩
          rw [← hy] at k0 k1 k2
          have HY : Hid (xs[k] = y) := hy.symm
          have Y0 : Hid (w3.cell? ⟨ga, k * 3, none⟩ = some (.int .i64 y.seq)) := k0
          have Y1 : Hid (w3.cell? ⟨ga, k * 3 + 1, none⟩ = some (.string y.text)) := k1
          have Y2 : Hid (w3.cell? ⟨ga, k * 3 + 2, none⟩ = some (.bool y.last)) := k2
          have y0 := cell_keep k0 hB
          have y1 := cell_keep k1 hB
          have y2 := cell_keep k2 hB
          clear k0 k1 k2 k0' k1' k2' hgc hy hhl RA
          by_cases he : y.seq = q
          · have he' := he
            have hNP : Hid (¬ Puts nx xs q s) := fun h => h.2.2 y (by rw [← HY.out]; exact List.getElem_mem hlt) he
            go_wp2
            have ZV := kX
            have B3 := kb HB3.out hB (Nat.le_refl _)
            have hW1 : Hid (w.heap.size ≤ w1.heap.size) := (by have := hlx.out; omega : w.heap.size ≤ w1.heap.size)
            have nh := ZV.ne (by decide) RH
            have nr := ZV.ne (by decide) RR
            have P1 := (ownsRow_setCell_other (ownsRow_setCell_other (ownsRow_setCell_other (ownsRow_setCell_other RH (a := ⟨w.heap.size + 1 + 1, 0, none⟩) (Ne.symm nh) (.int .i64 (nx : Int))) (a := ⟨w.heap.size + 1 + 1, 1, none⟩) (Ne.symm nh) (.slice a2 xs.length c2)) (a := ⟨w.heap.size + 1 + 1, 2, none⟩) (Ne.symm nh) (.string o)) (a := ⟨w.heap.size + 1 + 1, 3, none⟩) (Ne.symm nh) (.slice b2 rs.length e2))
            have P2 := (ownsRow_setCell_other (ownsRow_setCell_other (ownsRow_setCell_other (ownsRow_setCell_other RR (a := ⟨w.heap.size + 1 + 1, 0, none⟩) (Ne.symm nr) (.int .i64 (nx : Int))) (a := ⟨w.heap.size + 1 + 1, 1, none⟩) (Ne.symm nr) (.slice a2 xs.length c2)) (a := ⟨w.heap.size + 1 + 1, 2, none⟩) (Ne.symm nr) (.string o)) (a := ⟨w.heap.size + 1 + 1, 3, none⟩) (Ne.symm nr) (.slice b2 rs.length e2))
            refine bodyPost_ret (v := .agg #[.int .i64 (nx : Int), .slice a2 xs.length c2, .string o, .slice b2 rs.length e2]) (by simp [results, Tryz.results40, go_sem, z0, z1, z2, z3]) rfl ?_
            unfold TakePost
            rw [TN.out hNP.out]
            exact ⟨⟨_, _, rfl, owns_mono3 P1 hW1.out, owns_mono3 P2 hW1.out⟩, ((((B3.setCell (p := ⟨w.heap.size + 1 + 1, 0, none⟩) (by show w.heap.size ≤ w.heap.size + 1 + 1; omega) (.int .i64 (nx : Int))).setCell (p := ⟨w.heap.size + 1 + 1, 1, none⟩) (by show w.heap.size ≤ w.heap.size + 1 + 1; omega) (.slice a2 xs.length c2)).setCell (p := ⟨w.heap.size + 1 + 1, 2, none⟩) (by show w.heap.size ≤ w.heap.size + 1 + 1; omega) (.string o)).setCell (p := ⟨w.heap.size + 1 + 1, 3, none⟩) (by show w.heap.size ≤ w.heap.size + 1 + 1; omega) (.slice b2 rs.length e2))⟩
          · cases d with
          | true =>
            go_wp2_with (at_builtin; refine list_append_any _ rfl _ _ 35 rfl w3.heap.size 95 iH (.agg #[.int .i64 0, .string ⟨#[]⟩, .bool false]) 3 32 Tryz.underlying35 hiH hH1 hH2 hH3 rfl (by decide) (.slice la L.length lc) (L.length) (hs L) rfl (hL.alloc (.cells #[.int .i64 y.seq, .string y.text, .bool y.last] 95)) (some ⟨wr.heap.size, 0, none⟩) 1 1 [.int .i64 y.seq, .string y.text, .bool y.last] rfl rfl (fun e => by cases e) (fun ad had j u hj => by cases had; exact three_cell rfl hj) (held_one0 _ _ _) (by unfold maxLen; omega) (by omega) (Nat.le_trans hB.size (by simp)) ?_; intro v5 w5 O5 h5; (obtain ⟨v5a, v5c, rfl, -, -, -⟩ := rs_of_owns O5); (have B5 : Below w3.heap.size w3 w5 := (hB.alloc hB.size (.cells #[.int .i64 y.seq, .string y.text, .bool y.last] 95)).grown h5 (Nat.le_trans hB.size (by simp)) (fun k hk => ((hL.alloc (.cells #[.int .i64 y.seq, .string y.text, .bool y.last] 95)).lt k hk).1)))
            obtain ⟨hP', hE⟩ := hP.step_done hlt (by rw [HY.out]; exact he)
            rw [HY.out, ← HLD.out] at hE
            exact ⟨⟨k + 1, true, rfl, rfl, hP', by rw [hE, hs_snoc, List.length_append]; exact O5, B5⟩, by simp [intOf]; omega⟩
          | false =>
            by_cases hgt : q < y.seq
            · skip
              go_wp2_with (first | (at_builtin; refine list_append_any _ rfl _ _ 35 rfl w3.heap.size 95 iH (.agg #[.int .i64 0, .string ⟨#[]⟩, .bool false]) 3 32 Tryz.underlying35 hiH hH1 hH2 hH3 rfl (by decide) (.slice la L.length lc) (L.length) (hs L) rfl (hL.alloc (.cells #[.int .i64 q, .string s, .bool l] 95)) (some ⟨wr.heap.size, 0, none⟩) 1 1 [.int .i64 q, .string s, .bool l] rfl rfl (fun e => by cases e) (fun ad had j u hj => by cases had; exact three_cell rfl hj) (held_one0 _ _ _) (by unfold maxLen; omega) (by omega) (Nat.le_trans hB.size (by simp)) ?_; intro v5 w5 O5 h5; (obtain ⟨v5a, v5c, rfl, -, -, -⟩ := rs_of_owns O5); (have B5 : Below w3.heap.size w3 w5 := (hB.alloc hB.size (.cells #[.int .i64 q, .string s, .bool l] 95)).grown h5 (Nat.le_trans hB.size (by simp)) (fun k hk => ((hL.alloc (.cells #[.int .i64 q, .string s, .bool l] 95)).lt k hk).1)); clear d0 d1 d2 d3 p0 p1 z0 z1 z2 z3 f0 f1 f2 f3 o0 o1 o2 o3 g0 g1 g2 g3 kA kP kX kO RH RR; clear y0 y1 y2; (obtain ⟨kA, kP, kX, kO, RH, RR⟩ := KA.out w5 B5); (have d0 := kA.cell 0); (have d1 := kA.cell 1); (have d2 := kA.cell 2); (have d3 := kA.cell 3); simp at d0 d1 d2 d3; (have p0 := kP.cell 0); (have p1 := kP.cell 1); simp at p0 p1; (have z0 := kX.cell 0); (have z1 := kX.cell 1); (have z2 := kX.cell 2); (have z3 := kX.cell 3); simp at z0 z1 z2 z3; (have f0 := kX.frozen 0); (have f1 := kX.frozen 1); (have f2 := kX.frozen 2); (have f3 := kX.frozen 3); (have o0 := kO.cell 0); (have o1 := kO.cell 1); (have o2 := kO.cell 2); (have o3 := kO.cell 3); simp at o0 o1 o2 o3; (have g0 := kO.frozen 0); (have g1 := kO.frozen 1); (have g2 := kO.frozen 2); (have g3 := kO.frozen 3); (have y0 := cell_keep Y0.out B5); (have y1 := cell_keep Y1.out B5); (have y2 := cell_keep Y2.out B5)) | (at_builtin; refine list_append_any _ rfl _ _ 35 rfl w3.heap.size 95 iH (.agg #[.int .i64 0, .string ⟨#[]⟩, .bool false]) 3 32 Tryz.underlying35 hiH hH1 hH2 hH3 rfl (by decide) (.slice v5a (L.length + 1) v5c) (L.length + 1) (hs L ++ [.int .i64 q, .string s, .bool l]) rfl (O5.alloc (.cells #[.int .i64 y.seq, .string y.text, .bool y.last] 95)) (some ⟨w5.heap.size, 0, none⟩) 1 1 [.int .i64 y.seq, .string y.text, .bool y.last] rfl rfl (fun e => by cases e) (fun ad had j u hj => by cases had; exact three_cell rfl hj) (held_one0 _ _ _) (by unfold maxLen; omega) (by omega) (Nat.le_trans B5.size (by simp)) ?_; intro v6 w6 O6 h6; (obtain ⟨v6a, v6c, rfl, -, -, -⟩ := rs_of_owns O6); (have B6 : Below w3.heap.size w3 w6 := (B5.alloc B5.size (.cells #[.int .i64 y.seq, .string y.text, .bool y.last] 95)).grown h6 (Nat.le_trans B5.size (by simp)) (fun k hk => ((O5.alloc (.cells #[.int .i64 y.seq, .string y.text, .bool y.last] 95)).lt k hk).1))) | fail)
              obtain ⟨hP', hE⟩ := hP.step_here hlt (by rw [HY.out]; exact hgt)
              rw [HY.out, ← HLD.out] at hE
              exact ⟨⟨k + 1, true, rfl, rfl, hP', by rw [hE, hs_snoc, hs_snoc, List.length_append, List.length_append]; exact O6, B6⟩, by simp [intOf]; omega⟩
            · skip
              go_wp2_with (at_builtin; refine list_append_any _ rfl _ _ 35 rfl w3.heap.size 95 iH (.agg #[.int .i64 0, .string ⟨#[]⟩, .bool false]) 3 32 Tryz.underlying35 hiH hH1 hH2 hH3 rfl (by decide) (.slice la L.length lc) (L.length) (hs L) rfl (hL.alloc (.cells #[.int .i64 y.seq, .string y.text, .bool y.last] 95)) (some ⟨wr.heap.size, 0, none⟩) 1 1 [.int .i64 y.seq, .string y.text, .bool y.last] rfl rfl (fun e => by cases e) (fun ad had j u hj => by cases had; exact three_cell rfl hj) (held_one0 _ _ _) (by unfold maxLen; omega) (by omega) (Nat.le_trans hB.size (by simp)) ?_; intro v5 w5 O5 h5; (obtain ⟨v5a, v5c, rfl, -, -, -⟩ := rs_of_owns O5); (have B5 : Below w3.heap.size w3 w5 := (hB.alloc hB.size (.cells #[.int .i64 y.seq, .string y.text, .bool y.last] 95)).grown h5 (Nat.le_trans hB.size (by simp)) (fun k hk => ((hL.alloc (.cells #[.int .i64 y.seq, .string y.text, .bool y.last] 95)).lt k hk).1)))
              obtain ⟨hP', hE⟩ := hP.step_not hlt (by rw [HY.out]; show y.seq < q; omega)
              rw [HY.out, ← HLD.out] at hE
              exact ⟨⟨k + 1, false, rfl, rfl, hP', by rw [hE, hs_snoc, List.length_append]; exact O5, B5⟩, by simp [intOf]; omega⟩
        · obtain rfl : k = xs.length := by have := hP.le; omega
          have hPuts : Puts nx xs q s := ⟨by have := HD.out; simpa using this.symm, by omega, fun y hy => hP.ne y (by rw [List.take_of_length_le (Nat.le_refl _)]; exact hy)⟩
          obtain ⟨m, zs, p, ts, hT⟩ : ∃ m zs p ts, tin (ins ⟨q, s, l⟩ xs) nx o rs = (m, zs, p, ts) := ⟨_, _, _, _, rfl⟩
          have hT1 : Hid (partOf (nx : Int) xs o rs q s l = (m, zs, p, ts)) := (by rw [T0.out, heldBy_yes hPuts, hT] : partOf (nx : Int) xs o rs q s l = (m, zs, p, ts))
          have hIL : (ins ⟨q, s, l⟩ xs).length = xs.length + 1 := ins_length _ _
          have HLI : Hid (∀ (u : World) (hv rv : Value), u.ownsRow w1.heap.size 95 3 hv (xs.length + 1) (hs (ins ⟨q, s, l⟩ xs)) → u.ownsRow w1.heap.size 9 1 rv rs.length (ss rs) → w1.heap.size ≤ u.heap.size → Calls Tryz.prog 80 #[.agg #[.int .i64 (nx : Int), hv, .string o, rv]] u fun e w' => (∃ hv' rv', e = .returned (.agg #[.int .i64 ((m : Nat) : Int), hv', .string p, rv']) ∧ w'.ownsRow w1.heap.size 95 3 hv' zs.length (hs zs) ∧ w'.ownsRow w1.heap.size 9 1 rv' ts.length (ss ts)) ∧ Below w1.heap.size u w') := fun u hv rv g1 g2 g3 => by
            have := l5In_any w1.heap.size nx (ins ⟨q, s, l⟩ xs) o rs hv rv u (by rw [hIL]; exact g1) g2 (fun i h => ins_small HSM.out hPuts i h) (by omega) (by omega) (by omega) (by omega) g3
            rw [hT] at this
            exact this
          clear hPuts hT
          cases d with
          | true =>
            have hLe : L = ins ⟨q, s, l⟩ xs := by rw [HLD.out]; show ins _ (xs.take xs.length) = _; rw [List.take_of_length_le (Nat.le_refl _)]
            have hLn : L.length = xs.length + 1 := by rw [hLe, hIL]
            rw [hLe, hIL] at hL
            rw [hLn]
            go_wp2_with (first | (go_at_call 80; go_must ((have N1 := kO.ne (by decide) hL); (have N2 := kO.ne (by decide) RR); (have H8 := ownsRow_setCell_other hL (a := ⟨w2.heap.size, 1, none⟩) (Ne.symm N1) (.slice la (xs.length + 1) lc)); (have R8 := ownsRow_setCell_other RR (a := ⟨w2.heap.size, 1, none⟩) (Ne.symm N2) (.slice la (xs.length + 1) lc)); (have X8 := kX.other ⟨w2.heap.size, 1, none⟩ (by show w.heap.size + 1 + 1 ≠ w2.heap.size; omega) (.slice la (xs.length + 1) lc)); (have S8 : w1.heap.size ≤ (wr.setCell ⟨w2.heap.size, 1, none⟩ (.slice la (xs.length + 1) lc)).heap.size := (by have := hl13.out; have := hB.size; simp; omega)); refine (HLI.out (wr.setCell ⟨w2.heap.size, 1, none⟩ (.slice la (xs.length + 1) lc)) _ _ (owns_mono3 H8 hl13.out) R8 S8).mono ?_; rintro e w8 ⟨⟨hv8, rv8, rfl, h8, r8⟩, hb8⟩; (obtain ⟨a8, c8, rfl, -, -, -⟩ := rs_of_owns h8); (obtain ⟨b8, e8, rfl, -, -, -⟩ := rs_of_owns r8); (have ZV := bx_below X8 hb8 hlx.out); clear z0 z1 z2 z3 f0 f1 f2 f3; (have z0 := ZV.cell 0); (have z1 := ZV.cell 1); (have z2 := ZV.cell 2); (have z3 := ZV.cell 3); simp at z0 z1 z2 z3; (have f0 := ZV.frozen 0); (have f1 := ZV.frozen 1); (have f2 := ZV.frozen 2); (have f3 := ZV.frozen 3))) | fail)
            have nh := ZV.ne (by decide) h8
            have nr := ZV.ne (by decide) r8
            have P1 := (ownsRow_setCell_other (ownsRow_setCell_other (ownsRow_setCell_other (ownsRow_setCell_other h8 (a := ⟨w.heap.size + 1 + 1, 0, none⟩) (Ne.symm nh) (.int .i64 ((m : Nat) : Int))) (a := ⟨w.heap.size + 1 + 1, 1, none⟩) (Ne.symm nh) (.slice a8 zs.length c8)) (a := ⟨w.heap.size + 1 + 1, 2, none⟩) (Ne.symm nh) (.string p)) (a := ⟨w.heap.size + 1 + 1, 3, none⟩) (Ne.symm nh) (.slice b8 ts.length e8))
            have P2 := (ownsRow_setCell_other (ownsRow_setCell_other (ownsRow_setCell_other (ownsRow_setCell_other r8 (a := ⟨w.heap.size + 1 + 1, 0, none⟩) (Ne.symm nr) (.int .i64 ((m : Nat) : Int))) (a := ⟨w.heap.size + 1 + 1, 1, none⟩) (Ne.symm nr) (.slice a8 zs.length c8)) (a := ⟨w.heap.size + 1 + 1, 2, none⟩) (Ne.symm nr) (.string p)) (a := ⟨w.heap.size + 1 + 1, 3, none⟩) (Ne.symm nr) (.slice b8 ts.length e8))
            have hW1 : w.heap.size ≤ w1.heap.size := by have := hlx.out; omega
            have BB := (kb HB3.out hB (Nat.le_refl _)).setCell (p := ⟨w2.heap.size, 1, none⟩) (by show w.heap.size ≤ w2.heap.size; omega) (.slice la (xs.length + 1) lc)
            have BC := BB.trans (hb8.mono hW1)
            refine bodyPost_ret (v := .agg #[.int .i64 ((m : Nat) : Int), .slice a8 zs.length c8, .string p, .slice b8 ts.length e8]) (by simp [results, Tryz.results40, go_sem, z0, z1, z2, z3]) rfl ?_
            unfold TakePost
            rw [hT1.out]
            exact ⟨⟨_, _, rfl, owns_mono3 P1 hW1, owns_mono3 P2 hW1⟩, ((((BC.setCell (p := ⟨w.heap.size + 1 + 1, 0, none⟩) (by show w.heap.size ≤ w.heap.size + 1 + 1; omega) (.int .i64 ((m : Nat) : Int))).setCell (p := ⟨w.heap.size + 1 + 1, 1, none⟩) (by show w.heap.size ≤ w.heap.size + 1 + 1; omega) (.slice a8 zs.length c8)).setCell (p := ⟨w.heap.size + 1 + 1, 2, none⟩) (by show w.heap.size ≤ w.heap.size + 1 + 1; omega) (.string p)).setCell (p := ⟨w.heap.size + 1 + 1, 3, none⟩) (by show w.heap.size ≤ w.heap.size + 1 + 1; omega) (.slice b8 ts.length e8))⟩
          | false =>
            have hLe : L ++ [⟨q, s, l⟩] = ins ⟨q, s, l⟩ xs := by rw [HLD.out, ins_end _ _ (fun z hz => hP.no rfl z (by rw [List.take_of_length_le (Nat.le_refl _)]; exact hz))]; show xs.take xs.length ++ _ = _; rw [List.take_of_length_le (Nat.le_refl _)]
            have hLn : L.length = xs.length := by have := congrArg List.length hLe; rw [List.length_append, hIL] at this; simpa using this
            rw [hLn] at hL
            rw [hLn]
            go_wp2_with (first | (at_builtin; refine list_append_any _ rfl _ _ 35 rfl w3.heap.size 95 iH (.agg #[.int .i64 0, .string ⟨#[]⟩, .bool false]) 3 32 Tryz.underlying35 hiH hH1 hH2 hH3 rfl (by decide) (.slice la xs.length lc) (xs.length) (hs L) rfl (hL.alloc (.cells #[.int .i64 q, .string s, .bool l] 95)) (some ⟨wr.heap.size, 0, none⟩) 1 1 [.int .i64 q, .string s, .bool l] rfl rfl (fun e => by cases e) (fun ad had j u hj => by cases had; exact three_cell rfl hj) (held_one0 _ _ _) (by unfold maxLen; omega) (by omega) (Nat.le_trans hB.size (by simp)) ?_; intro v5 w5 O5 h5; (obtain ⟨v5a, v5c, rfl, -, -, -⟩ := rs_of_owns O5); (have B5 : Below w3.heap.size w3 w5 := (hB.alloc hB.size (.cells #[.int .i64 q, .string s, .bool l] 95)).grown h5 (Nat.le_trans hB.size (by simp)) (fun k hk => ((hL.alloc (.cells #[.int .i64 q, .string s, .bool l] 95)).lt k hk).1)); (have O5' : w5.ownsRow w3.heap.size 95 3 (.slice v5a (xs.length + 1) v5c) (xs.length + 1) (hs (ins ⟨q, s, l⟩ xs)) := (by rw [← hLe, hs_snoc]; exact O5)); clear d0 d1 d2 d3 p0 p1 z0 z1 z2 z3 f0 f1 f2 f3 o0 o1 o2 o3 g0 g1 g2 g3 kA kP kX kO RH RR; (obtain ⟨kA, kP, kX, kO, RH, RR⟩ := KA.out w5 B5); (have d0 := kA.cell 0); (have d1 := kA.cell 1); (have d2 := kA.cell 2); (have d3 := kA.cell 3); simp at d0 d1 d2 d3; (have p0 := kP.cell 0); (have p1 := kP.cell 1); simp at p0 p1; (have z0 := kX.cell 0); (have z1 := kX.cell 1); (have z2 := kX.cell 2); (have z3 := kX.cell 3); simp at z0 z1 z2 z3; (have f0 := kX.frozen 0); (have f1 := kX.frozen 1); (have f2 := kX.frozen 2); (have f3 := kX.frozen 3); (have o0 := kO.cell 0); (have o1 := kO.cell 1); (have o2 := kO.cell 2); (have o3 := kO.cell 3); simp at o0 o1 o2 o3; (have g0 := kO.frozen 0); (have g1 := kO.frozen 1); (have g2 := kO.frozen 2); (have g3 := kO.frozen 3)) | (go_at_call 80; go_must ((have N1 := kO.ne (by decide) O5'); (have N2 := kO.ne (by decide) RR); (have H8 := ownsRow_setCell_other O5' (a := ⟨w2.heap.size, 1, none⟩) (Ne.symm N1) (.slice v5a (xs.length + 1) v5c)); (have R8 := ownsRow_setCell_other RR (a := ⟨w2.heap.size, 1, none⟩) (Ne.symm N2) (.slice v5a (xs.length + 1) v5c)); (have X8 := kX.other ⟨w2.heap.size, 1, none⟩ (by show w.heap.size + 1 + 1 ≠ w2.heap.size; omega) (.slice v5a (xs.length + 1) v5c)); (have S8 : w1.heap.size ≤ (w5.setCell ⟨w2.heap.size, 1, none⟩ (.slice v5a (xs.length + 1) v5c)).heap.size := (by have := hl13.out; have := B5.size; simp; omega)); refine (HLI.out (w5.setCell ⟨w2.heap.size, 1, none⟩ (.slice v5a (xs.length + 1) v5c)) _ _ (owns_mono3 H8 hl13.out) R8 S8).mono ?_; rintro e w8 ⟨⟨hv8, rv8, rfl, h8, r8⟩, hb8⟩; (obtain ⟨a8, c8, rfl, -, -, -⟩ := rs_of_owns h8); (obtain ⟨b8, e8, rfl, -, -, -⟩ := rs_of_owns r8); (have ZV := bx_below X8 hb8 hlx.out); clear z0 z1 z2 z3 f0 f1 f2 f3; (have z0 := ZV.cell 0); (have z1 := ZV.cell 1); (have z2 := ZV.cell 2); (have z3 := ZV.cell 3); simp at z0 z1 z2 z3; (have f0 := ZV.frozen 0); (have f1 := ZV.frozen 1); (have f2 := ZV.frozen 2); (have f3 := ZV.frozen 3))) | fail)
            have nh := ZV.ne (by decide) h8
            have nr := ZV.ne (by decide) r8
            have P1 := (ownsRow_setCell_other (ownsRow_setCell_other (ownsRow_setCell_other (ownsRow_setCell_other h8 (a := ⟨w.heap.size + 1 + 1, 0, none⟩) (Ne.symm nh) (.int .i64 ((m : Nat) : Int))) (a := ⟨w.heap.size + 1 + 1, 1, none⟩) (Ne.symm nh) (.slice a8 zs.length c8)) (a := ⟨w.heap.size + 1 + 1, 2, none⟩) (Ne.symm nh) (.string p)) (a := ⟨w.heap.size + 1 + 1, 3, none⟩) (Ne.symm nh) (.slice b8 ts.length e8))
            have P2 := (ownsRow_setCell_other (ownsRow_setCell_other (ownsRow_setCell_other (ownsRow_setCell_other r8 (a := ⟨w.heap.size + 1 + 1, 0, none⟩) (Ne.symm nr) (.int .i64 ((m : Nat) : Int))) (a := ⟨w.heap.size + 1 + 1, 1, none⟩) (Ne.symm nr) (.slice a8 zs.length c8)) (a := ⟨w.heap.size + 1 + 1, 2, none⟩) (Ne.symm nr) (.string p)) (a := ⟨w.heap.size + 1 + 1, 3, none⟩) (Ne.symm nr) (.slice b8 ts.length e8))
            have hW1 : w.heap.size ≤ w1.heap.size := by have := hlx.out; omega
            have BB := (kb HB3.out B5 (Nat.le_refl _)).setCell (p := ⟨w2.heap.size, 1, none⟩) (by show w.heap.size ≤ w2.heap.size; omega) (.slice v5a (xs.length + 1) v5c)
            have BC := BB.trans (hb8.mono hW1)
            refine bodyPost_ret (v := .agg #[.int .i64 ((m : Nat) : Int), .slice a8 zs.length c8, .string p, .slice b8 ts.length e8]) (by simp [results, Tryz.results40, go_sem, z0, z1, z2, z3]) rfl ?_
            unfold TakePost
            rw [hT1.out]
            exact ⟨⟨_, _, rfl, owns_mono3 P1 hW1, owns_mono3 P2 hW1⟩, ((((BC.setCell (p := ⟨w.heap.size + 1 + 1, 0, none⟩) (by show w.heap.size ≤ w.heap.size + 1 + 1; omega) (.int .i64 ((m : Nat) : Int))).setCell (p := ⟨w.heap.size + 1 + 1, 1, none⟩) (by show w.heap.size ≤ w.heap.size + 1 + 1; omega) (.slice a8 zs.length c8)).setCell (p := ⟨w.heap.size + 1 + 1, 2, none⟩) (by show w.heap.size ≤ w.heap.size + 1 + 1; omega) (.string p)).setCell (p := ⟨w.heap.size + 1 + 1, 3, none⟩) (by show w.heap.size ≤ w.heap.size + 1 + 1; omega) (.slice b8 ts.length e8))⟩
theorem specPart_any (nx : Int) (ao so : Option Addr) (ca cs : Nat) (xs : List Hd) (o : ByteArray) (rs : List ByteArray) (q : Int) (s : ByteArray) (l : Bool) (w : World) (hn : xs.length ≤ 1048576) (ht : ∀ i (h : i < xs.length), xs[i].text.size ≤ 1048576) (ho : o.size ≤ 1048576) (hk : rs.length ≤ 1048576) (hz : ∀ i (h : i < rs.length), rs[i].size ≤ 1048576) (hsz : s.size ≤ 1048576) (hr : Rt w ao so xs rs) (hn1 : ao = none → xs.length = 0 ∧ ca = 0) (hn2 : so = none → rs.length = 0 ∧ cs = 0) :
    Calls Tryz.prog 40 #[.agg #[.int .i64 nx, .slice ao xs.length ca, .string o, .slice so rs.length cs], .int .i64 q, .agg #[.string s, .bool l]] w fun e w' => TakePost w (partOf nx xs o rs q s l) e w' := by
  cases hv : tkOk nx xs o rs
  · exact specPart_no nx ao so ca cs xs o rs q s l w hn ht ho hk hz hsz hr hn1 hn2 hv
  · obtain ⟨n, rfl⟩ : ∃ n : Nat, nx = (n : Int) := ⟨nx.toNat, by have := (tkOk_of hv).1; unfold TkHd at this; omega⟩
    exact specPart_yes n ao so ca cs xs o rs q s l w hn ht ho hk hz hsz hr hn1 hn2 hv
end Go.Proofs.YthjncmgjkejikaaGreat.mk

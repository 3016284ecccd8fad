/-
  TAKING IN: spec.l5In.
-/
import Derived.Test.YteceaadmgpjmcabRgQ
import Derived.Test.YteceaadmgpjmcabCpT
namespace Go.Proofs.Yteceaadmgpjmcab.mk
open Go.RowKit
set_option linter.unusedVariables false

theorem hs_drop1 (xs : List Hd) : hs (xs.drop 1) = (hs xs).drop 3 := by
  cases xs with
  | nil => rfl
  | cons x ys => rfl
theorem hdrop_cells {w : World} {base g n cap : Nat} {e : TypeId} {xs : List Hd} (h : w.ownsRow base e 3 (.slice (some ⟨g, 0, none⟩) n cap) n (hs xs)) : ∀ j u, (hs (xs.drop 1))[j]? = some u → w.cell? ((⟨g, 3, none⟩ : Addr).add j) = some u := by
  intro j u hj
  rw [hs_drop1, List.getElem?_drop] at hj
  have hl : 3 + j < (hs xs).length := by
    rcases Nat.lt_or_ge (3 + j) (hs xs).length with q | q
    · exact q
    · rw [List.getElem?_eq_none q] at hj; simp at hj
  have ea : (⟨g, 3, none⟩ : Addr).add j = ⟨g, 3 + j, none⟩ := by unfold Addr.add; split <;> simp_all
  rw [ea, h.cellAt (3 + j) (by rw [← h.1]; exact hl), hj]
theorem cons_drop {x : Hd} {xs : List Hd} (h : 0 < xs.length) (hx : x = xs[0]) : tin xs = tin (x :: xs.drop 1) := by
  cases xs with
  | nil => simp at h
  | cons y ys => rw [hx]; rfl
theorem drop_small {xs : List Hd} (h : ∀ i (h : i < xs.length), xs[i].seq < 1000000 ∧ xs[i].text.size ≤ 20) : ∀ i (h : i < (xs.drop 1).length), (xs.drop 1)[i].seq < 1000000 ∧ (xs.drop 1)[i].text.size ≤ 20 := by
  intro i hi
  rw [List.getElem_drop]
  exact h (1 + i) (by rw [List.length_drop] at hi; omega)
theorem one_cell {W : World} {H j : Nat} {s : ByteArray} {u : Value} (h : (W.alloc (.cells #[.string s] 9)).cell? ⟨H, 0, none⟩ = some (.string s)) (hj : ([.string s] : List Value)[j]? = some u) : (W.alloc (.cells #[.string s] 9)).cell? ((⟨H, 0, none⟩ : Addr).add j) = some u := by
  cases j with
  | zero => simp at hj; rw [← hj]; exact h
  | succ j => simp at hj
/-- a Take in the making: its box, its rows -/
structure Lt (base B : Nat) (nx : Nat) (xs : List Hd) (o : ByteArray) (rs : List ByteArray) (hv rv : Value) (w : World) : Prop where
  box : Bx w B 32 #[.int .i64 (nx : Int), hv, .string o, rv]
  held : w.ownsRow base 46 3 hv xs.length (hs xs)
  ready : w.ownsRow base 9 1 rv rs.length (ss rs)
  small : ∀ i (h : i < xs.length), xs[i].seq < 1000000 ∧ xs[i].text.size ≤ 20
  opn : o.size ≤ 200
  many : rs.length ≤ 4
  len : xs.length ≤ 9
  le : nx ≤ 1000000
def nextAt (w : World) (B : Nat) : Nat := match w.cell? ⟨B, 0, none⟩ with
  | some (.int _ z) => z.toNat
  | _ => 0
theorem Lt.nextAt {base B nx : Nat} {xs : List Hd} {o : ByteArray} {rs : List ByteArray} {hv rv : Value} {w : World} (h : Lt base B nx xs o rs hv rv w) : nextAt w B = nx := by
  unfold mk.nextAt
  rw [h.box.cell 0]
  simp
theorem Lt.keep {base B nx : Nat} {xs : List Hd} {o : ByteArray} {rs : List ByteArray} {hv rv : Value} {w w' : World} (h : Lt base B nx xs o rs hv rv w) (hb : Below w.heap.size w w') : Lt base B nx xs o rs hv rv w' := ⟨h.box.keep hb, owns_keep h.held hb, owns_keep h.ready hb, h.small, h.opn, h.many, h.len, h.le⟩
set_option maxRecDepth 100000 in
set_option maxHeartbeats 2000000 in
theorem l5In_any (base nx : Nat) (xs : List Hd) (o : ByteArray) (rs : List ByteArray) (hv rv : Value) (w : World) (h1 : w.ownsRow base 46 3 hv xs.length (hs xs)) (h2 : w.ownsRow base 9 1 rv rs.length (ss rs)) (hsm : ∀ i (h : i < xs.length), xs[i].seq < 1000000 ∧ xs[i].text.size ≤ 20) (ho : o.size ≤ 200) (hm : rs.length ≤ 4) (hl9 : xs.length ≤ 9) (hle : nx ≤ 1000000) (hbs : base ≤ w.heap.size) :
    Calls Try.prog 18 #[.agg #[.int .i64 (nx : Int), hv, .string o, rv]] w fun e w' => (∃ hv' rv', e = .returned (.agg #[.int .i64 (((tin xs nx o rs).1 : Nat) : Int), hv', .string (tin xs nx o rs).2.2.1, rv']) ∧ w'.ownsRow base 46 3 hv' (tin xs nx o rs).2.1.length (hs (tin xs nx o rs).2.1) ∧ w'.ownsRow base 9 1 rv' (tin xs nx o rs).2.2.2.length (ss (tin xs nx o rs).2.2.2)) ∧ Below base w w' := by
  obtain ⟨T, hT⟩ : ∃ T, T = tin xs nx o rs := ⟨_, rfl⟩
  rw [← hT]
  have HT : Hid (T = tin xs nx o rs) := hT
  obtain ⟨ao, ca, rfl, -, -, -⟩ := rs_of_owns h1
  obtain ⟨so, cs, rfl, -, -, -⟩ := rs_of_owns h2
  have b2 : Below w.heap.size w ((w.alloc (.cells #[.int .i64 (nx : Int), .slice ao xs.length ca, .string o, .slice so rs.length cs] 32)).alloc (.cells #[.int .i64 0, .slice none 0 0, .string ⟨#[]⟩, .slice none 0 0] 32)) := ((Below.refl _ _).alloc (Nat.le_refl _) _).alloc (by simp) _
  have L0 : Hid (Lt base w.heap.size nx xs o rs (.slice ao xs.length ca) (.slice so rs.length cs) ((w.alloc (.cells #[.int .i64 (nx : Int), .slice ao xs.length ca, .string o, .slice so rs.length cs] 32)).alloc (.cells #[.int .i64 0, .slice none 0 0, .string ⟨#[]⟩, .slice none 0 0] 32))) := (⟨(Bx.new w _ _).alloc _, owns_keep h1 b2, owns_keep h2 b2, hsm, ho, hm, hl9, hle⟩ : Lt base w.heap.size nx xs o rs (.slice ao xs.length ca) (.slice so rs.length cs) ((w.alloc (.cells #[.int .i64 (nx : Int), .slice ao xs.length ca, .string o, .slice so rs.length cs] 32)).alloc (.cells #[.int .i64 0, .slice none 0 0, .string ⟨#[]⟩, .slice none 0 0] 32)))
  have Z0 : Hid (Bx ((w.alloc (.cells #[.int .i64 (nx : Int), .slice ao xs.length ca, .string o, .slice so rs.length cs] 32)).alloc (.cells #[.int .i64 0, .slice none 0 0, .string ⟨#[]⟩, .slice none 0 0] 32)) (w.heap.size + 1) 32 #[.int .i64 0, .slice none 0 0, .string ⟨#[]⟩, .slice none 0 0]) := (by have := Bx.new (w.alloc (.cells #[.int .i64 (nx : Int), .slice ao xs.length ca, .string o, .slice so rs.length cs] 32)) 32 #[.int .i64 0, .slice none 0 0, .string ⟨#[]⟩, .slice none 0 0]; rw [World.size_alloc] at this; exact this : Bx ((w.alloc (.cells #[.int .i64 (nx : Int), .slice ao xs.length ca, .string o, .slice so rs.length cs] 32)).alloc (.cells #[.int .i64 0, .slice none 0 0, .string ⟨#[]⟩, .slice none 0 0] 32)) (w.heap.size + 1) 32 #[.int .i64 0, .slice none 0 0, .string ⟨#[]⟩, .slice none 0 0])
  have BB : Hid (Below base w ((w.alloc (.cells #[.int .i64 (nx : Int), .slice ao xs.length ca, .string o, .slice so rs.length cs] 32)).alloc (.cells #[.int .i64 0, .slice none 0 0, .string ⟨#[]⟩, .slice none 0 0] 32))) := b2.mono hbs
  clear h1 h2 hT b2 hsm
  go_enter Try.func18, Try.ntmps18
  go_wp2
  go_loopw [3] (fun _ wr => ∃ (nx : Nat) (xs : List Hd) (o : ByteArray) (rs : List ByteArray) (hv rv : Value), Lt base w.heap.size nx xs o rs hv rv wr ∧ Bx wr (w.heap.size + 1) 32 #[.int .i64 0, .slice none 0 0, .string ⟨#[]⟩, .slice none 0 0] ∧ T = tin xs nx o rs ∧ Below base w wr) (fun _ wr => 1000001 - nextAt wr w.heap.size)
  case atStart => exact ⟨nx, xs, o, rs, _, _, L0.out, Z0.out, HT.out, BB.out⟩
  case round =>
    clear L0 Z0 HT BB
    obtain ⟨nx, xs, o, rs, hv, rv, hL, hZ, hT, hbel⟩ := hrel
    obtain ⟨ao, ca, rfl, hca, -, hrh⟩ := rs_of_owns hL.held
    obtain ⟨so, cs, rfl, -, -, -⟩ := rs_of_owns hL.ready
    have c0 := hL.box.cell 0
    have c1 := hL.box.cell 1
    have c2 := hL.box.cell 2
    have c3 := hL.box.cell 3
    simp at c0 c1 c2 c3
    have hle := hL.le
    have hmany := hL.many
    have hopn := hL.opn
    have hlen := hL.len
    obtain ⟨W0, hW0⟩ : ∃ W0, W0 = wr := ⟨_, rfl⟩
    rw [← hW0] at c0 c1 c2 c3 hL hZ hbel hrh ⊢
    clear hW0
    have HL : Hid (Lt base w.heap.size nx xs o rs (.slice ao xs.length ca) (.slice so rs.length cs) W0) := hL
    have HZ : Hid (Bx W0 (w.heap.size + 1) 32 #[.int .i64 0, .slice none 0 0, .string ⟨#[]⟩, .slice none 0 0]) := hZ
    have HT : Hid (T = tin xs nx o rs) := hT
    have HBL : Hid (Below base w W0) := hbel
    clear hL hZ hT hbel
    have hz1 := HZ.out.lt
    by_cases hpos : 0 < xs.length
    · obtain ⟨g, rfl, hg, hgc⟩ : ∃ g, ao = some ⟨g, 0, none⟩ ∧ g < W0.heap.size ∧ ∀ j, j < (hs xs).length → W0.cell? ⟨g, j, none⟩ = (hs xs)[j]? := by
        rcases hrh.ex with e | e
        · omega
        · exact e
      have hhl := hs_length xs
      obtain ⟨k0', k1', k2'⟩ := hs_at xs 0 hpos
      have k0 := (hgc 0 (by omega)).trans k0'
      have k1 := (hgc 1 (by omega)).trans k1'
      have k2 := (hgc 2 (by omega)).trans k2'
      have dl : decide ((0 : Int) < (xs.length : Int)) = true := decide_eq_true (by omega)
      have hsm0 := HL.out.small 0 hpos
      have HCA : Hid (∀ u : World, Calls Try.prog 34 #[.agg #[.int .i64 (nx : Int), .slice (some ⟨g, 0, none⟩) xs.length ca, .string o, .slice so rs.length cs], .agg #[.string xs[0].text, .bool xs[0].last]] u fun e w' => e = .returned (.bool (decide (CanIn o rs.length xs[0].text xs[0].last))) ∧ Below u.heap.size u w') := fun u => l5Can_any _ _ _ _ _ _ _ _ _ _ u (by omega) (by omega) (by omega)
      obtain ⟨x, hx⟩ : ∃ x, x = xs[0] := ⟨_, rfl⟩
      rw [← hx] at k0 k1 k2 hsm0 HCA
      have HX : Hid (x = xs[0]) := hx
      clear hgc hrh k0' k1' k2' hhl hx
      by_cases hq : x.seq = (nx : Int)
      · by_cases hcan : CanIn o rs.length x.text x.last
        · have dc : decide (CanIn o rs.length x.text x.last) = true := decide_eq_true hcan
          rw [dc] at HCA
          rw [hq] at k0
          go_wp2
          refine wp_region_held_drew (S := (fun w' => Below W0.heap.size W0 w')) (by kernel_rfl) ?_ (fun hHeld => ?_)
          · exact (Below.refl _ _).drew
          refine tkF 0 (some 4) ?_
          refine tkE 1 (some 5) ?_ ?_ ?_
          rotate_left
          · (intro w hSw; (have hc0 := cell_keep c0 hSw); (have hc1 := cell_keep c1 hSw); (have hc2 := cell_keep c2 hSw); (have hc3 := cell_keep c3 hSw); (have hk0 := cell_keep k0 hSw); (have hk1 := cell_keep k1 hSw); (have hk2 := cell_keep k2 hSw); go_simp <;> with_reducible rfl)
          refine tkF 2 (some 6) ?_
          refine tkF 3 (some 7) ?_
          refine tkF 4 (some 8) ?_
          refine tkF 5 (some 9) ?_
          refine tkE 6 (some 10) ?_ ?_ ?_
          rotate_left
          · (intro w hSw; (have hc0 := cell_keep c0 hSw); (have hc1 := cell_keep c1 hSw); (have hc2 := cell_keep c2 hSw); (have hc3 := cell_keep c3 hSw); (have hk0 := cell_keep k0 hSw); (have hk1 := cell_keep k1 hSw); (have hk2 := cell_keep k2 hSw); go_simp <;> with_reducible rfl)
          refine tkF 7 (some 11) ?_
          refine tkF 8 (some 12) ?_
          refine tkE 9 (some 13) ?_ ?_ ?_
          rotate_left
          · (intro w hSw; (have hc0 := cell_keep c0 hSw); (have hc1 := cell_keep c1 hSw); (have hc2 := cell_keep c2 hSw); (have hc3 := cell_keep c3 hSw); (have hk0 := cell_keep k0 hSw); (have hk1 := cell_keep k1 hSw); (have hk2 := cell_keep k2 hSw); go_simp <;> with_reducible rfl)
          refine tkF 10 (some 14) ?_
          refine tkE 11 (some 15) ?_ ?_ ?_
          rotate_left
          · (intro w hSw; (have hc0 := cell_keep c0 hSw); (have hc1 := cell_keep c1 hSw); (have hc2 := cell_keep c2 hSw); (have hc3 := cell_keep c3 hSw); (have hk0 := cell_keep k0 hSw); (have hk1 := cell_keep k1 hSw); (have hk2 := cell_keep k2 hSw); go_simp <;> with_reducible rfl)
          refine tkF 12 (some 16) ?_
          refine tkF 13 (some 17) ?_
          refine tkF 14 (some 18) ?_
          refine tkE 15 (some 19) ?_ ?_ ?_
          rotate_left
          · (intro w hSw; (have hc0 := cell_keep c0 hSw); (have hc1 := cell_keep c1 hSw); (have hc2 := cell_keep c2 hSw); (have hc3 := cell_keep c3 hSw); (have hk0 := cell_keep k0 hSw); (have hk1 := cell_keep k1 hSw); (have hk2 := cell_keep k2 hSw); go_simp <;> with_reducible rfl)
          refine tkF 16 (some 20) ?_
          refine tkE 17 (some 21) ?_ ?_ ?_
          rotate_left
          · (intro w hSw; (have hc0 := cell_keep c0 hSw); (have hc1 := cell_keep c1 hSw); (have hc2 := cell_keep c2 hSw); (have hc3 := cell_keep c3 hSw); (have hk0 := cell_keep k0 hSw); (have hk1 := cell_keep k1 hSw); (have hk2 := cell_keep k2 hSw); go_simp <;> with_reducible rfl)
          refine tkF 18 (some 22) ?_
          refine tkF 19 (some 23) ?_
          refine tkE 20 (some 24) ?_ ?_ ?_
          rotate_left
          · (intro w hSw; (have hc0 := cell_keep c0 hSw); (have hc1 := cell_keep c1 hSw); (have hc2 := cell_keep c2 hSw); (have hc3 := cell_keep c3 hSw); (have hk0 := cell_keep k0 hSw); (have hk1 := cell_keep k1 hSw); (have hk2 := cell_keep k2 hSw); go_simp <;> with_reducible rfl)
          refine wpAnyH_ready (rs := [21]) (by kernel_rfl) (by simp) ?_
          refine AllReadyH.cons rfl (fun K hK => ?_) AllReadyH.nil
          go_simp
          refine (HCA.out _).mono ?_
          rintro e w3 ⟨rfl, hb3⟩
          go_wp2_with fail
          refine hK.out _ _ ?_ (fun hHeld => ?_)
          · exact kb (by assumption) hb3 (Nat.le_refl _)
          clear hK K
          try simp only [Act.put, List.setIfInBounds_toArray, List.set_cons_zero, List.set_cons_succ]
          refine tkF 22 (some 26) ?_
          refine wpAnyH_done (by kernel_rfl) ?_ _
          have d0 := cell_keep c0 hHeld
          have d1 := cell_keep c1 hHeld
          have d2 := cell_keep c2 hHeld
          have d3 := cell_keep c3 hHeld
          have m1 := cell_keep k1 hHeld
          have m2 := cell_keep k2 hHeld
          have L3 := HL.out.keep hHeld
          have Z3 := HZ.out.keep hHeld
          have BX : Below base w w3 := HBL.out.trans (hHeld.mono (Nat.le_trans hbs HBL.out.size))
          have HL3 : Hid (Lt base w.heap.size nx xs o rs (.slice (some ⟨g, 0, none⟩) xs.length ca) (.slice so rs.length cs) w3) := L3
          have HZ3 : Hid (Bx w3 (w.heap.size + 1) 32 #[.int .i64 0, .slice none 0 0, .string ⟨#[]⟩, .slice none 0 0]) := Z3
          have HBX : Hid (Below base w w3) := BX
          have hbz := Z3.lt
          have hna : Hid (nextAt W0 w.heap.size = nx) := HL.out.nextAt
          obtain ⟨iS, hiS, hS1, hS2, hS3⟩ := info_parts info_str
          clear hb3 hHeld HCA dc c0 c1 c2 c3 k0 k1 k2 L3 Z3 BX HL HZ HBL
          obtain ⟨i0, hi, hz0, hz1', hz2⟩ := info_parts info_held
          have hxl : (xs.length : Int) ≤ (ca : Int) := by omega
          have hbz0 : w.heap.size < w3.heap.size := HL3.out.box.lt
          have h1l : (1 : Int) ≤ (xs.length : Int) := by omega
          have hcat : ¬ 9223372036854775807 < o.size + x.text.size := by omega
          rcases Nat.lt_or_ge 1 ca with h1 | h1
          · have h1c : (1 : Int) < (ca : Int) := by omega
            cases hlast : x.last
            · rw [hlast] at m2
              go_wp2_with (at_builtin; refine list_append_any _ rfl _ _ 30 rfl base 46 i0 (.agg #[.int .i64 0, .string ⟨#[]⟩, .bool false]) 3 32 Try.underlying30 hi hz0 hz1' hz2 rfl (by decide) (.slice (some ⟨w3.heap.size + 1, 0, none⟩) 0 0) 0 [] rfl (own0 46 3 (w3.alloc (.cells #[.string x.text, .bool false] 35)) base (by simp; omega) (w3.heap.size + 1) (by simp)) (some ⟨g, 3, none⟩) (xs.length - 1) (ca - 1) (hs (xs.drop 1)) rfl (by rw [hs_length, List.length_drop]) (fun e => by cases e) (fun ad had => by cases had; exact hdrop_cells ((HL3.out.held.alloc _).alloc _)) (hs_one _) (by unfold maxLen; omega) (by omega) (by simp; omega) ?_; intro v5 w5 O5 g5; (simp only [Nat.zero_add, List.nil_append] at O5); (obtain ⟨a5, c5, rfl, -, -, -⟩ := rs_of_owns O5); (have X5 := ((HL3.out.box.alloc (.cells #[.string x.text, .bool false] 35)).alloc (.cells #[] 46)).kept g5 (by simp [Value.ownBlock]; omega)); (have Q5 := ((Bx.new w3 35 #[.string x.text, .bool false]).alloc (.cells #[] 46)).kept g5 (by simp [Value.ownBlock])); (have hbz5 := X5.lt); (have q0 := X5.cell 0); (have q1 := X5.cell 1); (have q2 := X5.cell 2); (have q3 := X5.cell 3); (have p0 := Q5.cell 0); (have p1 := Q5.cell 1); simp at q0 q1 q2 q3 p0 p1; (have f0 := X5.frozen 0); (have f1 := X5.frozen 1); (have f2 := X5.frozen 2); (have f3 := X5.frozen 3); (have N1 := X5.ne (by decide) O5); (have R5 := ((HL3.out.ready.alloc (.cells #[.string x.text, .bool false] 35)).alloc (.cells #[] 46)).kept g5 (rows_ne7 ((HL3.out.ready.alloc (.cells #[.string x.text, .bool false] 35)).alloc (.cells #[] 46)) (own0 46 3 (w3.alloc (.cells #[.string x.text, .bool false] 35)) base (by simp; omega) (w3.heap.size + 1) (by simp)) (by decide))); (have N2 := X5.ne (by decide) R5); (have X6 := ((X5.put 1 (.slice a5 (xs.length - 1) c5)).put 2 (.string (o ++ x.text))).put 0 (.int .i64 ((nx : Int) + 1))); (have O6 := (ownsRow_setCell_other (ownsRow_setCell_other (ownsRow_setCell_other O5 (a := ⟨w.heap.size, 1, none⟩) (Ne.symm N1) (.slice a5 (xs.length - 1) c5)) (a := ⟨w.heap.size, 2, none⟩) (Ne.symm N1) (.string (o ++ x.text))) (a := ⟨w.heap.size, 0, none⟩) (Ne.symm N1) (.int .i64 ((nx : Int) + 1)))); (have R6 := (ownsRow_setCell_other (ownsRow_setCell_other (ownsRow_setCell_other R5 (a := ⟨w.heap.size, 1, none⟩) (Ne.symm N2) (.slice a5 (xs.length - 1) c5)) (a := ⟨w.heap.size, 2, none⟩) (Ne.symm N2) (.string (o ++ x.text))) (a := ⟨w.heap.size, 0, none⟩) (Ne.symm N2) (.int .i64 ((nx : Int) + 1)))); (have Z5 := ((HZ3.out.alloc (.cells #[.string x.text, .bool false] 35)).alloc (.cells #[] 46)).kept g5 (by simp [Value.ownBlock]; omega)); (have Z6 := ((Z5.other ⟨w.heap.size, 1, none⟩ (by show w.heap.size + 1 ≠ w.heap.size; omega) (.slice a5 (xs.length - 1) c5)).other ⟨w.heap.size, 2, none⟩ (by show w.heap.size + 1 ≠ w.heap.size; omega) (.string (o ++ x.text))).other ⟨w.heap.size, 0, none⟩ (by show w.heap.size + 1 ≠ w.heap.size; omega) (.int .i64 ((nx : Int) + 1))); (have B4 := (HBX.out.alloc (by omega) (.cells #[.string x.text, .bool false] 35)).alloc (by simp; omega) (.cells #[] 46)); (have B5 := B4.grown g5 (by simp; omega) (fun k hk => by simp [Value.ownBlock] at hk; omega)); (have B6 := ((B5.setCell (p := ⟨w.heap.size, 1, none⟩) hbs (.slice a5 (xs.length - 1) c5)).setCell (p := ⟨w.heap.size, 2, none⟩) hbs (.string (o ++ x.text))).setCell (p := ⟨w.heap.size, 0, none⟩) hbs (.int .i64 ((nx : Int) + 1))))
              have L6 : Lt base w.heap.size (nx + 1) (xs.drop 1) (o ++ x.text) rs (.slice a5 (xs.length - 1) c5) (.slice so rs.length cs) _ := ⟨X6, by rw [List.length_drop]; exact O6, R6, drop_small HL3.out.small, by rw [ByteArray.size_append]; exact hcan.1, hmany, by rw [List.length_drop]; omega, by omega⟩
              have hT6 : T = tin (xs.drop 1) (nx + 1) (o ++ x.text) rs := by rw [HT.out, cons_drop hpos HX.out]; exact tin_more hq hcan hlast
              exact ⟨⟨nx + 1, xs.drop 1, o ++ x.text, rs, _, _, L6, Z6, hT6, B6⟩, by rw [L6.nextAt, hna.out]; omega⟩
            · rw [hlast] at m2
              go_wp2_with (first | (at_builtin; refine list_append_any _ rfl _ _ 30 rfl base 46 i0 (.agg #[.int .i64 0, .string ⟨#[]⟩, .bool false]) 3 32 Try.underlying30 hi hz0 hz1' hz2 rfl (by decide) (.slice (some ⟨w3.heap.size + 1, 0, none⟩) 0 0) 0 [] rfl (own0 46 3 (w3.alloc (.cells #[.string x.text, .bool true] 35)) base (by simp; omega) (w3.heap.size + 1) (by simp)) (some ⟨g, 3, none⟩) (xs.length - 1) (ca - 1) (hs (xs.drop 1)) rfl (by rw [hs_length, List.length_drop]) (fun e => by cases e) (fun ad had => by cases had; exact hdrop_cells ((HL3.out.held.alloc _).alloc _)) (hs_one _) (by unfold maxLen; omega) (by omega) (by simp; omega) ?_; intro v5 w5 O5 g5; (simp only [Nat.zero_add, List.nil_append] at O5); (obtain ⟨a5, c5, rfl, -, -, -⟩ := rs_of_owns O5); (have X5 := ((HL3.out.box.alloc (.cells #[.string x.text, .bool true] 35)).alloc (.cells #[] 46)).kept g5 (by simp [Value.ownBlock]; omega)); (have Q5 := ((Bx.new w3 35 #[.string x.text, .bool true]).alloc (.cells #[] 46)).kept g5 (by simp [Value.ownBlock])); (have hbz5 := X5.lt); (have q0 := X5.cell 0); (have q1 := X5.cell 1); (have q2 := X5.cell 2); (have q3 := X5.cell 3); (have p0 := Q5.cell 0); (have p1 := Q5.cell 1); simp at q0 q1 q2 q3 p0 p1; (have f0 := X5.frozen 0); (have f1 := X5.frozen 1); (have f2 := X5.frozen 2); (have f3 := X5.frozen 3); (have N1 := X5.ne (by decide) O5); (have R5 := ((HL3.out.ready.alloc (.cells #[.string x.text, .bool true] 35)).alloc (.cells #[] 46)).kept g5 (rows_ne7 ((HL3.out.ready.alloc (.cells #[.string x.text, .bool true] 35)).alloc (.cells #[] 46)) (own0 46 3 (w3.alloc (.cells #[.string x.text, .bool true] 35)) base (by simp; omega) (w3.heap.size + 1) (by simp)) (by decide))); (have N2 := X5.ne (by decide) R5); (have X6 := ((X5.put 1 (.slice a5 (xs.length - 1) c5)).put 2 (.string (o ++ x.text))).put 0 (.int .i64 ((nx : Int) + 1))); (have O6 := (ownsRow_setCell_other (ownsRow_setCell_other (ownsRow_setCell_other O5 (a := ⟨w.heap.size, 1, none⟩) (Ne.symm N1) (.slice a5 (xs.length - 1) c5)) (a := ⟨w.heap.size, 2, none⟩) (Ne.symm N1) (.string (o ++ x.text))) (a := ⟨w.heap.size, 0, none⟩) (Ne.symm N1) (.int .i64 ((nx : Int) + 1)))); (have R6 := (ownsRow_setCell_other (ownsRow_setCell_other (ownsRow_setCell_other R5 (a := ⟨w.heap.size, 1, none⟩) (Ne.symm N2) (.slice a5 (xs.length - 1) c5)) (a := ⟨w.heap.size, 2, none⟩) (Ne.symm N2) (.string (o ++ x.text))) (a := ⟨w.heap.size, 0, none⟩) (Ne.symm N2) (.int .i64 ((nx : Int) + 1)))); (have Z5 := ((HZ3.out.alloc (.cells #[.string x.text, .bool true] 35)).alloc (.cells #[] 46)).kept g5 (by simp [Value.ownBlock]; omega)); (have Z6 := ((Z5.other ⟨w.heap.size, 1, none⟩ (by show w.heap.size + 1 ≠ w.heap.size; omega) (.slice a5 (xs.length - 1) c5)).other ⟨w.heap.size, 2, none⟩ (by show w.heap.size + 1 ≠ w.heap.size; omega) (.string (o ++ x.text))).other ⟨w.heap.size, 0, none⟩ (by show w.heap.size + 1 ≠ w.heap.size; omega) (.int .i64 ((nx : Int) + 1))); (have B4 := (HBX.out.alloc (by omega) (.cells #[.string x.text, .bool true] 35)).alloc (by simp; omega) (.cells #[] 46)); (have B5 := B4.grown g5 (by simp; omega) (fun k hk => by simp [Value.ownBlock] at hk; omega)); (have B6 := ((B5.setCell (p := ⟨w.heap.size, 1, none⟩) hbs (.slice a5 (xs.length - 1) c5)).setCell (p := ⟨w.heap.size, 2, none⟩) hbs (.string (o ++ x.text))).setCell (p := ⟨w.heap.size, 0, none⟩) hbs (.int .i64 ((nx : Int) + 1)))) | (at_builtin; go_must (refine list_append_any _ rfl _ _ 23 rfl base 9 iS (.string ⟨#[]⟩) 1 16 Try.underlying23 hiS hS1 hS2 hS3 rfl (by decide) (.slice so rs.length cs) rs.length (ss rs) rfl (R6.alloc (.cells #[.string (o ++ x.text)] 9)) (some ⟨w5.heap.size, 0, none⟩) 1 1 [.string (o ++ x.text)] rfl rfl (fun e => by cases e) (fun ad had j u hj => by cases had; exact one_cell (by simp [go_sem]) hj) (one6 _) (by unfold maxLen; omega) (by omega) (Nat.le_trans hbs (B6.alloc (Nat.le_trans hbs B6.size) (.cells #[.string (o ++ x.text)] 9)).size) ?_); intro v7 w7 O7 g7; (obtain ⟨a7, c7, rfl, -, -, -⟩ := rs_of_owns O7); (have X7 := (X6.alloc (.cells #[.string (o ++ x.text)] 9)).kept g7 ((X6.alloc (.cells #[.string (o ++ x.text)] 9)).ne (by decide) (R6.alloc (.cells #[.string (o ++ x.text)] 9)))); (have s0 := X7.cell 0); (have s1 := X7.cell 1); (have s2 := X7.cell 2); (have s3 := X7.cell 3); simp at s0 s1 s2 s3; (have k0 := X7.frozen 0); (have k1 := X7.frozen 1); (have k2 := X7.frozen 2); (have k3 := X7.frozen 3)) | fail)
              have O7h := (O6.alloc (.cells #[.string (o ++ x.text)] 9)).kept g7 (rows_ne7 (O6.alloc (.cells #[.string (o ++ x.text)] 9)) (R6.alloc (.cells #[.string (o ++ x.text)] 9)) (by decide))
              have N3 := X7.ne (by decide) O7h
              have N4 := X7.ne (by decide) O7
              have X8 := (X7.put 3 (.slice a7 (rs.length + 1) c7)).put 2 (.string ⟨#[]⟩)
              have O8 := (ownsRow_setCell_other (ownsRow_setCell_other O7h (a := ⟨w.heap.size, 3, none⟩) (Ne.symm N3) (.slice a7 (rs.length + 1) c7)) (a := ⟨w.heap.size, 2, none⟩) (Ne.symm N3) (.string ⟨#[]⟩))
              have R8 := (ownsRow_setCell_other (ownsRow_setCell_other O7 (a := ⟨w.heap.size, 3, none⟩) (Ne.symm N4) (.slice a7 (rs.length + 1) c7)) (a := ⟨w.heap.size, 2, none⟩) (Ne.symm N4) (.string ⟨#[]⟩))
              have Z7 := (Z6.alloc (.cells #[.string (o ++ x.text)] 9)).kept g7 ((Z6.alloc (.cells #[.string (o ++ x.text)] 9)).ne (by decide) (R6.alloc (.cells #[.string (o ++ x.text)] 9)))
              have Z8 := (Z7.other ⟨w.heap.size, 3, none⟩ (by show w.heap.size + 1 ≠ w.heap.size; omega) (.slice a7 (rs.length + 1) c7)).other ⟨w.heap.size, 2, none⟩ (by show w.heap.size + 1 ≠ w.heap.size; omega) (.string ⟨#[]⟩)
              have B7 := B6.alloc (Nat.le_trans hbs B6.size) (.cells #[.string (o ++ x.text)] 9)
              have B8 := ((B7.grown g7 (Nat.le_trans hbs B7.size) (fun k hk => ((R6.alloc (.cells #[.string (o ++ x.text)] 9)).lt k hk).1)).setCell (p := ⟨w.heap.size, 3, none⟩) hbs (.slice a7 (rs.length + 1) c7)).setCell (p := ⟨w.heap.size, 2, none⟩) hbs (.string ⟨#[]⟩)
              have hr4 : rs.length < 4 := by rcases hcan.2 with q | q; (rw [hlast] at q; cases q); exact q
              have L8 : Lt base w.heap.size (nx + 1) (xs.drop 1) ⟨#[]⟩ (rs ++ [o ++ x.text]) (.slice a5 (xs.length - 1) c5) (.slice a7 (rs.length + 1) c7) _ := ⟨X8, by rw [List.length_drop]; exact O8, by rw [List.length_append, ss_append]; exact R8, drop_small HL3.out.small, by decide, by rw [List.length_append]; simp; omega, by rw [List.length_drop]; omega, by omega⟩
              have hT8 : T = tin (xs.drop 1) (nx + 1) ⟨#[]⟩ (rs ++ [o ++ x.text]) := by rw [HT.out, cons_drop hpos HX.out]; exact tin_last hq hcan hlast
              exact ⟨⟨nx + 1, xs.drop 1, ⟨#[]⟩, rs ++ [o ++ x.text], _, _, L8, Z8, hT8, B8⟩, by rw [L8.nextAt, hna.out]; omega⟩
          · obtain rfl : ca = 1 := by omega
            have hx1 : xs.length = 1 := by omega
            have hx0 : xs.length - 1 = 0 := by omega
            cases hlast : x.last
            · rw [hlast] at m2
              go_wp2_with (at_builtin; refine list_append_any _ rfl _ _ 30 rfl base 46 i0 (.agg #[.int .i64 0, .string ⟨#[]⟩, .bool false]) 3 32 Try.underlying30 hi hz0 hz1' hz2 rfl (by decide) (.slice (some ⟨w3.heap.size + 1, 0, none⟩) 0 0) 0 [] rfl (own0 46 3 (w3.alloc (.cells #[.string x.text, .bool false] 35)) base (by simp; omega) (w3.heap.size + 1) (by simp)) (some ⟨g, 0, none⟩) 0 0 (hs (xs.drop 1)) rfl (by rw [hs_length, List.length_drop]; omega) (fun e => by cases e) (fun ad had j u hj => by rw [List.drop_eq_nil_of_le (by omega)] at hj; simp [hs] at hj) (hs_one _) (by unfold maxLen; omega) (by omega) (by simp; omega) ?_; intro v5 w5 O5 g5; (simp only [Nat.zero_add, List.nil_append] at O5); (obtain ⟨a5, c5, rfl, -, -, -⟩ := rs_of_owns O5); (have X5 := ((HL3.out.box.alloc (.cells #[.string x.text, .bool false] 35)).alloc (.cells #[] 46)).kept g5 (by simp [Value.ownBlock]; omega)); (have Q5 := ((Bx.new w3 35 #[.string x.text, .bool false]).alloc (.cells #[] 46)).kept g5 (by simp [Value.ownBlock])); (have hbz5 := X5.lt); (have q0 := X5.cell 0); (have q1 := X5.cell 1); (have q2 := X5.cell 2); (have q3 := X5.cell 3); (have p0 := Q5.cell 0); (have p1 := Q5.cell 1); simp at q0 q1 q2 q3 p0 p1; (have f0 := X5.frozen 0); (have f1 := X5.frozen 1); (have f2 := X5.frozen 2); (have f3 := X5.frozen 3); (have N1 := X5.ne (by decide) O5); (have R5 := ((HL3.out.ready.alloc (.cells #[.string x.text, .bool false] 35)).alloc (.cells #[] 46)).kept g5 (rows_ne7 ((HL3.out.ready.alloc (.cells #[.string x.text, .bool false] 35)).alloc (.cells #[] 46)) (own0 46 3 (w3.alloc (.cells #[.string x.text, .bool false] 35)) base (by simp; omega) (w3.heap.size + 1) (by simp)) (by decide))); (have N2 := X5.ne (by decide) R5); (have X6 := ((X5.put 1 (.slice a5 0 c5)).put 2 (.string (o ++ x.text))).put 0 (.int .i64 ((nx : Int) + 1))); (have O6 := (ownsRow_setCell_other (ownsRow_setCell_other (ownsRow_setCell_other O5 (a := ⟨w.heap.size, 1, none⟩) (Ne.symm N1) (.slice a5 0 c5)) (a := ⟨w.heap.size, 2, none⟩) (Ne.symm N1) (.string (o ++ x.text))) (a := ⟨w.heap.size, 0, none⟩) (Ne.symm N1) (.int .i64 ((nx : Int) + 1)))); (have R6 := (ownsRow_setCell_other (ownsRow_setCell_other (ownsRow_setCell_other R5 (a := ⟨w.heap.size, 1, none⟩) (Ne.symm N2) (.slice a5 0 c5)) (a := ⟨w.heap.size, 2, none⟩) (Ne.symm N2) (.string (o ++ x.text))) (a := ⟨w.heap.size, 0, none⟩) (Ne.symm N2) (.int .i64 ((nx : Int) + 1)))); (have Z5 := ((HZ3.out.alloc (.cells #[.string x.text, .bool false] 35)).alloc (.cells #[] 46)).kept g5 (by simp [Value.ownBlock]; omega)); (have Z6 := ((Z5.other ⟨w.heap.size, 1, none⟩ (by show w.heap.size + 1 ≠ w.heap.size; omega) (.slice a5 0 c5)).other ⟨w.heap.size, 2, none⟩ (by show w.heap.size + 1 ≠ w.heap.size; omega) (.string (o ++ x.text))).other ⟨w.heap.size, 0, none⟩ (by show w.heap.size + 1 ≠ w.heap.size; omega) (.int .i64 ((nx : Int) + 1))); (have B4 := (HBX.out.alloc (by omega) (.cells #[.string x.text, .bool false] 35)).alloc (by simp; omega) (.cells #[] 46)); (have B5 := B4.grown g5 (by simp; omega) (fun k hk => by simp [Value.ownBlock] at hk; omega)); (have B6 := ((B5.setCell (p := ⟨w.heap.size, 1, none⟩) hbs (.slice a5 0 c5)).setCell (p := ⟨w.heap.size, 2, none⟩) hbs (.string (o ++ x.text))).setCell (p := ⟨w.heap.size, 0, none⟩) hbs (.int .i64 ((nx : Int) + 1))))
              have L6 : Lt base w.heap.size (nx + 1) (xs.drop 1) (o ++ x.text) rs (.slice a5 0 c5) (.slice so rs.length cs) _ := ⟨X6, by rw [List.length_drop]; exact (by rw [hx0]; exact O6), R6, drop_small HL3.out.small, by rw [ByteArray.size_append]; exact hcan.1, hmany, by rw [List.length_drop]; omega, by omega⟩
              have hT6 : T = tin (xs.drop 1) (nx + 1) (o ++ x.text) rs := by rw [HT.out, cons_drop hpos HX.out]; exact tin_more hq hcan hlast
              exact ⟨⟨nx + 1, xs.drop 1, o ++ x.text, rs, _, _, L6, Z6, hT6, B6⟩, by rw [L6.nextAt, hna.out]; omega⟩
            · rw [hlast] at m2
              go_wp2_with (first | (at_builtin; refine list_append_any _ rfl _ _ 30 rfl base 46 i0 (.agg #[.int .i64 0, .string ⟨#[]⟩, .bool false]) 3 32 Try.underlying30 hi hz0 hz1' hz2 rfl (by decide) (.slice (some ⟨w3.heap.size + 1, 0, none⟩) 0 0) 0 [] rfl (own0 46 3 (w3.alloc (.cells #[.string x.text, .bool true] 35)) base (by simp; omega) (w3.heap.size + 1) (by simp)) (some ⟨g, 0, none⟩) 0 0 (hs (xs.drop 1)) rfl (by rw [hs_length, List.length_drop]; omega) (fun e => by cases e) (fun ad had j u hj => by rw [List.drop_eq_nil_of_le (by omega)] at hj; simp [hs] at hj) (hs_one _) (by unfold maxLen; omega) (by omega) (by simp; omega) ?_; intro v5 w5 O5 g5; (simp only [Nat.zero_add, List.nil_append] at O5); (obtain ⟨a5, c5, rfl, -, -, -⟩ := rs_of_owns O5); (have X5 := ((HL3.out.box.alloc (.cells #[.string x.text, .bool true] 35)).alloc (.cells #[] 46)).kept g5 (by simp [Value.ownBlock]; omega)); (have Q5 := ((Bx.new w3 35 #[.string x.text, .bool true]).alloc (.cells #[] 46)).kept g5 (by simp [Value.ownBlock])); (have hbz5 := X5.lt); (have q0 := X5.cell 0); (have q1 := X5.cell 1); (have q2 := X5.cell 2); (have q3 := X5.cell 3); (have p0 := Q5.cell 0); (have p1 := Q5.cell 1); simp at q0 q1 q2 q3 p0 p1; (have f0 := X5.frozen 0); (have f1 := X5.frozen 1); (have f2 := X5.frozen 2); (have f3 := X5.frozen 3); (have N1 := X5.ne (by decide) O5); (have R5 := ((HL3.out.ready.alloc (.cells #[.string x.text, .bool true] 35)).alloc (.cells #[] 46)).kept g5 (rows_ne7 ((HL3.out.ready.alloc (.cells #[.string x.text, .bool true] 35)).alloc (.cells #[] 46)) (own0 46 3 (w3.alloc (.cells #[.string x.text, .bool true] 35)) base (by simp; omega) (w3.heap.size + 1) (by simp)) (by decide))); (have N2 := X5.ne (by decide) R5); (have X6 := ((X5.put 1 (.slice a5 0 c5)).put 2 (.string (o ++ x.text))).put 0 (.int .i64 ((nx : Int) + 1))); (have O6 := (ownsRow_setCell_other (ownsRow_setCell_other (ownsRow_setCell_other O5 (a := ⟨w.heap.size, 1, none⟩) (Ne.symm N1) (.slice a5 0 c5)) (a := ⟨w.heap.size, 2, none⟩) (Ne.symm N1) (.string (o ++ x.text))) (a := ⟨w.heap.size, 0, none⟩) (Ne.symm N1) (.int .i64 ((nx : Int) + 1)))); (have R6 := (ownsRow_setCell_other (ownsRow_setCell_other (ownsRow_setCell_other R5 (a := ⟨w.heap.size, 1, none⟩) (Ne.symm N2) (.slice a5 0 c5)) (a := ⟨w.heap.size, 2, none⟩) (Ne.symm N2) (.string (o ++ x.text))) (a := ⟨w.heap.size, 0, none⟩) (Ne.symm N2) (.int .i64 ((nx : Int) + 1)))); (have Z5 := ((HZ3.out.alloc (.cells #[.string x.text, .bool true] 35)).alloc (.cells #[] 46)).kept g5 (by simp [Value.ownBlock]; omega)); (have Z6 := ((Z5.other ⟨w.heap.size, 1, none⟩ (by show w.heap.size + 1 ≠ w.heap.size; omega) (.slice a5 0 c5)).other ⟨w.heap.size, 2, none⟩ (by show w.heap.size + 1 ≠ w.heap.size; omega) (.string (o ++ x.text))).other ⟨w.heap.size, 0, none⟩ (by show w.heap.size + 1 ≠ w.heap.size; omega) (.int .i64 ((nx : Int) + 1))); (have B4 := (HBX.out.alloc (by omega) (.cells #[.string x.text, .bool true] 35)).alloc (by simp; omega) (.cells #[] 46)); (have B5 := B4.grown g5 (by simp; omega) (fun k hk => by simp [Value.ownBlock] at hk; omega)); (have B6 := ((B5.setCell (p := ⟨w.heap.size, 1, none⟩) hbs (.slice a5 0 c5)).setCell (p := ⟨w.heap.size, 2, none⟩) hbs (.string (o ++ x.text))).setCell (p := ⟨w.heap.size, 0, none⟩) hbs (.int .i64 ((nx : Int) + 1)))) | (at_builtin; go_must (refine list_append_any _ rfl _ _ 23 rfl base 9 iS (.string ⟨#[]⟩) 1 16 Try.underlying23 hiS hS1 hS2 hS3 rfl (by decide) (.slice so rs.length cs) rs.length (ss rs) rfl (R6.alloc (.cells #[.string (o ++ x.text)] 9)) (some ⟨w5.heap.size, 0, none⟩) 1 1 [.string (o ++ x.text)] rfl rfl (fun e => by cases e) (fun ad had j u hj => by cases had; exact one_cell (by simp [go_sem]) hj) (one6 _) (by unfold maxLen; omega) (by omega) (Nat.le_trans hbs (B6.alloc (Nat.le_trans hbs B6.size) (.cells #[.string (o ++ x.text)] 9)).size) ?_); intro v7 w7 O7 g7; (obtain ⟨a7, c7, rfl, -, -, -⟩ := rs_of_owns O7); (have X7 := (X6.alloc (.cells #[.string (o ++ x.text)] 9)).kept g7 ((X6.alloc (.cells #[.string (o ++ x.text)] 9)).ne (by decide) (R6.alloc (.cells #[.string (o ++ x.text)] 9)))); (have s0 := X7.cell 0); (have s1 := X7.cell 1); (have s2 := X7.cell 2); (have s3 := X7.cell 3); simp at s0 s1 s2 s3; (have k0 := X7.frozen 0); (have k1 := X7.frozen 1); (have k2 := X7.frozen 2); (have k3 := X7.frozen 3)) | fail)
              have O7h := (O6.alloc (.cells #[.string (o ++ x.text)] 9)).kept g7 (rows_ne7 (O6.alloc (.cells #[.string (o ++ x.text)] 9)) (R6.alloc (.cells #[.string (o ++ x.text)] 9)) (by decide))
              have N3 := X7.ne (by decide) O7h
              have N4 := X7.ne (by decide) O7
              have X8 := (X7.put 3 (.slice a7 (rs.length + 1) c7)).put 2 (.string ⟨#[]⟩)
              have O8 := (ownsRow_setCell_other (ownsRow_setCell_other O7h (a := ⟨w.heap.size, 3, none⟩) (Ne.symm N3) (.slice a7 (rs.length + 1) c7)) (a := ⟨w.heap.size, 2, none⟩) (Ne.symm N3) (.string ⟨#[]⟩))
              have R8 := (ownsRow_setCell_other (ownsRow_setCell_other O7 (a := ⟨w.heap.size, 3, none⟩) (Ne.symm N4) (.slice a7 (rs.length + 1) c7)) (a := ⟨w.heap.size, 2, none⟩) (Ne.symm N4) (.string ⟨#[]⟩))
              have Z7 := (Z6.alloc (.cells #[.string (o ++ x.text)] 9)).kept g7 ((Z6.alloc (.cells #[.string (o ++ x.text)] 9)).ne (by decide) (R6.alloc (.cells #[.string (o ++ x.text)] 9)))
              have Z8 := (Z7.other ⟨w.heap.size, 3, none⟩ (by show w.heap.size + 1 ≠ w.heap.size; omega) (.slice a7 (rs.length + 1) c7)).other ⟨w.heap.size, 2, none⟩ (by show w.heap.size + 1 ≠ w.heap.size; omega) (.string ⟨#[]⟩)
              have B7 := B6.alloc (Nat.le_trans hbs B6.size) (.cells #[.string (o ++ x.text)] 9)
              have B8 := ((B7.grown g7 (Nat.le_trans hbs B7.size) (fun k hk => ((R6.alloc (.cells #[.string (o ++ x.text)] 9)).lt k hk).1)).setCell (p := ⟨w.heap.size, 3, none⟩) hbs (.slice a7 (rs.length + 1) c7)).setCell (p := ⟨w.heap.size, 2, none⟩) hbs (.string ⟨#[]⟩)
              have hr4 : rs.length < 4 := by rcases hcan.2 with q | q; (rw [hlast] at q; cases q); exact q
              have L8 : Lt base w.heap.size (nx + 1) (xs.drop 1) ⟨#[]⟩ (rs ++ [o ++ x.text]) (.slice a5 0 c5) (.slice a7 (rs.length + 1) c7) _ := ⟨X8, by rw [List.length_drop]; exact (by rw [hx0]; exact O8), by rw [List.length_append, ss_append]; exact R8, drop_small HL3.out.small, by decide, by rw [List.length_append]; simp; omega, by rw [List.length_drop]; omega, by omega⟩
              have hT8 : T = tin (xs.drop 1) (nx + 1) ⟨#[]⟩ (rs ++ [o ++ x.text]) := by rw [HT.out, cons_drop hpos HX.out]; exact tin_last hq hcan hlast
              exact ⟨⟨nx + 1, xs.drop 1, ⟨#[]⟩, rs ++ [o ++ x.text], _, _, L8, Z8, hT8, B8⟩, by rw [L8.nextAt, hna.out]; omega⟩
        · have dc : decide (CanIn o rs.length x.text x.last) = false := decide_eq_false hcan
          rw [dc] at HCA
          have hst : Hid (tin xs nx o rs = (nx, xs, o, rs)) := tin_stop (fun h0 e => hcan (by rw [HX.out]; exact e.2))
          rw [hq] at k0
          go_wp2
          refine wp_region_held_drew (S := (fun w' => Below W0.heap.size W0 w')) (by kernel_rfl) ?_ (fun hHeld => ?_)
          · exact (Below.refl _ _).drew
          refine tkF 0 (some 4) ?_
          refine tkE 1 (some 5) ?_ ?_ ?_
          rotate_left
          · (intro w hSw; (have hc0 := cell_keep c0 hSw); (have hc1 := cell_keep c1 hSw); (have hc2 := cell_keep c2 hSw); (have hc3 := cell_keep c3 hSw); (have hk0 := cell_keep k0 hSw); (have hk1 := cell_keep k1 hSw); (have hk2 := cell_keep k2 hSw); go_simp <;> with_reducible rfl)
          refine tkF 2 (some 6) ?_
          refine tkF 3 (some 7) ?_
          refine tkF 4 (some 8) ?_
          refine tkF 5 (some 9) ?_
          refine tkE 6 (some 10) ?_ ?_ ?_
          rotate_left
          · (intro w hSw; (have hc0 := cell_keep c0 hSw); (have hc1 := cell_keep c1 hSw); (have hc2 := cell_keep c2 hSw); (have hc3 := cell_keep c3 hSw); (have hk0 := cell_keep k0 hSw); (have hk1 := cell_keep k1 hSw); (have hk2 := cell_keep k2 hSw); go_simp <;> with_reducible rfl)
          refine tkF 7 (some 11) ?_
          refine tkF 8 (some 12) ?_
          refine tkE 9 (some 13) ?_ ?_ ?_
          rotate_left
          · (intro w hSw; (have hc0 := cell_keep c0 hSw); (have hc1 := cell_keep c1 hSw); (have hc2 := cell_keep c2 hSw); (have hc3 := cell_keep c3 hSw); (have hk0 := cell_keep k0 hSw); (have hk1 := cell_keep k1 hSw); (have hk2 := cell_keep k2 hSw); go_simp <;> with_reducible rfl)
          refine tkF 10 (some 14) ?_
          refine tkE 11 (some 15) ?_ ?_ ?_
          rotate_left
          · (intro w hSw; (have hc0 := cell_keep c0 hSw); (have hc1 := cell_keep c1 hSw); (have hc2 := cell_keep c2 hSw); (have hc3 := cell_keep c3 hSw); (have hk0 := cell_keep k0 hSw); (have hk1 := cell_keep k1 hSw); (have hk2 := cell_keep k2 hSw); go_simp <;> with_reducible rfl)
          refine tkF 12 (some 16) ?_
          refine tkF 13 (some 17) ?_
          refine tkF 14 (some 18) ?_
          refine tkE 15 (some 19) ?_ ?_ ?_
          rotate_left
          · (intro w hSw; (have hc0 := cell_keep c0 hSw); (have hc1 := cell_keep c1 hSw); (have hc2 := cell_keep c2 hSw); (have hc3 := cell_keep c3 hSw); (have hk0 := cell_keep k0 hSw); (have hk1 := cell_keep k1 hSw); (have hk2 := cell_keep k2 hSw); go_simp <;> with_reducible rfl)
          refine tkF 16 (some 20) ?_
          refine tkE 17 (some 21) ?_ ?_ ?_
          rotate_left
          · (intro w hSw; (have hc0 := cell_keep c0 hSw); (have hc1 := cell_keep c1 hSw); (have hc2 := cell_keep c2 hSw); (have hc3 := cell_keep c3 hSw); (have hk0 := cell_keep k0 hSw); (have hk1 := cell_keep k1 hSw); (have hk2 := cell_keep k2 hSw); go_simp <;> with_reducible rfl)
          refine tkF 18 (some 22) ?_
          refine tkF 19 (some 23) ?_
          refine tkE 20 (some 24) ?_ ?_ ?_
          rotate_left
          · (intro w hSw; (have hc0 := cell_keep c0 hSw); (have hc1 := cell_keep c1 hSw); (have hc2 := cell_keep c2 hSw); (have hc3 := cell_keep c3 hSw); (have hk0 := cell_keep k0 hSw); (have hk1 := cell_keep k1 hSw); (have hk2 := cell_keep k2 hSw); go_simp <;> with_reducible rfl)
          refine wpAnyH_ready (rs := [21]) (by kernel_rfl) (by simp) ?_
          refine AllReadyH.cons rfl (fun K hK => ?_) AllReadyH.nil
          go_simp
          refine (HCA.out _).mono ?_
          rintro e w3 ⟨rfl, hb3⟩
          go_wp2_with fail
          refine hK.out _ _ ?_ (fun hHeld => ?_)
          · exact kb (by assumption) hb3 (Nat.le_refl _)
          clear hK K
          try simp only [Act.put, List.setIfInBounds_toArray, List.set_cons_zero, List.set_cons_succ]
          refine tkF 22 (some 26) ?_
          refine wpAnyH_done (by kernel_rfl) ?_ _
          obtain ⟨V, hV⟩ : ∃ V, V = w3 := ⟨_, rfl⟩
          rw [← hV] at hHeld ⊢
          clear hV
          have BV : Below W0.heap.size W0 V := hHeld
          have d0 := cell_keep c0 BV
          have d1 := cell_keep c1 BV
          have d2 := cell_keep c2 BV
          have d3 := cell_keep c3 BV
          have ZV := HZ.out.keep BV
          have z0 := ZV.cell 0
          have z1 := ZV.cell 1
          have z2 := ZV.cell 2
          have z3 := ZV.cell 3
          simp at z0 z1 z2 z3
          have f0 := ZV.frozen 0
          have f1 := ZV.frozen 1
          have f2 := ZV.frozen 2
          have f3 := ZV.frozen 3
          go_wp2
          have rh := owns_keep HL.out.held BV
          have rr := owns_keep HL.out.ready BV
          have nh := ZV.ne (by decide) rh
          have nr := ZV.ne (by decide) rr
          have rh4 := ownsRow_setCell_other (ownsRow_setCell_other (ownsRow_setCell_other (ownsRow_setCell_other rh (a := ⟨w.heap.size + 1, 0, none⟩) (Ne.symm nh) (.int .i64 (nx : Int))) (a := ⟨w.heap.size + 1, 1, none⟩) (Ne.symm nh) (.slice (some ⟨g, 0, none⟩) xs.length ca)) (a := ⟨w.heap.size + 1, 2, none⟩) (Ne.symm nh) (.string o)) (a := ⟨w.heap.size + 1, 3, none⟩) (Ne.symm nh) (.slice so rs.length cs)
          have rr4 := ownsRow_setCell_other (ownsRow_setCell_other (ownsRow_setCell_other (ownsRow_setCell_other rr (a := ⟨w.heap.size + 1, 0, none⟩) (Ne.symm nr) (.int .i64 (nx : Int))) (a := ⟨w.heap.size + 1, 1, none⟩) (Ne.symm nr) (.slice (some ⟨g, 0, none⟩) xs.length ca)) (a := ⟨w.heap.size + 1, 2, none⟩) (Ne.symm nr) (.string o)) (a := ⟨w.heap.size + 1, 3, none⟩) (Ne.symm nr) (.slice so rs.length cs)
          have B4 := ((((HBL.out.trans (BV.mono (Nat.le_trans hbs HBL.out.size))).setCell (p := ⟨w.heap.size + 1, 0, none⟩) (by show base ≤ w.heap.size + 1; omega) (.int .i64 (nx : Int))).setCell (p := ⟨w.heap.size + 1, 1, none⟩) (by show base ≤ w.heap.size + 1; omega) (.slice (some ⟨g, 0, none⟩) xs.length ca)).setCell (p := ⟨w.heap.size + 1, 2, none⟩) (by show base ≤ w.heap.size + 1; omega) (.string o)).setCell (p := ⟨w.heap.size + 1, 3, none⟩) (by show base ≤ w.heap.size + 1; omega) (.slice so rs.length cs)
          refine bodyPost_ret (v := .agg #[.int .i64 (nx : Int), .slice (some ⟨g, 0, none⟩) xs.length ca, .string o, .slice so rs.length cs]) (by simp [results, Try.results18, go_sem, z0, z1, z2, z3]) rfl ?_
          rw [HT.out, hst.out]
          exact ⟨⟨_, _, rfl, rh4, rr4⟩, B4⟩
      · have dq : (x.seq == (nx : Int)) = false := by simpa using hq
        have hst : Hid (tin xs nx o rs = (nx, xs, o, rs)) := tin_stop (fun h0 e => hq (by rw [HX.out]; exact e.1))
        go_wp2
        refine wp_region_held_drew (S := (fun w' => Below W0.heap.size W0 w')) (by kernel_rfl) ?_ (fun hHeld => ?_)
        · exact (Below.refl _ _).drew
        refine tkF 0 (some 4) ?_
        refine tkE 1 (some 5) ?_ ?_ ?_
        rotate_left
        · (intro w hSw; (have hc0 := cell_keep c0 hSw); (have hc1 := cell_keep c1 hSw); (have hc2 := cell_keep c2 hSw); (have hc3 := cell_keep c3 hSw); (have hk0 := cell_keep k0 hSw); go_simp <;> with_reducible rfl)
        refine tkF 2 (some 6) ?_
        refine tkF 3 (some 7) ?_
        refine tkF 4 (some 8) ?_
        refine tkF 5 (some 9) ?_
        refine tkE 6 (some 10) ?_ ?_ ?_
        rotate_left
        · (intro w hSw; (have hc0 := cell_keep c0 hSw); (have hc1 := cell_keep c1 hSw); (have hc2 := cell_keep c2 hSw); (have hc3 := cell_keep c3 hSw); (have hk0 := cell_keep k0 hSw); go_simp <;> with_reducible rfl)
        refine tkF 7 (some 11) ?_
        refine tkF 8 (some 12) ?_
        refine tkE 9 (some 13) ?_ ?_ ?_
        rotate_left
        · (intro w hSw; (have hc0 := cell_keep c0 hSw); (have hc1 := cell_keep c1 hSw); (have hc2 := cell_keep c2 hSw); (have hc3 := cell_keep c3 hSw); (have hk0 := cell_keep k0 hSw); go_simp <;> with_reducible rfl)
        refine tkF 10 (some 14) ?_
        refine tkE 11 (some 15) ?_ ?_ ?_
        rotate_left
        · (intro w hSw; (have hc0 := cell_keep c0 hSw); (have hc1 := cell_keep c1 hSw); (have hc2 := cell_keep c2 hSw); (have hc3 := cell_keep c3 hSw); (have hk0 := cell_keep k0 hSw); go_simp <;> with_reducible rfl)
        refine tkF 12 (some 16) ?_
        refine tkF 13 (some 17) ?_
        refine tkF 14 (some 18) ?_
        refine tkS 15 (some 19) ?_
        refine tkS 16 (some 20) ?_
        refine tkS 17 (some 21) ?_
        refine tkS 18 (some 22) ?_
        refine tkS 19 (some 23) ?_
        refine tkS 20 (some 24) ?_
        refine tkS 21 (some 25) ?_
        refine tkF 22 (some 26) ?_
        refine wpAnyH_done (by kernel_rfl) ?_ _
        generalize W0.drew = V at hHeld ⊢
        have BV : Below W0.heap.size W0 V := hHeld
        have d0 := cell_keep c0 BV
        have d1 := cell_keep c1 BV
        have d2 := cell_keep c2 BV
        have d3 := cell_keep c3 BV
        have ZV := HZ.out.keep BV
        have z0 := ZV.cell 0
        have z1 := ZV.cell 1
        have z2 := ZV.cell 2
        have z3 := ZV.cell 3
        simp at z0 z1 z2 z3
        have f0 := ZV.frozen 0
        have f1 := ZV.frozen 1
        have f2 := ZV.frozen 2
        have f3 := ZV.frozen 3
        go_wp2
        have rh := owns_keep HL.out.held BV
        have rr := owns_keep HL.out.ready BV
        have nh := ZV.ne (by decide) rh
        have nr := ZV.ne (by decide) rr
        have rh4 := ownsRow_setCell_other (ownsRow_setCell_other (ownsRow_setCell_other (ownsRow_setCell_other rh (a := ⟨w.heap.size + 1, 0, none⟩) (Ne.symm nh) (.int .i64 (nx : Int))) (a := ⟨w.heap.size + 1, 1, none⟩) (Ne.symm nh) (.slice (some ⟨g, 0, none⟩) xs.length ca)) (a := ⟨w.heap.size + 1, 2, none⟩) (Ne.symm nh) (.string o)) (a := ⟨w.heap.size + 1, 3, none⟩) (Ne.symm nh) (.slice so rs.length cs)
        have rr4 := ownsRow_setCell_other (ownsRow_setCell_other (ownsRow_setCell_other (ownsRow_setCell_other rr (a := ⟨w.heap.size + 1, 0, none⟩) (Ne.symm nr) (.int .i64 (nx : Int))) (a := ⟨w.heap.size + 1, 1, none⟩) (Ne.symm nr) (.slice (some ⟨g, 0, none⟩) xs.length ca)) (a := ⟨w.heap.size + 1, 2, none⟩) (Ne.symm nr) (.string o)) (a := ⟨w.heap.size + 1, 3, none⟩) (Ne.symm nr) (.slice so rs.length cs)
        have B4 := ((((HBL.out.trans (BV.mono (Nat.le_trans hbs HBL.out.size))).setCell (p := ⟨w.heap.size + 1, 0, none⟩) (by show base ≤ w.heap.size + 1; omega) (.int .i64 (nx : Int))).setCell (p := ⟨w.heap.size + 1, 1, none⟩) (by show base ≤ w.heap.size + 1; omega) (.slice (some ⟨g, 0, none⟩) xs.length ca)).setCell (p := ⟨w.heap.size + 1, 2, none⟩) (by show base ≤ w.heap.size + 1; omega) (.string o)).setCell (p := ⟨w.heap.size + 1, 3, none⟩) (by show base ≤ w.heap.size + 1; omega) (.slice so rs.length cs)
        refine bodyPost_ret (v := .agg #[.int .i64 (nx : Int), .slice (some ⟨g, 0, none⟩) xs.length ca, .string o, .slice so rs.length cs]) (by simp [results, Try.results18, go_sem, z0, z1, z2, z3]) rfl ?_
        rw [HT.out, hst.out]
        exact ⟨⟨_, _, rfl, rh4, rr4⟩, B4⟩
    · have hst : Hid (tin xs nx o rs = (nx, xs, o, rs)) := tin_stop (fun h0 e => hpos h0)
      have dl : decide ((0 : Int) < (xs.length : Int)) = false := decide_eq_false (by omega)
      clear hrh
      go_wp2
      refine wp_region_held_drew (S := (fun w' => Below W0.heap.size W0 w')) (by kernel_rfl) ?_ (fun hHeld => ?_)
      · exact (Below.refl _ _).drew
      refine tkF 0 (some 4) ?_
      refine tkE 1 (some 5) ?_ ?_ ?_
      rotate_left
      · (intro w hSw; (have hc0 := cell_keep c0 hSw); (have hc1 := cell_keep c1 hSw); (have hc2 := cell_keep c2 hSw); (have hc3 := cell_keep c3 hSw); go_simp <;> with_reducible rfl)
      refine tkF 2 (some 6) ?_
      refine tkF 3 (some 7) ?_
      refine tkF 4 (some 8) ?_
      refine tkS 5 (some 9) ?_
      refine tkS 6 (some 10) ?_
      refine tkS 7 (some 11) ?_
      refine tkS 8 (some 12) ?_
      refine tkS 9 (some 13) ?_
      refine tkS 10 (some 14) ?_
      refine tkS 11 (some 15) ?_
      refine tkS 12 (some 16) ?_
      refine tkF 13 (some 17) ?_
      refine tkF 14 (some 18) ?_
      refine tkS 15 (some 19) ?_
      refine tkS 16 (some 20) ?_
      refine tkS 17 (some 21) ?_
      refine tkS 18 (some 22) ?_
      refine tkS 19 (some 23) ?_
      refine tkS 20 (some 24) ?_
      refine tkS 21 (some 25) ?_
      refine tkF 22 (some 26) ?_
      refine wpAnyH_done (by kernel_rfl) ?_ _
      generalize W0.drew = V at hHeld ⊢
      have BV : Below W0.heap.size W0 V := hHeld
      have d0 := cell_keep c0 BV
      have d1 := cell_keep c1 BV
      have d2 := cell_keep c2 BV
      have d3 := cell_keep c3 BV
      have ZV := HZ.out.keep BV
      have z0 := ZV.cell 0
      have z1 := ZV.cell 1
      have z2 := ZV.cell 2
      have z3 := ZV.cell 3
      simp at z0 z1 z2 z3
      have f0 := ZV.frozen 0
      have f1 := ZV.frozen 1
      have f2 := ZV.frozen 2
      have f3 := ZV.frozen 3
      go_wp2
      have rh := owns_keep HL.out.held BV
      have rr := owns_keep HL.out.ready BV
      have nh := ZV.ne (by decide) rh
      have nr := ZV.ne (by decide) rr
      have rh4 := ownsRow_setCell_other (ownsRow_setCell_other (ownsRow_setCell_other (ownsRow_setCell_other rh (a := ⟨w.heap.size + 1, 0, none⟩) (Ne.symm nh) (.int .i64 (nx : Int))) (a := ⟨w.heap.size + 1, 1, none⟩) (Ne.symm nh) (.slice ao xs.length ca)) (a := ⟨w.heap.size + 1, 2, none⟩) (Ne.symm nh) (.string o)) (a := ⟨w.heap.size + 1, 3, none⟩) (Ne.symm nh) (.slice so rs.length cs)
      have rr4 := ownsRow_setCell_other (ownsRow_setCell_other (ownsRow_setCell_other (ownsRow_setCell_other rr (a := ⟨w.heap.size + 1, 0, none⟩) (Ne.symm nr) (.int .i64 (nx : Int))) (a := ⟨w.heap.size + 1, 1, none⟩) (Ne.symm nr) (.slice ao xs.length ca)) (a := ⟨w.heap.size + 1, 2, none⟩) (Ne.symm nr) (.string o)) (a := ⟨w.heap.size + 1, 3, none⟩) (Ne.symm nr) (.slice so rs.length cs)
      have B4 := ((((HBL.out.trans (BV.mono (Nat.le_trans hbs HBL.out.size))).setCell (p := ⟨w.heap.size + 1, 0, none⟩) (by show base ≤ w.heap.size + 1; omega) (.int .i64 (nx : Int))).setCell (p := ⟨w.heap.size + 1, 1, none⟩) (by show base ≤ w.heap.size + 1; omega) (.slice ao xs.length ca)).setCell (p := ⟨w.heap.size + 1, 2, none⟩) (by show base ≤ w.heap.size + 1; omega) (.string o)).setCell (p := ⟨w.heap.size + 1, 3, none⟩) (by show base ≤ w.heap.size + 1; omega) (.slice so rs.length cs)
      refine bodyPost_ret (v := .agg #[.int .i64 (nx : Int), .slice ao xs.length ca, .string o, .slice so rs.length cs]) (by simp [results, Try.results18, go_sem, z0, z1, z2, z3]) rfl ?_
      rw [HT.out, hst.out]
      exact ⟨⟨_, _, rfl, rh4, rr4⟩, B4⟩
end Go.Proofs.Yteceaadmgpjmcab.mk

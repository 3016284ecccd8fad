/-
  TAKING IN: (*intake).takeIn.
-/
import Derived.Test.YteceaadmgpjmcabRgE0
import Derived.WalkMore
namespace Go.Proofs.Yteceaadmgpjmcab.mk
open Go.RowKit
set_option linter.unusedVariables false

theorem It5.more {base R nx : Nat} {x : Hd} {ys : List Hd} {o : ByteArray} {rs : List ByteArray} {ds : List Value} {v : Value} {W : World} (h : It5 base R nx (x :: ys) o rs ds v W) (hx : x.seq = (nx : Int)) (hc : CanIn o rs.length x.text x.last) (hl : x.last = false) (w' : World)
    (hr : Tn base R (((ds.set 18 (.string (o ++ x.text))).set 17 (.int .u8 ((offB (bitsOf (x :: ys)) (nx % 8) : Nat) : Int))).set 0 (.int .i64 ((nx : Int) + 1))) w') (hrow : w'.ownsRow base 9 1 v rs.length (ss rs)) :
    It5 base R (nx + 1) ys (o ++ x.text) rs (((ds.set 18 (.string (o ++ x.text))).set 17 (.int .u8 ((offB (bitsOf (x :: ys)) (nx % 8) : Nat) : Int))).set 0 (.int .i64 ((nx : Int) + 1))) v w' := by
  have hq : x.seq.toNat = nx := by omega
  have hH := ((h.hold.setOpen (o ++ x.text)).drop h.win).setNext ((nx : Int) + 1)
  rw [hq] at hH
  have hs := h.small 0 (by simp)
  simp only [List.getElem_cons_zero] at hs
  refine ⟨hr, by rw [show ((nx + 1 : Nat) : Int) = (nx : Int) + 1 by omega]; exact hH, hrow, h.win.tail hx, fun i hi => by have := h.small (i + 1) (by simp; omega); simpa using this, ?_, h.many, by omega⟩
  rw [ByteArray.size_append]
  exact hc.1
theorem It5.done {base R nx : Nat} {x : Hd} {ys : List Hd} {o : ByteArray} {rs : List ByteArray} {ds : List Value} {v : Value} {W : World} (h : It5 base R nx (x :: ys) o rs ds v W) (hx : x.seq = (nx : Int)) (hc : CanIn o rs.length x.text x.last) (hl : x.last = true) (v' : Value) (w' : World)
    (hr : Tn base R ((((ds.set 19 v').set 18 (.string ⟨#[]⟩)).set 17 (.int .u8 ((offB (bitsOf (x :: ys)) (nx % 8) : Nat) : Int))).set 0 (.int .i64 ((nx : Int) + 1))) w') (hrow : w'.ownsRow base 9 1 v' (rs.length + 1) (ss rs ++ [.string (o ++ x.text)])) :
    It5 base R (nx + 1) ys ⟨#[]⟩ (rs ++ [o ++ x.text]) ((((ds.set 19 v').set 18 (.string ⟨#[]⟩)).set 17 (.int .u8 ((offB (bitsOf (x :: ys)) (nx % 8) : Nat) : Int))).set 0 (.int .i64 ((nx : Int) + 1))) v' w' := by
  have hq : x.seq.toNat = nx := by omega
  have hH := (((h.hold.setReady v').setOpen ⟨#[]⟩).drop h.win).setNext ((nx : Int) + 1)
  rw [hq] at hH
  have hs := h.small 0 (by simp)
  simp only [List.getElem_cons_zero] at hs
  have hn : rs.length < 4 := by rcases hc.2 with e | e; rw [hl] at e; cases e; exact e
  refine ⟨hr, by rw [show ((nx + 1 : Nat) : Int) = (nx : Int) + 1 by omega]; exact hH, ?_, h.win.tail hx, fun i hi => by have := h.small (i + 1) (by simp; omega); simpa using this, by show 0 ≤ 200; omega, by simp; omega, by omega⟩
  rw [ss_append, List.length_append]
  exact hrow
set_option maxRecDepth 100000 in
set_option maxHeartbeats 64000000 in
theorem takeIn_any (base R nx : Nat) (xs : List Hd) (o : ByteArray) (rs : List ByteArray) (ds : List Value) (v : Value) (w : World) (h : It5 base R nx xs o rs ds v w) (hbs : base ≤ w.heap.size) :
    Calls Try.prog 24 #[.pointer (some ⟨R, 0, none⟩)] w fun x w' => (∃ u ds' v', x = .returned u ∧ It5 base R (tin xs nx o rs).1 (tin xs nx o rs).2.1 (tin xs nx o rs).2.2.1 (tin xs nx o rs).2.2.2 ds' v' w') ∧ Below base w w' := by
  obtain ⟨T, hT⟩ : ∃ T, T = tin xs nx o rs := ⟨_, rfl⟩
  rw [← hT]
  have HT : Hid (T = tin xs nx o rs) := hT
  have HI : Hid (It5 base R nx xs o rs ds v w) := h
  clear hT h
  obtain ⟨i0, hi, hz0, hz1, hz2⟩ := info_parts info_str
  go_enter Try.func24, Try.ntmps24
  go_wp2
  go_step3
  go_wp2
  go_step3
  go_wp2
  go_loopw [2] (fun _ wr => ∃ (nx : Nat) (xs : List Hd) (o : ByteArray) (rs : List ByteArray) (ds : List Value) (v : Value), It5 base R nx xs o rs ds v wr ∧ T = tin xs nx o rs ∧ Below base w wr) (fun _ wr => 1000001 - nextOf wr R)
  case atStart => exact ⟨nx, xs, o, rs, ds, v, HI.out, HT.out, Below.refl _ _⟩
  case round =>
    clear HI HT
    obtain ⟨nx, xs, o, rs, ds, v, hI, hT, hbel⟩ := hrel
    have hle := hI.le
    have hmany := hI.many
    have hopn := hI.opn
    have hlt := hI.ring.lt
    have T0 := (hI.ring.cell 0 (by omega)).trans hI.hold.next
    have sb := hbel.size
    obtain ⟨W0, hW0⟩ : ∃ W0, W0 = wr := ⟨_, rfl⟩
    rw [← hW0] at T0 hI hbel sb hlt ⊢
    clear hW0
    have HI : Hid (It5 base R nx xs o rs ds v W0) := hI
    have HT : Hid (T = tin xs nx o rs) := hT
    have HBL : Hid (Below base w W0) := hbel
    have RW0 : Hid (Tn base R ds W0) := hI.ring
    by_cases hin : ∃ h0 : 0 < xs.length, xs[0].seq = (nx : Int)
    · obtain ⟨h0, hx⟩ := hin
      obtain ⟨x, ys, rfl⟩ : ∃ x ys, xs = x :: ys := by cases xs with | nil => simp at h0 | cons x ys => exact ⟨x, ys, rfl⟩
      have hx' : x.seq = (nx : Int) := by simpa using hx
      have hyes : inB (bitsOf (x :: ys)) (nx % 8) = true := head_yes hx'
      have hq : x.seq.toNat = nx := by omega
      have hp := hI.hold.parts 0 (by simp)
      simp only [List.getElem_cons_zero] at hp
      rw [hq] at hp
      obtain ⟨ao, cap, rfl, hcap, hmax, hrs⟩ := rs_of_owns hI.row
      have t18 := (hI.ring.cell 18 (by omega)).trans hI.hold.opn
      have t19 := (hI.ring.cell 19 (by omega)).trans hI.hold.ready
      have hsm := hI.small 0 (by simp)
      simp only [List.getElem_cons_zero] at hsm
      have HAT : Hid (∀ u : World, Tn base R ds u → Calls Try.prog 40 #[.pointer (some ⟨R, 1, none⟩), .int .i64 (nx : Int)] u fun e w' => e = .returned (.tuple #[.agg #[.string x.text, .bool x.last], .bool true]) ∧ Below u.heap.size u w') := fun u h => by have := at_in base R (bitsOf (x :: ys)) nx ds x.text x.last u h (bitsOf_lt _) (by omega) hI.hold.bits hp.1 hp.2; rw [hyes] at this; exact this
      have HCA : Hid (∀ u : World, Calls Try.prog 42 #[.agg #[.string x.text, .bool x.last], .string o, .slice ao rs.length cap] u fun e w' => e = .returned (.bool (decide (CanIn o rs.length x.text x.last))) ∧ Below u.heap.size u w') := fun u => canBeTakenIn_any _ _ _ _ _ _ u (by omega) (by omega) (by omega)
      clear hyes hp hI hT hbel hx h0 hrs hmax hcap
      by_cases hcan : CanIn o rs.length x.text x.last
      · have dc : decide (CanIn o rs.length x.text x.last) = true := decide_eq_true hcan
        rw [dc] at HCA
        clear dc
        cases hlast : x.last
        · rw [hlast] at HAT HCA
          have hst : Hid (tin (x :: ys) nx o rs = tin ys (nx + 1) (o ++ x.text) rs) := tin_more hx' hcan hlast
          go_wp2
          refine wp_region_held_drew (S := (fun w' => Below W0.heap.size W0 w')) (by kernel_rfl) ?_ (fun hHeld => ?_)
          · exact (Below.refl _ _).drew
          refine tkF 0 (some 5) ?_
          refine tkF 1 (some 6) ?_
          refine tkF 2 (some 7) ?_
          refine tkF 3 (some 8) ?_
          refine tkF 4 (some 9) ?_
          refine tkF 5 (some 10) ?_
          refine tkE 6 (some 11) ?_ ?_ ?_
          rotate_left
          · (intro w hSw; (have hT0 := cell_keep T0 hSw); go_simp <;> with_reducible rfl)
          refine wpAnyH_ready (rs := [7, 11]) (by kernel_rfl) (by simp) ?_
          refine AllReadyH.cons rfl (fun K hK => ?_) (AllReadyH.cons rfl (fun K hK => ?_) AllReadyH.nil)
          · go_simp
            refine (HAT.out _ (RW0.out.keep (by assumption))).mono ?_
            rintro e w2 ⟨rfl, hb2⟩
            go_wp2_with fail
            refine hK.out _ _ ?_ (fun hHeld => ?_)
            · exact kb (by assumption) hb2 (Nat.le_refl _)
            clear hK K
            try simp only [Act.put, List.setIfInBounds_toArray, List.set_cons_zero, List.set_cons_succ]
            refine tkF 8 (some 4) ?_
            refine tkF 9 (some 13) ?_
            refine tkF 10 (some 14) ?_
            refine wpAnyH_ready (rs := [11]) (by kernel_rfl) (by simp) ?_
            refine AllReadyH.cons rfl (fun K hK => ?_) AllReadyH.nil
            go_simp
            refine hK.out _ _ ?_ (fun hHeld => ?_)
            · exact Below.alloc (by assumption) (by assumption : Below W0.heap.size W0 _).size _
            clear hK K
            try simp only [Act.put, List.setIfInBounds_toArray, List.set_cons_zero, List.set_cons_succ]
            refine wpAnyH_ready (rs := [12]) (by kernel_rfl) (by simp) ?_
            refine AllReadyH.cons rfl (fun K hK => ?_) AllReadyH.nil
            go_simp
            refine hK.out _ _ ?_ (fun hHeld => ?_)
            · exact Below.alloc (by assumption) (by assumption : Below W0.heap.size W0 _).size _
            clear hK K
            try simp only [Act.put, List.setIfInBounds_toArray, List.set_cons_zero, List.set_cons_succ]
            refine tkF 13 (some 3) ?_
            refine wpAnyH_done (by kernel_rfl) ?_ _
            obtain ⟨P, hP⟩ : ∃ P, P = w2.heap.size := ⟨_, rfl⟩
            obtain ⟨U, hU⟩ : ∃ U, U = w2.alloc (.cells #[.string x.text, .bool false] 35) := ⟨_, rfl⟩
            have P0 : U.cell? ⟨P, 0, none⟩ = some (.string x.text) := by rw [hU, hP]; simp [go_sem]
            have P1 : U.cell? ⟨P, 1, none⟩ = some (.bool false) := by rw [hU, hP]; simp [go_sem]
            have BU : Below W0.heap.size W0 U := by rw [hU]; assumption
            have hPB : W0.heap.size ≤ P := by rw [hP]; exact hb2.size
            rw [← hU, ← hP]
            clear hU hP hb2
            have T18 := cell_keep t18 BU
            have T19 := cell_keep t19 BU
            go_wp2
            refine wp_region_held_drew (S := (fun w' => Below U.heap.size U w')) (by kernel_rfl) ?_ (fun hHeld => ?_)
            · exact (Below.refl _ _).drew
            refine tkF 0 (some 25) ?_
            refine tkF 1 (some 26) ?_
            refine tkF 2 (some 27) ?_
            refine tkE 3 (some 28) ?_ ?_ ?_
            rotate_left
            · (intro w hSw; (have hP0 := cell_keep P0 hSw); (have hP1 := cell_keep P1 hSw); (have hT18 := cell_keep T18 hSw); (have hT19 := cell_keep T19 hSw); go_simp <;> with_reducible rfl)
            refine tkF 4 (some 29) ?_
            refine tkF 5 (some 30) ?_
            refine tkF 6 (some 31) ?_
            refine tkE 7 (some 32) ?_ ?_ ?_
            rotate_left
            · (intro w hSw; (have hP0 := cell_keep P0 hSw); (have hP1 := cell_keep P1 hSw); (have hT18 := cell_keep T18 hSw); (have hT19 := cell_keep T19 hSw); go_simp <;> with_reducible rfl)
            refine tkF 8 (some 33) ?_
            refine tkF 9 (some 34) ?_
            refine tkF 10 (some 35) ?_
            refine tkE 11 (some 36) ?_ ?_ ?_
            rotate_left
            · (intro w hSw; (have hP0 := cell_keep P0 hSw); (have hP1 := cell_keep P1 hSw); (have hT18 := cell_keep T18 hSw); (have hT19 := cell_keep T19 hSw); go_simp <;> with_reducible rfl)
            refine wpAnyH_ready (rs := [12]) (by kernel_rfl) (by simp) ?_
            refine AllReadyH.cons rfl (fun K hK => ?_) AllReadyH.nil
            go_simp
            refine (HCA.out _).mono ?_
            rintro e w3 ⟨rfl, hb3⟩
            go_wp2_with fail
            refine hK.out _ _ ?_ (fun hHeld => ?_)
            · exact kb (by assumption) hb3 (Nat.le_refl _)
            clear hK K
            try simp only [Act.put, List.setIfInBounds_toArray, List.set_cons_zero, List.set_cons_succ]
            refine tkF 13 (some 38) ?_
            refine tkF 14 (some 39) ?_
            refine tkF 15 (some 24) ?_
            refine wpAnyH_done (by kernel_rfl) ?_ _
            have BX : Below W0.heap.size W0 w3 := kb BU (by assumption) (Nat.le_refl _)
            have p0 := cell_keep P0 (by assumption : Below U.heap.size U w3)
            have p1 := cell_keep P1 (by assumption : Below U.heap.size U w3)
            have R3 := RW0.out.keep BX
            have c18 := cell_keep t18 BX
            have f18 := R3.frozen 18
            go_wp2
            go_region_with (fail)
            all_goals
              have R4 := Tn.keep (R3.put 18 (.string (o ++ x.text))) (Below.refl _ _).drew
              have b17 : (ds.set 18 (.string (o ++ x.text)))[17]? = some (.int .u8 ((bitsOf (x :: ys) : Nat) : Int)) := by rw [List.getElem?_set_ne (by omega)]; exact HI.out.hold.bits
              have n0 : (ds.set 18 (.string (o ++ x.text)))[0]? = some (.int .i64 (nx : Int)) := by rw [List.getElem?_set_ne (by omega)]; exact HI.out.hold.next
              have c0 := (R4.cell 0 (by omega)).trans n0
              go_wp2
              go_region_with (go_at_call 43; refine (drop_in base R (bitsOf (x :: ys)) nx _ _ (Tn.keep R4 (Below.refl _ _).drew) (bitsOf_lt _) (by omega) b17).mono ?_; rintro e w5 ⟨⟨v5, rfl⟩, hr5, hg5⟩)
              have n5 : ((ds.set 18 (.string (o ++ x.text))).set 17 (.int .u8 ((offB (bitsOf (x :: ys)) (nx % 8) : Nat) : Int)))[0]? = some (.int .i64 (nx : Int)) := by rw [List.getElem?_set_ne (by omega)]; exact n0
              have c5 := (hr5.cell 0 (by omega)).trans n5
              have f5 := hr5.frozen 0
              go_wp2
              have row3 := owns_keep HI.out.row BX
              have hneR := Tn.ne R3 row3
              have row4 := World.ownsRow.drew (World.ownsRow.drew (ownsRow_setCell_other row3 (a := ⟨R, 18, none⟩) (Ne.symm hneR) (.string (o ++ x.text))))
              have row6 := ownsRow_setCell_other (row4.kept hg5 (.inr (Ne.symm hneR))) (a := ⟨R, 0, none⟩) (Ne.symm hneR) (.int .i64 ((nx : Int) + 1))
              have hJ := It5.more HI.out hx' hcan hlast _ (hr5.put 0 (.int .i64 ((nx : Int) + 1))) row6
              have B4 := ((HBL.out.trans (BX.mono (Nat.le_trans hbs sb))).setCell (p := ⟨R, 18, none⟩) hlt.1 (.string (o ++ x.text))).drew.drew
              have B6 := (B4.grown hg5 (Nat.le_trans hbs B4.size) (fun j hj => by cases hj; exact hlt.1)).setCell (p := ⟨R, 0, none⟩) hlt.1 (.int .i64 ((nx : Int) + 1))
              refine ⟨⟨_, _, _, _, _, _, hJ, by rw [HT.out, hst.out], B6⟩, ?_⟩
              rw [hJ.nextOf, HI.out.nextOf]
              omega
          · go_simp
            refine hK.out _ _ ?_ (fun hHeld => ?_)
            · exact Below.alloc (by assumption) (by assumption : Below W0.heap.size W0 _).size _
            clear hK K
            try simp only [Act.put, List.setIfInBounds_toArray, List.set_cons_zero, List.set_cons_succ]
            have AD : Below W0.heap.size W0 (W0.alloc (.cells #[.string ⟨#[]⟩, .bool false] 35)).drew := by assumption
            refine wpAnyH_ready (rs := [7]) (by kernel_rfl) (by simp) ?_
            refine AllReadyH.cons rfl (fun K hK => ?_) AllReadyH.nil
            go_simp
            refine (HAT.out _ (RW0.out.keep (by assumption))).mono ?_
            rintro e w2 ⟨rfl, hb2⟩
            go_wp2_with fail
            have q0 := hb2.cell (p := ⟨W0.heap.size, 0, none⟩) (by simp)
            have q1 := hb2.cell (p := ⟨W0.heap.size, 1, none⟩) (by simp)
            have g0 := hb2.frozen (p := ⟨W0.heap.size, 0, none⟩) (by simp)
            have g1 := hb2.frozen (p := ⟨W0.heap.size, 1, none⟩) (by simp)
            simp [go_sem] at q0 q1 g0 g1
            refine hK.out _ _ ?_ (fun hHeld => ?_)
            · exact kb (by assumption) hb2 (Nat.le_refl _)
            clear hK K
            try simp only [Act.put, List.setIfInBounds_toArray, List.set_cons_zero, List.set_cons_succ]
            refine tkF 8 (some 4) ?_
            refine tkF 9 (some 13) ?_
            refine tkF 10 (some 14) ?_
            refine wpAnyH_ready (rs := [12]) (by kernel_rfl) (by simp) ?_
            refine AllReadyH.cons rfl (fun K hK => ?_) AllReadyH.nil
            go_simp
            refine hK.out _ _ ?_ (fun hHeld => ?_)
            · exact ((by assumption : Below W0.heap.size W0 w2).setCell (p := ⟨W0.heap.size, 0, none⟩) (Nat.le_refl _) _).setCell (p := ⟨W0.heap.size, 1, none⟩) (Nat.le_refl _) _
            clear hK K
            try simp only [Act.put, List.setIfInBounds_toArray, List.set_cons_zero, List.set_cons_succ]
            refine tkF 13 (some 3) ?_
            refine wpAnyH_done (by kernel_rfl) ?_ _
            obtain ⟨P, hP⟩ : ∃ P, P = W0.heap.size := ⟨_, rfl⟩
            obtain ⟨U, hU⟩ : ∃ U, U = (w2.setCell ⟨W0.heap.size, 0, none⟩ (.string x.text)).setCell ⟨W0.heap.size, 1, none⟩ (.bool false) := ⟨_, rfl⟩
            have P0 : U.cell? ⟨P, 0, none⟩ = some (.string x.text) := by rw [hU, hP]; simp [go_sem, q0]
            have P1 : U.cell? ⟨P, 1, none⟩ = some (.bool false) := by rw [hU, hP]; simp [go_sem, q1]
            have BU : Below W0.heap.size W0 U := by rw [hU]; assumption
            have hPB : W0.heap.size ≤ P := by omega
            rw [← hU]
            simp only [← hP]
            clear hP hU q0 q1 g0 g1 hb2 AD
            have T18 := cell_keep t18 BU
            have T19 := cell_keep t19 BU
            go_wp2
            refine wp_region_held_drew (S := (fun w' => Below U.heap.size U w')) (by kernel_rfl) ?_ (fun hHeld => ?_)
            · exact (Below.refl _ _).drew
            refine tkF 0 (some 25) ?_
            refine tkF 1 (some 26) ?_
            refine tkF 2 (some 27) ?_
            refine tkE 3 (some 28) ?_ ?_ ?_
            rotate_left
            · (intro w hSw; (have hP0 := cell_keep P0 hSw); (have hP1 := cell_keep P1 hSw); (have hT18 := cell_keep T18 hSw); (have hT19 := cell_keep T19 hSw); go_simp <;> with_reducible rfl)
            refine tkF 4 (some 29) ?_
            refine tkF 5 (some 30) ?_
            refine tkF 6 (some 31) ?_
            refine tkE 7 (some 32) ?_ ?_ ?_
            rotate_left
            · (intro w hSw; (have hP0 := cell_keep P0 hSw); (have hP1 := cell_keep P1 hSw); (have hT18 := cell_keep T18 hSw); (have hT19 := cell_keep T19 hSw); go_simp <;> with_reducible rfl)
            refine tkF 8 (some 33) ?_
            refine tkF 9 (some 34) ?_
            refine tkF 10 (some 35) ?_
            refine tkE 11 (some 36) ?_ ?_ ?_
            rotate_left
            · (intro w hSw; (have hP0 := cell_keep P0 hSw); (have hP1 := cell_keep P1 hSw); (have hT18 := cell_keep T18 hSw); (have hT19 := cell_keep T19 hSw); go_simp <;> with_reducible rfl)
            refine wpAnyH_ready (rs := [12]) (by kernel_rfl) (by simp) ?_
            refine AllReadyH.cons rfl (fun K hK => ?_) AllReadyH.nil
            go_simp
            refine (HCA.out _).mono ?_
            rintro e w3 ⟨rfl, hb3⟩
            go_wp2_with fail
            refine hK.out _ _ ?_ (fun hHeld => ?_)
            · exact kb (by assumption) hb3 (Nat.le_refl _)
            clear hK K
            try simp only [Act.put, List.setIfInBounds_toArray, List.set_cons_zero, List.set_cons_succ]
            refine tkF 13 (some 38) ?_
            refine tkF 14 (some 39) ?_
            refine tkF 15 (some 24) ?_
            refine wpAnyH_done (by kernel_rfl) ?_ _
            have BX : Below W0.heap.size W0 w3 := kb BU (by assumption) (Nat.le_refl _)
            have p0 := cell_keep P0 (by assumption : Below U.heap.size U w3)
            have p1 := cell_keep P1 (by assumption : Below U.heap.size U w3)
            have R3 := RW0.out.keep BX
            have c18 := cell_keep t18 BX
            have f18 := R3.frozen 18
            go_wp2
            go_region_with (fail)
            all_goals
              have R4 := Tn.keep (R3.put 18 (.string (o ++ x.text))) (Below.refl _ _).drew
              have b17 : (ds.set 18 (.string (o ++ x.text)))[17]? = some (.int .u8 ((bitsOf (x :: ys) : Nat) : Int)) := by rw [List.getElem?_set_ne (by omega)]; exact HI.out.hold.bits
              have n0 : (ds.set 18 (.string (o ++ x.text)))[0]? = some (.int .i64 (nx : Int)) := by rw [List.getElem?_set_ne (by omega)]; exact HI.out.hold.next
              have c0 := (R4.cell 0 (by omega)).trans n0
              go_wp2
              go_region_with (go_at_call 43; refine (drop_in base R (bitsOf (x :: ys)) nx _ _ (Tn.keep R4 (Below.refl _ _).drew) (bitsOf_lt _) (by omega) b17).mono ?_; rintro e w5 ⟨⟨v5, rfl⟩, hr5, hg5⟩)
              have n5 : ((ds.set 18 (.string (o ++ x.text))).set 17 (.int .u8 ((offB (bitsOf (x :: ys)) (nx % 8) : Nat) : Int)))[0]? = some (.int .i64 (nx : Int)) := by rw [List.getElem?_set_ne (by omega)]; exact n0
              have c5 := (hr5.cell 0 (by omega)).trans n5
              have f5 := hr5.frozen 0
              go_wp2
              have row3 := owns_keep HI.out.row BX
              have hneR := Tn.ne R3 row3
              have row4 := World.ownsRow.drew (World.ownsRow.drew (ownsRow_setCell_other row3 (a := ⟨R, 18, none⟩) (Ne.symm hneR) (.string (o ++ x.text))))
              have row6 := ownsRow_setCell_other (row4.kept hg5 (.inr (Ne.symm hneR))) (a := ⟨R, 0, none⟩) (Ne.symm hneR) (.int .i64 ((nx : Int) + 1))
              have hJ := It5.more HI.out hx' hcan hlast _ (hr5.put 0 (.int .i64 ((nx : Int) + 1))) row6
              have B4 := ((HBL.out.trans (BX.mono (Nat.le_trans hbs sb))).setCell (p := ⟨R, 18, none⟩) hlt.1 (.string (o ++ x.text))).drew.drew
              have B6 := (B4.grown hg5 (Nat.le_trans hbs B4.size) (fun j hj => by cases hj; exact hlt.1)).setCell (p := ⟨R, 0, none⟩) hlt.1 (.int .i64 ((nx : Int) + 1))
              refine ⟨⟨_, _, _, _, _, _, hJ, by rw [HT.out, hst.out], B6⟩, ?_⟩
              rw [hJ.nextOf, HI.out.nextOf]
              omega
        · rw [hlast] at HAT HCA
          have hst : Hid (tin (x :: ys) nx o rs = tin ys (nx + 1) ⟨#[]⟩ (rs ++ [o ++ x.text])) := tin_last hx' hcan hlast
          go_wp2
          refine wp_region_held_drew (S := (fun w' => Below W0.heap.size W0 w')) (by kernel_rfl) ?_ (fun hHeld => ?_)
          · exact (Below.refl _ _).drew
          refine tkF 0 (some 5) ?_
          refine tkF 1 (some 6) ?_
          refine tkF 2 (some 7) ?_
          refine tkF 3 (some 8) ?_
          refine tkF 4 (some 9) ?_
          refine tkF 5 (some 10) ?_
          refine tkE 6 (some 11) ?_ ?_ ?_
          rotate_left
          · (intro w hSw; (have hT0 := cell_keep T0 hSw); go_simp <;> with_reducible rfl)
          refine wpAnyH_ready (rs := [7, 11]) (by kernel_rfl) (by simp) ?_
          refine AllReadyH.cons rfl (fun K hK => ?_) (AllReadyH.cons rfl (fun K hK => ?_) AllReadyH.nil)
          · go_simp
            refine (HAT.out _ (RW0.out.keep (by assumption))).mono ?_
            rintro e w2 ⟨rfl, hb2⟩
            go_wp2_with fail
            refine hK.out _ _ ?_ (fun hHeld => ?_)
            · exact kb (by assumption) hb2 (Nat.le_refl _)
            clear hK K
            try simp only [Act.put, List.setIfInBounds_toArray, List.set_cons_zero, List.set_cons_succ]
            refine tkF 8 (some 4) ?_
            refine tkF 9 (some 13) ?_
            refine tkF 10 (some 14) ?_
            refine wpAnyH_ready (rs := [11]) (by kernel_rfl) (by simp) ?_
            refine AllReadyH.cons rfl (fun K hK => ?_) AllReadyH.nil
            go_simp
            refine hK.out _ _ ?_ (fun hHeld => ?_)
            · exact Below.alloc (by assumption) (by assumption : Below W0.heap.size W0 _).size _
            clear hK K
            try simp only [Act.put, List.setIfInBounds_toArray, List.set_cons_zero, List.set_cons_succ]
            refine wpAnyH_ready (rs := [12]) (by kernel_rfl) (by simp) ?_
            refine AllReadyH.cons rfl (fun K hK => ?_) AllReadyH.nil
            go_simp
            refine hK.out _ _ ?_ (fun hHeld => ?_)
            · exact Below.alloc (by assumption) (by assumption : Below W0.heap.size W0 _).size _
            clear hK K
            try simp only [Act.put, List.setIfInBounds_toArray, List.set_cons_zero, List.set_cons_succ]
            refine tkF 13 (some 3) ?_
            refine wpAnyH_done (by kernel_rfl) ?_ _
            obtain ⟨P, hP⟩ : ∃ P, P = w2.heap.size := ⟨_, rfl⟩
            obtain ⟨U, hU⟩ : ∃ U, U = w2.alloc (.cells #[.string x.text, .bool true] 35) := ⟨_, rfl⟩
            have P0 : U.cell? ⟨P, 0, none⟩ = some (.string x.text) := by rw [hU, hP]; simp [go_sem]
            have P1 : U.cell? ⟨P, 1, none⟩ = some (.bool true) := by rw [hU, hP]; simp [go_sem]
            have BU : Below W0.heap.size W0 U := by rw [hU]; assumption
            have hPB : W0.heap.size ≤ P := by rw [hP]; exact hb2.size
            rw [← hU, ← hP]
            clear hU hP hb2
            have T18 := cell_keep t18 BU
            have T19 := cell_keep t19 BU
            go_wp2
            refine wp_region_held_drew (S := (fun w' => Below U.heap.size U w')) (by kernel_rfl) ?_ (fun hHeld => ?_)
            · exact (Below.refl _ _).drew
            refine tkF 0 (some 25) ?_
            refine tkF 1 (some 26) ?_
            refine tkF 2 (some 27) ?_
            refine tkE 3 (some 28) ?_ ?_ ?_
            rotate_left
            · (intro w hSw; (have hP0 := cell_keep P0 hSw); (have hP1 := cell_keep P1 hSw); (have hT18 := cell_keep T18 hSw); (have hT19 := cell_keep T19 hSw); go_simp <;> with_reducible rfl)
            refine tkF 4 (some 29) ?_
            refine tkF 5 (some 30) ?_
            refine tkF 6 (some 31) ?_
            refine tkE 7 (some 32) ?_ ?_ ?_
            rotate_left
            · (intro w hSw; (have hP0 := cell_keep P0 hSw); (have hP1 := cell_keep P1 hSw); (have hT18 := cell_keep T18 hSw); (have hT19 := cell_keep T19 hSw); go_simp <;> with_reducible rfl)
            refine tkF 8 (some 33) ?_
            refine tkF 9 (some 34) ?_
            refine tkF 10 (some 35) ?_
            refine tkE 11 (some 36) ?_ ?_ ?_
            rotate_left
            · (intro w hSw; (have hP0 := cell_keep P0 hSw); (have hP1 := cell_keep P1 hSw); (have hT18 := cell_keep T18 hSw); (have hT19 := cell_keep T19 hSw); go_simp <;> with_reducible rfl)
            refine wpAnyH_ready (rs := [12]) (by kernel_rfl) (by simp) ?_
            refine AllReadyH.cons rfl (fun K hK => ?_) AllReadyH.nil
            go_simp
            refine (HCA.out _).mono ?_
            rintro e w3 ⟨rfl, hb3⟩
            go_wp2_with fail
            refine hK.out _ _ ?_ (fun hHeld => ?_)
            · exact kb (by assumption) hb3 (Nat.le_refl _)
            clear hK K
            try simp only [Act.put, List.setIfInBounds_toArray, List.set_cons_zero, List.set_cons_succ]
            refine tkF 13 (some 38) ?_
            refine tkF 14 (some 39) ?_
            refine tkF 15 (some 24) ?_
            refine wpAnyH_done (by kernel_rfl) ?_ _
            have BX : Below W0.heap.size W0 w3 := kb BU (by assumption) (Nat.le_refl _)
            have p0 := cell_keep P0 (by assumption : Below U.heap.size U w3)
            have p1 := cell_keep P1 (by assumption : Below U.heap.size U w3)
            have R3 := RW0.out.keep BX
            have c18 := cell_keep t18 BX
            have c19 := cell_keep t19 BX
            have row3 := owns_keep HI.out.row BX
            have hneR := Tn.ne R3 row3
            have hneP : some P ≠ (Value.slice ao rs.length cap).ownBlock := fun e => by have := (HI.out.row.lt P e.symm).2; omega
            have hcat : ¬ 9223372036854775807 < o.size + x.text.size := by omega
            have hRP : R ≠ P := by omega
            have hRP2 : P ≠ R := by omega
            have AL : Below w3.heap.size w3 (w3.alloc (.cells #[.string (o ++ x.text)] 9)).drew := ((Below.refl _ _).alloc (Nat.le_refl _) _).drew
            have bs3 : base ≤ w3.heap.size := Nat.le_trans hbs (Nat.le_trans sb BX.size)
            go_wp2
            refine wp_region_held_drew (S := (fun w' => w'.cell? ⟨R, 18, none⟩ = some (.string o) ∧ w'.cell? ⟨P, 0, none⟩ = some (.string x.text))) (by kernel_rfl) ?_ (fun hHeld => ?_)
            · exact ⟨c18, p0⟩
            refine tkF 0 (some 43) ?_
            refine tkF 1 (some 44) ?_
            refine tkF 2 (some 45) ?_
            refine tkF 3 (some 46) ?_
            refine tkF 5 (some 48) ?_
            refine tkF 6 (some 49) ?_
            refine tkF 7 (some 50) ?_
            refine tkE 8 (some 51) ?_ ?_ ?_
            rotate_left
            · (intro w hSw; (obtain ⟨hS1, hS2⟩ := hSw); go_simp <;> with_reducible rfl)
            refine tkF 9 (some 52) ?_
            refine tkE 10 (some 53) ?_ ?_ ?_
            rotate_left
            · (intro w hSw; (obtain ⟨hS1, hS2⟩ := hSw); go_simp <;> with_reducible rfl)
            refine tkF 11 (some 54) ?_
            refine wpAnyH_ready (rs := [4, 12]) (by kernel_rfl) (by simp) ?_
            refine AllReadyH.cons rfl (fun K hK => ?_) (AllReadyH.cons rfl (fun K hK => ?_) AllReadyH.nil)
            · go_simp
              refine hK.out _ _ ?_ (fun hHeld => ?_)
              · exact ⟨c18, p0⟩
              clear hK K
              try simp only [Act.put, List.setIfInBounds_toArray, List.set_cons_zero, List.set_cons_succ]
              refine wpAnyH_ready (rs := [12]) (by kernel_rfl) (by simp) ?_
              refine AllReadyH.cons rfl (fun K hK => ?_) AllReadyH.nil
              go_simp
              refine hK.out _ _ ?_ (fun hHeld => ?_)
              · exact ⟨cell_keep c18 AL, cell_keep p0 AL⟩
              clear hK K
              try simp only [Act.put, List.setIfInBounds_toArray, List.set_cons_zero, List.set_cons_succ]
              refine wpAnyH_ready (rs := [13]) (by kernel_rfl) (by simp) ?_
              refine AllReadyH.cons rfl (fun K hK => ?_) AllReadyH.nil
              refine step_append_lies _ rfl _ _ 23 rfl base 9 i0 (.string ⟨#[]⟩) 1 16 Try.underlying23 hi hz0 hz1 hz2 rfl (by decide) (.slice ao rs.length cap) rs.length (ss rs) rfl (owns_keep row3 AL) ⟨w3.heap.size, 0, none⟩ 1 1 [.string (o ++ x.text)] rfl rfl (one5 w3.drew (.string (o ++ x.text)) 9) (one6 _) (by omega) (by unfold maxLen; omega) (by omega) (Nat.le_trans bs3 AL.size) (w3.heap.size + 1) (by simp) ?_
              intro g5 c5 w5 hown5 hgrow hat hlt5
              have RA := R3.keep AL
              have y5 := far5 hgrow R 19 (cell_keep c19 AL) hneR
              have z5 := farF5 hgrow R 19 RA.lt.2 (RA.frozen 19) hneR
              have s18 := far5 hgrow R 18 (cell_keep c18 AL) hneR
              have sP := far5 hgrow P 0 (cell_keep p0 AL) hneP
              refine hK.out _ _ ?_ (fun hHeld => ?_)
              · exact ⟨s18, sP⟩
              clear hK K
              try simp only [Act.put, List.setIfInBounds_toArray]
              refine takeD (i := 14) (d := some 57) (v := ?_) rfl rfl (by kernel_rfl) (by kernel_rfl) (by kernel_rfl) (fun _ _ _ h => h) (Or.inl ⟨by rfl, ?_⟩) (by assumption) ?_
              rotate_left
              · (intro w hSw; go_simp <;> with_reducible rfl)
              simp only [Act.put]
              refine takeD (i := 15) (d := some 58) (v := ?_) rfl rfl (by kernel_rfl) (by kernel_rfl) (by kernel_rfl) (fun _ _ _ h => h) (Or.inl ⟨by rfl, ?_⟩) (by assumption) ?_
              rotate_left
              · (intro w hSw; go_simp <;> with_reducible rfl)
              simp only [Act.put]
              refine wpAnyH_ready (rs := [16]) (by kernel_rfl) (by simp) ?_
              refine AllReadyH.cons rfl (fun K hK => ?_) AllReadyH.nil
              go_simp
              refine hK.out _ _ ?_ (fun hHeld => ?_)
              · exact ⟨by simp [go_sem, s18], by simp [go_sem, sP]⟩
              clear hK K
              try simp only [Act.put, List.setIfInBounds_toArray, List.set_cons_zero, List.set_cons_succ]
              refine wpAnyH_done (by kernel_rfl) ?_ _
              have R5 := World.ownsRow.kept RA hgrow (.inr hneR)
              have R6 : Tn base R (ds.set 19 (.slice (some ⟨g5, 0, none⟩) (rs.length + 1) c5)) _ := Tn.put R5 19 (.slice (some ⟨g5, 0, none⟩) (rs.length + 1) c5)
              have hne5 := Tn.ne R5 hown5
              have row5 := ownsRow_setCell_other hown5 (a := ⟨R, 19, none⟩) (Ne.symm hne5) (.slice (some ⟨g5, 0, none⟩) (rs.length + 1) c5)
              have B5 : Below base w w5 := (HBL.out.trans ((kb BX AL (Nat.le_refl _)).mono (Nat.le_trans hbs sb))).grown hgrow (Nat.le_trans bs3 AL.size) (fun j hj => (HI.out.row.lt j hj).1)
              have B6 := B5.setCell (p := ⟨R, 19, none⟩) hlt.1 (.slice (some ⟨g5, 0, none⟩) (rs.length + 1) c5)
              obtain ⟨w6, hw6⟩ : ∃ w6, w5.setCell ⟨R, 19, none⟩ (.slice (some ⟨g5, 0, none⟩) (rs.length + 1) c5) = w6 := ⟨_, rfl⟩
              rw [hw6] at R6 row5 B6 ⊢
              have c6 : w6.cell? ⟨R, 18, none⟩ = some (.string o) := (R6.cell 18 (by omega)).trans (by rw [List.getElem?_set_ne (by omega)]; exact HI.out.hold.opn)
              have f6 := R6.frozen 18
              clear hw6 hgrow hat hown5 y5 z5 s18 sP R5 RA B5
              go_wp2
              have R7 := R6.put 18 (.string ⟨#[]⟩)
              have b17 : ((ds.set 19 (.slice (some ⟨g5, 0, none⟩) (rs.length + 1) c5)).set 18 (.string ⟨#[]⟩))[17]? = some (.int .u8 ((bitsOf (x :: ys) : Nat) : Int)) := by rw [List.getElem?_set_ne (by omega), List.getElem?_set_ne (by omega)]; exact HI.out.hold.bits
              have n0 : ((ds.set 19 (.slice (some ⟨g5, 0, none⟩) (rs.length + 1) c5)).set 18 (.string ⟨#[]⟩))[0]? = some (.int .i64 (nx : Int)) := by rw [List.getElem?_set_ne (by omega), List.getElem?_set_ne (by omega)]; exact HI.out.hold.next
              have c0 := (R7.cell 0 (by omega)).trans n0
              go_region_with (go_at_call 43; refine (drop_in base R (bitsOf (x :: ys)) nx _ _ (Tn.keep R7 (Below.refl _ _).drew) (bitsOf_lt _) (by omega) b17).mono ?_; rintro e w7 ⟨⟨v7, rfl⟩, hr7, hg7⟩)
              have n7 : (((ds.set 19 (.slice (some ⟨g5, 0, none⟩) (rs.length + 1) c5)).set 18 (.string ⟨#[]⟩)).set 17 (.int .u8 ((offB (bitsOf (x :: ys)) (nx % 8) : Nat) : Int)))[0]? = some (.int .i64 (nx : Int)) := by rw [List.getElem?_set_ne (by omega)]; exact n0
              have c7 := (hr7.cell 0 (by omega)).trans n7
              have f7 := hr7.frozen 0
              go_wp2
              have row7 := World.ownsRow.drew (ownsRow_setCell_other row5 (a := ⟨R, 18, none⟩) (Ne.symm hne5) (.string ⟨#[]⟩))
              have row8 := ownsRow_setCell_other (row7.kept hg7 (.inr (Ne.symm hne5))) (a := ⟨R, 0, none⟩) (Ne.symm hne5) (.int .i64 ((nx : Int) + 1))
              have hJ := It5.done HI.out hx' hcan hlast _ _ (hr7.put 0 (.int .i64 ((nx : Int) + 1))) row8
              have B7 := (B6.setCell (p := ⟨R, 18, none⟩) hlt.1 (.string ⟨#[]⟩)).drew
              have B8 := (B7.grown hg7 (Nat.le_trans hbs B7.size) (fun j hj => by cases hj; exact hlt.1)).setCell (p := ⟨R, 0, none⟩) hlt.1 (.int .i64 ((nx : Int) + 1))
              refine ⟨⟨_, _, _, _, _, _, hJ, by rw [HT.out, hst.out], B8⟩, ?_⟩
              rw [hJ.nextOf, HI.out.nextOf]
              omega
            · go_simp
              refine hK.out _ _ ?_ (fun hHeld => ?_)
              · exact ⟨cell_keep c18 AL, cell_keep p0 AL⟩
              clear hK K
              try simp only [Act.put, List.setIfInBounds_toArray, List.set_cons_zero, List.set_cons_succ]
              have c19a := cell_keep c19 AL
              refine wpAnyH_ready (rs := [4]) (by kernel_rfl) (by simp) ?_
              refine AllReadyH.cons rfl (fun K hK => ?_) AllReadyH.nil
              go_simp
              refine hK.out _ _ ?_ (fun hHeld => ?_)
              · exact ⟨cell_keep c18 AL, cell_keep p0 AL⟩
              clear hK K
              try simp only [Act.put, List.setIfInBounds_toArray, List.set_cons_zero, List.set_cons_succ]
              refine wpAnyH_ready (rs := [13]) (by kernel_rfl) (by simp) ?_
              refine AllReadyH.cons rfl (fun K hK => ?_) AllReadyH.nil
              refine step_append_lies _ rfl _ _ 23 rfl base 9 i0 (.string ⟨#[]⟩) 1 16 Try.underlying23 hi hz0 hz1 hz2 rfl (by decide) (.slice ao rs.length cap) rs.length (ss rs) rfl (owns_keep row3 AL) ⟨w3.heap.size, 0, none⟩ 1 1 [.string (o ++ x.text)] rfl rfl (one5 w3.drew (.string (o ++ x.text)) 9) (one6 _) (by omega) (by unfold maxLen; omega) (by omega) (Nat.le_trans bs3 AL.size) (w3.heap.size + 1) (by simp) ?_
              intro g5 c5 w5 hown5 hgrow hat hlt5
              have RA := R3.keep AL
              have y5 := far5 hgrow R 19 (cell_keep c19 AL) hneR
              have z5 := farF5 hgrow R 19 RA.lt.2 (RA.frozen 19) hneR
              have s18 := far5 hgrow R 18 (cell_keep c18 AL) hneR
              have sP := far5 hgrow P 0 (cell_keep p0 AL) hneP
              refine hK.out _ _ ?_ (fun hHeld => ?_)
              · exact ⟨s18, sP⟩
              clear hK K
              try simp only [Act.put, List.setIfInBounds_toArray]
              refine takeD (i := 14) (d := some 57) (v := ?_) rfl rfl (by kernel_rfl) (by kernel_rfl) (by kernel_rfl) (fun _ _ _ h => h) (Or.inl ⟨by rfl, ?_⟩) (by assumption) ?_
              rotate_left
              · (intro w hSw; go_simp <;> with_reducible rfl)
              simp only [Act.put]
              refine takeD (i := 15) (d := some 58) (v := ?_) rfl rfl (by kernel_rfl) (by kernel_rfl) (by kernel_rfl) (fun _ _ _ h => h) (Or.inl ⟨by rfl, ?_⟩) (by assumption) ?_
              rotate_left
              · (intro w hSw; go_simp <;> with_reducible rfl)
              simp only [Act.put]
              refine wpAnyH_ready (rs := [16]) (by kernel_rfl) (by simp) ?_
              refine AllReadyH.cons rfl (fun K hK => ?_) AllReadyH.nil
              go_simp
              refine hK.out _ _ ?_ (fun hHeld => ?_)
              · exact ⟨by simp [go_sem, s18], by simp [go_sem, sP]⟩
              clear hK K
              try simp only [Act.put, List.setIfInBounds_toArray, List.set_cons_zero, List.set_cons_succ]
              refine wpAnyH_done (by kernel_rfl) ?_ _
              have R5 := World.ownsRow.kept RA hgrow (.inr hneR)
              have R6 : Tn base R (ds.set 19 (.slice (some ⟨g5, 0, none⟩) (rs.length + 1) c5)) _ := Tn.put R5 19 (.slice (some ⟨g5, 0, none⟩) (rs.length + 1) c5)
              have hne5 := Tn.ne R5 hown5
              have row5 := ownsRow_setCell_other hown5 (a := ⟨R, 19, none⟩) (Ne.symm hne5) (.slice (some ⟨g5, 0, none⟩) (rs.length + 1) c5)
              have B5 : Below base w w5 := (HBL.out.trans ((kb BX AL (Nat.le_refl _)).mono (Nat.le_trans hbs sb))).grown hgrow (Nat.le_trans bs3 AL.size) (fun j hj => (HI.out.row.lt j hj).1)
              have B6 := B5.setCell (p := ⟨R, 19, none⟩) hlt.1 (.slice (some ⟨g5, 0, none⟩) (rs.length + 1) c5)
              obtain ⟨w6, hw6⟩ : ∃ w6, w5.setCell ⟨R, 19, none⟩ (.slice (some ⟨g5, 0, none⟩) (rs.length + 1) c5) = w6 := ⟨_, rfl⟩
              rw [hw6] at R6 row5 B6 ⊢
              have c6 : w6.cell? ⟨R, 18, none⟩ = some (.string o) := (R6.cell 18 (by omega)).trans (by rw [List.getElem?_set_ne (by omega)]; exact HI.out.hold.opn)
              have f6 := R6.frozen 18
              clear hw6 hgrow hat hown5 y5 z5 s18 sP R5 RA B5
              go_wp2
              have R7 := R6.put 18 (.string ⟨#[]⟩)
              have b17 : ((ds.set 19 (.slice (some ⟨g5, 0, none⟩) (rs.length + 1) c5)).set 18 (.string ⟨#[]⟩))[17]? = some (.int .u8 ((bitsOf (x :: ys) : Nat) : Int)) := by rw [List.getElem?_set_ne (by omega), List.getElem?_set_ne (by omega)]; exact HI.out.hold.bits
              have n0 : ((ds.set 19 (.slice (some ⟨g5, 0, none⟩) (rs.length + 1) c5)).set 18 (.string ⟨#[]⟩))[0]? = some (.int .i64 (nx : Int)) := by rw [List.getElem?_set_ne (by omega), List.getElem?_set_ne (by omega)]; exact HI.out.hold.next
              have c0 := (R7.cell 0 (by omega)).trans n0
              go_region_with (go_at_call 43; refine (drop_in base R (bitsOf (x :: ys)) nx _ _ (Tn.keep R7 (Below.refl _ _).drew) (bitsOf_lt _) (by omega) b17).mono ?_; rintro e w7 ⟨⟨v7, rfl⟩, hr7, hg7⟩)
              have n7 : (((ds.set 19 (.slice (some ⟨g5, 0, none⟩) (rs.length + 1) c5)).set 18 (.string ⟨#[]⟩)).set 17 (.int .u8 ((offB (bitsOf (x :: ys)) (nx % 8) : Nat) : Int)))[0]? = some (.int .i64 (nx : Int)) := by rw [List.getElem?_set_ne (by omega)]; exact n0
              have c7 := (hr7.cell 0 (by omega)).trans n7
              have f7 := hr7.frozen 0
              go_wp2
              have row7 := World.ownsRow.drew (ownsRow_setCell_other row5 (a := ⟨R, 18, none⟩) (Ne.symm hne5) (.string ⟨#[]⟩))
              have row8 := ownsRow_setCell_other (row7.kept hg7 (.inr (Ne.symm hne5))) (a := ⟨R, 0, none⟩) (Ne.symm hne5) (.int .i64 ((nx : Int) + 1))
              have hJ := It5.done HI.out hx' hcan hlast _ _ (hr7.put 0 (.int .i64 ((nx : Int) + 1))) row8
              have B7 := (B6.setCell (p := ⟨R, 18, none⟩) hlt.1 (.string ⟨#[]⟩)).drew
              have B8 := (B7.grown hg7 (Nat.le_trans hbs B7.size) (fun j hj => by cases hj; exact hlt.1)).setCell (p := ⟨R, 0, none⟩) hlt.1 (.int .i64 ((nx : Int) + 1))
              refine ⟨⟨_, _, _, _, _, _, hJ, by rw [HT.out, hst.out], B8⟩, ?_⟩
              rw [hJ.nextOf, HI.out.nextOf]
              omega
          · go_simp
            refine hK.out _ _ ?_ (fun hHeld => ?_)
            · exact Below.alloc (by assumption) (by assumption : Below W0.heap.size W0 _).size _
            clear hK K
            try simp only [Act.put, List.setIfInBounds_toArray, List.set_cons_zero, List.set_cons_succ]
            have AD : Below W0.heap.size W0 (W0.alloc (.cells #[.string ⟨#[]⟩, .bool false] 35)).drew := by assumption
            refine wpAnyH_ready (rs := [7]) (by kernel_rfl) (by simp) ?_
            refine AllReadyH.cons rfl (fun K hK => ?_) AllReadyH.nil
            go_simp
            refine (HAT.out _ (RW0.out.keep (by assumption))).mono ?_
            rintro e w2 ⟨rfl, hb2⟩
            go_wp2_with fail
            have q0 := hb2.cell (p := ⟨W0.heap.size, 0, none⟩) (by simp)
            have q1 := hb2.cell (p := ⟨W0.heap.size, 1, none⟩) (by simp)
            have g0 := hb2.frozen (p := ⟨W0.heap.size, 0, none⟩) (by simp)
            have g1 := hb2.frozen (p := ⟨W0.heap.size, 1, none⟩) (by simp)
            simp [go_sem] at q0 q1 g0 g1
            refine hK.out _ _ ?_ (fun hHeld => ?_)
            · exact kb (by assumption) hb2 (Nat.le_refl _)
            clear hK K
            try simp only [Act.put, List.setIfInBounds_toArray, List.set_cons_zero, List.set_cons_succ]
            refine tkF 8 (some 4) ?_
            refine tkF 9 (some 13) ?_
            refine tkF 10 (some 14) ?_
            refine wpAnyH_ready (rs := [12]) (by kernel_rfl) (by simp) ?_
            refine AllReadyH.cons rfl (fun K hK => ?_) AllReadyH.nil
            go_simp
            refine hK.out _ _ ?_ (fun hHeld => ?_)
            · exact ((by assumption : Below W0.heap.size W0 w2).setCell (p := ⟨W0.heap.size, 0, none⟩) (Nat.le_refl _) _).setCell (p := ⟨W0.heap.size, 1, none⟩) (Nat.le_refl _) _
            clear hK K
            try simp only [Act.put, List.setIfInBounds_toArray, List.set_cons_zero, List.set_cons_succ]
            refine tkF 13 (some 3) ?_
            refine wpAnyH_done (by kernel_rfl) ?_ _
            obtain ⟨P, hP⟩ : ∃ P, P = W0.heap.size := ⟨_, rfl⟩
            obtain ⟨U, hU⟩ : ∃ U, U = (w2.setCell ⟨W0.heap.size, 0, none⟩ (.string x.text)).setCell ⟨W0.heap.size, 1, none⟩ (.bool true) := ⟨_, rfl⟩
            have P0 : U.cell? ⟨P, 0, none⟩ = some (.string x.text) := by rw [hU, hP]; simp [go_sem, q0]
            have P1 : U.cell? ⟨P, 1, none⟩ = some (.bool true) := by rw [hU, hP]; simp [go_sem, q1]
            have BU : Below W0.heap.size W0 U := by rw [hU]; assumption
            have hPB : W0.heap.size ≤ P := by omega
            rw [← hU]
            simp only [← hP]
            clear hP hU q0 q1 g0 g1 hb2 AD
            have T18 := cell_keep t18 BU
            have T19 := cell_keep t19 BU
            go_wp2
            refine wp_region_held_drew (S := (fun w' => Below U.heap.size U w')) (by kernel_rfl) ?_ (fun hHeld => ?_)
            · exact (Below.refl _ _).drew
            refine tkF 0 (some 25) ?_
            refine tkF 1 (some 26) ?_
            refine tkF 2 (some 27) ?_
            refine tkE 3 (some 28) ?_ ?_ ?_
            rotate_left
            · (intro w hSw; (have hP0 := cell_keep P0 hSw); (have hP1 := cell_keep P1 hSw); (have hT18 := cell_keep T18 hSw); (have hT19 := cell_keep T19 hSw); go_simp <;> with_reducible rfl)
            refine tkF 4 (some 29) ?_
            refine tkF 5 (some 30) ?_
            refine tkF 6 (some 31) ?_
            refine tkE 7 (some 32) ?_ ?_ ?_
            rotate_left
            · (intro w hSw; (have hP0 := cell_keep P0 hSw); (have hP1 := cell_keep P1 hSw); (have hT18 := cell_keep T18 hSw); (have hT19 := cell_keep T19 hSw); go_simp <;> with_reducible rfl)
            refine tkF 8 (some 33) ?_
            refine tkF 9 (some 34) ?_
            refine tkF 10 (some 35) ?_
            refine tkE 11 (some 36) ?_ ?_ ?_
            rotate_left
            · (intro w hSw; (have hP0 := cell_keep P0 hSw); (have hP1 := cell_keep P1 hSw); (have hT18 := cell_keep T18 hSw); (have hT19 := cell_keep T19 hSw); go_simp <;> with_reducible rfl)
            refine wpAnyH_ready (rs := [12]) (by kernel_rfl) (by simp) ?_
            refine AllReadyH.cons rfl (fun K hK => ?_) AllReadyH.nil
            go_simp
            refine (HCA.out _).mono ?_
            rintro e w3 ⟨rfl, hb3⟩
            go_wp2_with fail
            refine hK.out _ _ ?_ (fun hHeld => ?_)
            · exact kb (by assumption) hb3 (Nat.le_refl _)
            clear hK K
            try simp only [Act.put, List.setIfInBounds_toArray, List.set_cons_zero, List.set_cons_succ]
            refine tkF 13 (some 38) ?_
            refine tkF 14 (some 39) ?_
            refine tkF 15 (some 24) ?_
            refine wpAnyH_done (by kernel_rfl) ?_ _
            have BX : Below W0.heap.size W0 w3 := kb BU (by assumption) (Nat.le_refl _)
            have p0 := cell_keep P0 (by assumption : Below U.heap.size U w3)
            have p1 := cell_keep P1 (by assumption : Below U.heap.size U w3)
            have R3 := RW0.out.keep BX
            have c18 := cell_keep t18 BX
            have c19 := cell_keep t19 BX
            have row3 := owns_keep HI.out.row BX
            have hneR := Tn.ne R3 row3
            have hneP : some P ≠ (Value.slice ao rs.length cap).ownBlock := fun e => by have := (HI.out.row.lt P e.symm).2; omega
            have hcat : ¬ 9223372036854775807 < o.size + x.text.size := by omega
            have hRP : R ≠ P := by omega
            have hRP2 : P ≠ R := by omega
            have AL : Below w3.heap.size w3 (w3.alloc (.cells #[.string (o ++ x.text)] 9)).drew := ((Below.refl _ _).alloc (Nat.le_refl _) _).drew
            have bs3 : base ≤ w3.heap.size := Nat.le_trans hbs (Nat.le_trans sb BX.size)
            go_wp2
            refine wp_region_held_drew (S := (fun w' => w'.cell? ⟨R, 18, none⟩ = some (.string o) ∧ w'.cell? ⟨P, 0, none⟩ = some (.string x.text))) (by kernel_rfl) ?_ (fun hHeld => ?_)
            · exact ⟨c18, p0⟩
            refine tkF 0 (some 43) ?_
            refine tkF 1 (some 44) ?_
            refine tkF 2 (some 45) ?_
            refine tkF 3 (some 46) ?_
            refine tkF 5 (some 48) ?_
            refine tkF 6 (some 49) ?_
            refine tkF 7 (some 50) ?_
            refine tkE 8 (some 51) ?_ ?_ ?_
            rotate_left
            · (intro w hSw; (obtain ⟨hS1, hS2⟩ := hSw); go_simp <;> with_reducible rfl)
            refine tkF 9 (some 52) ?_
            refine tkE 10 (some 53) ?_ ?_ ?_
            rotate_left
            · (intro w hSw; (obtain ⟨hS1, hS2⟩ := hSw); go_simp <;> with_reducible rfl)
            refine tkF 11 (some 54) ?_
            refine wpAnyH_ready (rs := [4, 12]) (by kernel_rfl) (by simp) ?_
            refine AllReadyH.cons rfl (fun K hK => ?_) (AllReadyH.cons rfl (fun K hK => ?_) AllReadyH.nil)
            · go_simp
              refine hK.out _ _ ?_ (fun hHeld => ?_)
              · exact ⟨c18, p0⟩
              clear hK K
              try simp only [Act.put, List.setIfInBounds_toArray, List.set_cons_zero, List.set_cons_succ]
              refine wpAnyH_ready (rs := [12]) (by kernel_rfl) (by simp) ?_
              refine AllReadyH.cons rfl (fun K hK => ?_) AllReadyH.nil
              go_simp
              refine hK.out _ _ ?_ (fun hHeld => ?_)
              · exact ⟨cell_keep c18 AL, cell_keep p0 AL⟩
              clear hK K
              try simp only [Act.put, List.setIfInBounds_toArray, List.set_cons_zero, List.set_cons_succ]
              refine wpAnyH_ready (rs := [13]) (by kernel_rfl) (by simp) ?_
              refine AllReadyH.cons rfl (fun K hK => ?_) AllReadyH.nil
              refine step_append_lies _ rfl _ _ 23 rfl base 9 i0 (.string ⟨#[]⟩) 1 16 Try.underlying23 hi hz0 hz1 hz2 rfl (by decide) (.slice ao rs.length cap) rs.length (ss rs) rfl (owns_keep row3 AL) ⟨w3.heap.size, 0, none⟩ 1 1 [.string (o ++ x.text)] rfl rfl (one5 w3.drew (.string (o ++ x.text)) 9) (one6 _) (by omega) (by unfold maxLen; omega) (by omega) (Nat.le_trans bs3 AL.size) (w3.heap.size + 1) (by simp) ?_
              intro g5 c5 w5 hown5 hgrow hat hlt5
              have RA := R3.keep AL
              have y5 := far5 hgrow R 19 (cell_keep c19 AL) hneR
              have z5 := farF5 hgrow R 19 RA.lt.2 (RA.frozen 19) hneR
              have s18 := far5 hgrow R 18 (cell_keep c18 AL) hneR
              have sP := far5 hgrow P 0 (cell_keep p0 AL) hneP
              refine hK.out _ _ ?_ (fun hHeld => ?_)
              · exact ⟨s18, sP⟩
              clear hK K
              try simp only [Act.put, List.setIfInBounds_toArray]
              refine takeD (i := 14) (d := some 57) (v := ?_) rfl rfl (by kernel_rfl) (by kernel_rfl) (by kernel_rfl) (fun _ _ _ h => h) (Or.inl ⟨by rfl, ?_⟩) (by assumption) ?_
              rotate_left
              · (intro w hSw; go_simp <;> with_reducible rfl)
              simp only [Act.put]
              refine takeD (i := 15) (d := some 58) (v := ?_) rfl rfl (by kernel_rfl) (by kernel_rfl) (by kernel_rfl) (fun _ _ _ h => h) (Or.inl ⟨by rfl, ?_⟩) (by assumption) ?_
              rotate_left
              · (intro w hSw; go_simp <;> with_reducible rfl)
              simp only [Act.put]
              refine wpAnyH_ready (rs := [16]) (by kernel_rfl) (by simp) ?_
              refine AllReadyH.cons rfl (fun K hK => ?_) AllReadyH.nil
              go_simp
              refine hK.out _ _ ?_ (fun hHeld => ?_)
              · exact ⟨by simp [go_sem, s18], by simp [go_sem, sP]⟩
              clear hK K
              try simp only [Act.put, List.setIfInBounds_toArray, List.set_cons_zero, List.set_cons_succ]
              refine wpAnyH_done (by kernel_rfl) ?_ _
              have R5 := World.ownsRow.kept RA hgrow (.inr hneR)
              have R6 : Tn base R (ds.set 19 (.slice (some ⟨g5, 0, none⟩) (rs.length + 1) c5)) _ := Tn.put R5 19 (.slice (some ⟨g5, 0, none⟩) (rs.length + 1) c5)
              have hne5 := Tn.ne R5 hown5
              have row5 := ownsRow_setCell_other hown5 (a := ⟨R, 19, none⟩) (Ne.symm hne5) (.slice (some ⟨g5, 0, none⟩) (rs.length + 1) c5)
              have B5 : Below base w w5 := (HBL.out.trans ((kb BX AL (Nat.le_refl _)).mono (Nat.le_trans hbs sb))).grown hgrow (Nat.le_trans bs3 AL.size) (fun j hj => (HI.out.row.lt j hj).1)
              have B6 := B5.setCell (p := ⟨R, 19, none⟩) hlt.1 (.slice (some ⟨g5, 0, none⟩) (rs.length + 1) c5)
              obtain ⟨w6, hw6⟩ : ∃ w6, w5.setCell ⟨R, 19, none⟩ (.slice (some ⟨g5, 0, none⟩) (rs.length + 1) c5) = w6 := ⟨_, rfl⟩
              rw [hw6] at R6 row5 B6 ⊢
              have c6 : w6.cell? ⟨R, 18, none⟩ = some (.string o) := (R6.cell 18 (by omega)).trans (by rw [List.getElem?_set_ne (by omega)]; exact HI.out.hold.opn)
              have f6 := R6.frozen 18
              clear hw6 hgrow hat hown5 y5 z5 s18 sP R5 RA B5
              go_wp2
              have R7 := R6.put 18 (.string ⟨#[]⟩)
              have b17 : ((ds.set 19 (.slice (some ⟨g5, 0, none⟩) (rs.length + 1) c5)).set 18 (.string ⟨#[]⟩))[17]? = some (.int .u8 ((bitsOf (x :: ys) : Nat) : Int)) := by rw [List.getElem?_set_ne (by omega), List.getElem?_set_ne (by omega)]; exact HI.out.hold.bits
              have n0 : ((ds.set 19 (.slice (some ⟨g5, 0, none⟩) (rs.length + 1) c5)).set 18 (.string ⟨#[]⟩))[0]? = some (.int .i64 (nx : Int)) := by rw [List.getElem?_set_ne (by omega), List.getElem?_set_ne (by omega)]; exact HI.out.hold.next
              have c0 := (R7.cell 0 (by omega)).trans n0
              go_region_with (go_at_call 43; refine (drop_in base R (bitsOf (x :: ys)) nx _ _ (Tn.keep R7 (Below.refl _ _).drew) (bitsOf_lt _) (by omega) b17).mono ?_; rintro e w7 ⟨⟨v7, rfl⟩, hr7, hg7⟩)
              have n7 : (((ds.set 19 (.slice (some ⟨g5, 0, none⟩) (rs.length + 1) c5)).set 18 (.string ⟨#[]⟩)).set 17 (.int .u8 ((offB (bitsOf (x :: ys)) (nx % 8) : Nat) : Int)))[0]? = some (.int .i64 (nx : Int)) := by rw [List.getElem?_set_ne (by omega)]; exact n0
              have c7 := (hr7.cell 0 (by omega)).trans n7
              have f7 := hr7.frozen 0
              go_wp2
              have row7 := World.ownsRow.drew (ownsRow_setCell_other row5 (a := ⟨R, 18, none⟩) (Ne.symm hne5) (.string ⟨#[]⟩))
              have row8 := ownsRow_setCell_other (row7.kept hg7 (.inr (Ne.symm hne5))) (a := ⟨R, 0, none⟩) (Ne.symm hne5) (.int .i64 ((nx : Int) + 1))
              have hJ := It5.done HI.out hx' hcan hlast _ _ (hr7.put 0 (.int .i64 ((nx : Int) + 1))) row8
              have B7 := (B6.setCell (p := ⟨R, 18, none⟩) hlt.1 (.string ⟨#[]⟩)).drew
              have B8 := (B7.grown hg7 (Nat.le_trans hbs B7.size) (fun j hj => by cases hj; exact hlt.1)).setCell (p := ⟨R, 0, none⟩) hlt.1 (.int .i64 ((nx : Int) + 1))
              refine ⟨⟨_, _, _, _, _, _, hJ, by rw [HT.out, hst.out], B8⟩, ?_⟩
              rw [hJ.nextOf, HI.out.nextOf]
              omega
            · go_simp
              refine hK.out _ _ ?_ (fun hHeld => ?_)
              · exact ⟨cell_keep c18 AL, cell_keep p0 AL⟩
              clear hK K
              try simp only [Act.put, List.setIfInBounds_toArray, List.set_cons_zero, List.set_cons_succ]
              have c19a := cell_keep c19 AL
              refine wpAnyH_ready (rs := [4]) (by kernel_rfl) (by simp) ?_
              refine AllReadyH.cons rfl (fun K hK => ?_) AllReadyH.nil
              go_simp
              refine hK.out _ _ ?_ (fun hHeld => ?_)
              · exact ⟨cell_keep c18 AL, cell_keep p0 AL⟩
              clear hK K
              try simp only [Act.put, List.setIfInBounds_toArray, List.set_cons_zero, List.set_cons_succ]
              refine wpAnyH_ready (rs := [13]) (by kernel_rfl) (by simp) ?_
              refine AllReadyH.cons rfl (fun K hK => ?_) AllReadyH.nil
              refine step_append_lies _ rfl _ _ 23 rfl base 9 i0 (.string ⟨#[]⟩) 1 16 Try.underlying23 hi hz0 hz1 hz2 rfl (by decide) (.slice ao rs.length cap) rs.length (ss rs) rfl (owns_keep row3 AL) ⟨w3.heap.size, 0, none⟩ 1 1 [.string (o ++ x.text)] rfl rfl (one5 w3.drew (.string (o ++ x.text)) 9) (one6 _) (by omega) (by unfold maxLen; omega) (by omega) (Nat.le_trans bs3 AL.size) (w3.heap.size + 1) (by simp) ?_
              intro g5 c5 w5 hown5 hgrow hat hlt5
              have RA := R3.keep AL
              have y5 := far5 hgrow R 19 (cell_keep c19 AL) hneR
              have z5 := farF5 hgrow R 19 RA.lt.2 (RA.frozen 19) hneR
              have s18 := far5 hgrow R 18 (cell_keep c18 AL) hneR
              have sP := far5 hgrow P 0 (cell_keep p0 AL) hneP
              refine hK.out _ _ ?_ (fun hHeld => ?_)
              · exact ⟨s18, sP⟩
              clear hK K
              try simp only [Act.put, List.setIfInBounds_toArray]
              refine takeD (i := 14) (d := some 57) (v := ?_) rfl rfl (by kernel_rfl) (by kernel_rfl) (by kernel_rfl) (fun _ _ _ h => h) (Or.inl ⟨by rfl, ?_⟩) (by assumption) ?_
              rotate_left
              · (intro w hSw; go_simp <;> with_reducible rfl)
              simp only [Act.put]
              refine takeD (i := 15) (d := some 58) (v := ?_) rfl rfl (by kernel_rfl) (by kernel_rfl) (by kernel_rfl) (fun _ _ _ h => h) (Or.inl ⟨by rfl, ?_⟩) (by assumption) ?_
              rotate_left
              · (intro w hSw; go_simp <;> with_reducible rfl)
              simp only [Act.put]
              refine wpAnyH_ready (rs := [16]) (by kernel_rfl) (by simp) ?_
              refine AllReadyH.cons rfl (fun K hK => ?_) AllReadyH.nil
              go_simp
              refine hK.out _ _ ?_ (fun hHeld => ?_)
              · exact ⟨by simp [go_sem, s18], by simp [go_sem, sP]⟩
              clear hK K
              try simp only [Act.put, List.setIfInBounds_toArray, List.set_cons_zero, List.set_cons_succ]
              refine wpAnyH_done (by kernel_rfl) ?_ _
              have R5 := World.ownsRow.kept RA hgrow (.inr hneR)
              have R6 : Tn base R (ds.set 19 (.slice (some ⟨g5, 0, none⟩) (rs.length + 1) c5)) _ := Tn.put R5 19 (.slice (some ⟨g5, 0, none⟩) (rs.length + 1) c5)
              have hne5 := Tn.ne R5 hown5
              have row5 := ownsRow_setCell_other hown5 (a := ⟨R, 19, none⟩) (Ne.symm hne5) (.slice (some ⟨g5, 0, none⟩) (rs.length + 1) c5)
              have B5 : Below base w w5 := (HBL.out.trans ((kb BX AL (Nat.le_refl _)).mono (Nat.le_trans hbs sb))).grown hgrow (Nat.le_trans bs3 AL.size) (fun j hj => (HI.out.row.lt j hj).1)
              have B6 := B5.setCell (p := ⟨R, 19, none⟩) hlt.1 (.slice (some ⟨g5, 0, none⟩) (rs.length + 1) c5)
              obtain ⟨w6, hw6⟩ : ∃ w6, w5.setCell ⟨R, 19, none⟩ (.slice (some ⟨g5, 0, none⟩) (rs.length + 1) c5) = w6 := ⟨_, rfl⟩
              rw [hw6] at R6 row5 B6 ⊢
              have c6 : w6.cell? ⟨R, 18, none⟩ = some (.string o) := (R6.cell 18 (by omega)).trans (by rw [List.getElem?_set_ne (by omega)]; exact HI.out.hold.opn)
              have f6 := R6.frozen 18
              clear hw6 hgrow hat hown5 y5 z5 s18 sP R5 RA B5
              go_wp2
              have R7 := R6.put 18 (.string ⟨#[]⟩)
              have b17 : ((ds.set 19 (.slice (some ⟨g5, 0, none⟩) (rs.length + 1) c5)).set 18 (.string ⟨#[]⟩))[17]? = some (.int .u8 ((bitsOf (x :: ys) : Nat) : Int)) := by rw [List.getElem?_set_ne (by omega), List.getElem?_set_ne (by omega)]; exact HI.out.hold.bits
              have n0 : ((ds.set 19 (.slice (some ⟨g5, 0, none⟩) (rs.length + 1) c5)).set 18 (.string ⟨#[]⟩))[0]? = some (.int .i64 (nx : Int)) := by rw [List.getElem?_set_ne (by omega), List.getElem?_set_ne (by omega)]; exact HI.out.hold.next
              have c0 := (R7.cell 0 (by omega)).trans n0
              go_region_with (go_at_call 43; refine (drop_in base R (bitsOf (x :: ys)) nx _ _ (Tn.keep R7 (Below.refl _ _).drew) (bitsOf_lt _) (by omega) b17).mono ?_; rintro e w7 ⟨⟨v7, rfl⟩, hr7, hg7⟩)
              have n7 : (((ds.set 19 (.slice (some ⟨g5, 0, none⟩) (rs.length + 1) c5)).set 18 (.string ⟨#[]⟩)).set 17 (.int .u8 ((offB (bitsOf (x :: ys)) (nx % 8) : Nat) : Int)))[0]? = some (.int .i64 (nx : Int)) := by rw [List.getElem?_set_ne (by omega)]; exact n0
              have c7 := (hr7.cell 0 (by omega)).trans n7
              have f7 := hr7.frozen 0
              go_wp2
              have row7 := World.ownsRow.drew (ownsRow_setCell_other row5 (a := ⟨R, 18, none⟩) (Ne.symm hne5) (.string ⟨#[]⟩))
              have row8 := ownsRow_setCell_other (row7.kept hg7 (.inr (Ne.symm hne5))) (a := ⟨R, 0, none⟩) (Ne.symm hne5) (.int .i64 ((nx : Int) + 1))
              have hJ := It5.done HI.out hx' hcan hlast _ _ (hr7.put 0 (.int .i64 ((nx : Int) + 1))) row8
              have B7 := (B6.setCell (p := ⟨R, 18, none⟩) hlt.1 (.string ⟨#[]⟩)).drew
              have B8 := (B7.grown hg7 (Nat.le_trans hbs B7.size) (fun j hj => by cases hj; exact hlt.1)).setCell (p := ⟨R, 0, none⟩) hlt.1 (.int .i64 ((nx : Int) + 1))
              refine ⟨⟨_, _, _, _, _, _, hJ, by rw [HT.out, hst.out], B8⟩, ?_⟩
              rw [hJ.nextOf, HI.out.nextOf]
              omega
      · have dc : decide (CanIn o rs.length x.text x.last) = false := decide_eq_false hcan
        rw [dc] at HCA
        clear dc
        have hst : Hid (tin (x :: ys) nx o rs = (nx, x :: ys, o, rs)) := tin_stop (fun h0 e => hcan (by simpa using e.2))
        generalize x.last = xl at *
        go_wp2
        refine wp_region_held_drew (S := (fun w' => Below W0.heap.size W0 w')) (by kernel_rfl) ?_ (fun hHeld => ?_)
        · exact (Below.refl _ _).drew
        refine tkF 0 (some 5) ?_
        refine tkF 1 (some 6) ?_
        refine tkF 2 (some 7) ?_
        refine tkF 3 (some 8) ?_
        refine tkF 4 (some 9) ?_
        refine tkF 5 (some 10) ?_
        refine tkE 6 (some 11) ?_ ?_ ?_
        rotate_left
        · (intro w hSw; (have hT0 := cell_keep T0 hSw); go_simp <;> with_reducible rfl)
        refine wpAnyH_ready (rs := [7, 11]) (by kernel_rfl) (by simp) ?_
        refine AllReadyH.cons rfl (fun K hK => ?_) (AllReadyH.cons rfl (fun K hK => ?_) AllReadyH.nil)
        · go_simp
          refine (HAT.out _ (RW0.out.keep (by assumption))).mono ?_
          rintro e w2 ⟨rfl, hb2⟩
          go_wp2_with fail
          refine hK.out _ _ ?_ (fun hHeld => ?_)
          · exact kb (by assumption) hb2 (Nat.le_refl _)
          clear hK K
          try simp only [Act.put, List.setIfInBounds_toArray, List.set_cons_zero, List.set_cons_succ]
          refine tkF 8 (some 4) ?_
          refine tkF 9 (some 13) ?_
          refine tkF 10 (some 14) ?_
          refine wpAnyH_ready (rs := [11]) (by kernel_rfl) (by simp) ?_
          refine AllReadyH.cons rfl (fun K hK => ?_) AllReadyH.nil
          go_simp
          refine hK.out _ _ ?_ (fun hHeld => ?_)
          · exact Below.alloc (by assumption) (by assumption : Below W0.heap.size W0 _).size _
          clear hK K
          try simp only [Act.put, List.setIfInBounds_toArray, List.set_cons_zero, List.set_cons_succ]
          refine wpAnyH_ready (rs := [12]) (by kernel_rfl) (by simp) ?_
          refine AllReadyH.cons rfl (fun K hK => ?_) AllReadyH.nil
          go_simp
          refine hK.out _ _ ?_ (fun hHeld => ?_)
          · exact Below.alloc (by assumption) (by assumption : Below W0.heap.size W0 _).size _
          clear hK K
          try simp only [Act.put, List.setIfInBounds_toArray, List.set_cons_zero, List.set_cons_succ]
          refine tkF 13 (some 3) ?_
          refine wpAnyH_done (by kernel_rfl) ?_ _
          obtain ⟨P, hP⟩ : ∃ P, P = w2.heap.size := ⟨_, rfl⟩
          obtain ⟨U, hU⟩ : ∃ U, U = w2.alloc (.cells #[.string x.text, .bool xl] 35) := ⟨_, rfl⟩
          have P0 : U.cell? ⟨P, 0, none⟩ = some (.string x.text) := by rw [hU, hP]; simp [go_sem]
          have P1 : U.cell? ⟨P, 1, none⟩ = some (.bool xl) := by rw [hU, hP]; simp [go_sem]
          have BU : Below W0.heap.size W0 U := by rw [hU]; assumption
          have hPB : W0.heap.size ≤ P := by rw [hP]; exact hb2.size
          rw [← hU, ← hP]
          clear hU hP hb2
          have T18 := cell_keep t18 BU
          have T19 := cell_keep t19 BU
          go_wp2
          refine wp_region_held_drew (S := (fun w' => Below U.heap.size U w')) (by kernel_rfl) ?_ (fun hHeld => ?_)
          · exact (Below.refl _ _).drew
          refine tkF 0 (some 25) ?_
          refine tkF 1 (some 26) ?_
          refine tkF 2 (some 27) ?_
          refine tkE 3 (some 28) ?_ ?_ ?_
          rotate_left
          · (intro w hSw; (have hP0 := cell_keep P0 hSw); (have hP1 := cell_keep P1 hSw); (have hT18 := cell_keep T18 hSw); (have hT19 := cell_keep T19 hSw); go_simp <;> with_reducible rfl)
          refine tkF 4 (some 29) ?_
          refine tkF 5 (some 30) ?_
          refine tkF 6 (some 31) ?_
          refine tkE 7 (some 32) ?_ ?_ ?_
          rotate_left
          · (intro w hSw; (have hP0 := cell_keep P0 hSw); (have hP1 := cell_keep P1 hSw); (have hT18 := cell_keep T18 hSw); (have hT19 := cell_keep T19 hSw); go_simp <;> with_reducible rfl)
          refine tkF 8 (some 33) ?_
          refine tkF 9 (some 34) ?_
          refine tkF 10 (some 35) ?_
          refine tkE 11 (some 36) ?_ ?_ ?_
          rotate_left
          · (intro w hSw; (have hP0 := cell_keep P0 hSw); (have hP1 := cell_keep P1 hSw); (have hT18 := cell_keep T18 hSw); (have hT19 := cell_keep T19 hSw); go_simp <;> with_reducible rfl)
          refine wpAnyH_ready (rs := [12]) (by kernel_rfl) (by simp) ?_
          refine AllReadyH.cons rfl (fun K hK => ?_) AllReadyH.nil
          go_simp
          refine (HCA.out _).mono ?_
          rintro e w3 ⟨rfl, hb3⟩
          go_wp2_with fail
          refine hK.out _ _ ?_ (fun hHeld => ?_)
          · exact kb (by assumption) hb3 (Nat.le_refl _)
          clear hK K
          try simp only [Act.put, List.setIfInBounds_toArray, List.set_cons_zero, List.set_cons_succ]
          refine tkF 13 (some 38) ?_
          refine tkF 14 (some 39) ?_
          refine tkF 15 (some 24) ?_
          refine wpAnyH_done (by kernel_rfl) ?_ _
          go_wp2
          rw [Exit.noGoto_normal]
          go_end0
          have BX : Below W0.heap.size W0 w3 := kb BU (by assumption) (Nat.le_refl _)
          rw [HT.out, hst.out]
          exact ⟨⟨_, ds, _, rfl, It5.keep HI.out BX⟩, HBL.out.trans (BX.mono (Nat.le_trans hbs sb))⟩
        · go_simp
          refine hK.out _ _ ?_ (fun hHeld => ?_)
          · exact Below.alloc (by assumption) (by assumption : Below W0.heap.size W0 _).size _
          clear hK K
          try simp only [Act.put, List.setIfInBounds_toArray, List.set_cons_zero, List.set_cons_succ]
          have AD : Below W0.heap.size W0 (W0.alloc (.cells #[.string ⟨#[]⟩, .bool false] 35)).drew := by assumption
          refine wpAnyH_ready (rs := [7]) (by kernel_rfl) (by simp) ?_
          refine AllReadyH.cons rfl (fun K hK => ?_) AllReadyH.nil
          go_simp
          refine (HAT.out _ (RW0.out.keep (by assumption))).mono ?_
          rintro e w2 ⟨rfl, hb2⟩
          go_wp2_with fail
          have q0 := hb2.cell (p := ⟨W0.heap.size, 0, none⟩) (by simp)
          have q1 := hb2.cell (p := ⟨W0.heap.size, 1, none⟩) (by simp)
          have g0 := hb2.frozen (p := ⟨W0.heap.size, 0, none⟩) (by simp)
          have g1 := hb2.frozen (p := ⟨W0.heap.size, 1, none⟩) (by simp)
          simp [go_sem] at q0 q1 g0 g1
          refine hK.out _ _ ?_ (fun hHeld => ?_)
          · exact kb (by assumption) hb2 (Nat.le_refl _)
          clear hK K
          try simp only [Act.put, List.setIfInBounds_toArray, List.set_cons_zero, List.set_cons_succ]
          refine tkF 8 (some 4) ?_
          refine tkF 9 (some 13) ?_
          refine tkF 10 (some 14) ?_
          refine wpAnyH_ready (rs := [12]) (by kernel_rfl) (by simp) ?_
          refine AllReadyH.cons rfl (fun K hK => ?_) AllReadyH.nil
          go_simp
          refine hK.out _ _ ?_ (fun hHeld => ?_)
          · exact ((by assumption : Below W0.heap.size W0 w2).setCell (p := ⟨W0.heap.size, 0, none⟩) (Nat.le_refl _) _).setCell (p := ⟨W0.heap.size, 1, none⟩) (Nat.le_refl _) _
          clear hK K
          try simp only [Act.put, List.setIfInBounds_toArray, List.set_cons_zero, List.set_cons_succ]
          refine tkF 13 (some 3) ?_
          refine wpAnyH_done (by kernel_rfl) ?_ _
          obtain ⟨P, hP⟩ : ∃ P, P = W0.heap.size := ⟨_, rfl⟩
          obtain ⟨U, hU⟩ : ∃ U, U = (w2.setCell ⟨W0.heap.size, 0, none⟩ (.string x.text)).setCell ⟨W0.heap.size, 1, none⟩ (.bool xl) := ⟨_, rfl⟩
          have P0 : U.cell? ⟨P, 0, none⟩ = some (.string x.text) := by rw [hU, hP]; simp [go_sem, q0]
          have P1 : U.cell? ⟨P, 1, none⟩ = some (.bool xl) := by rw [hU, hP]; simp [go_sem, q1]
          have BU : Below W0.heap.size W0 U := by rw [hU]; assumption
          have hPB : W0.heap.size ≤ P := by omega
          rw [← hU]
          simp only [← hP]
          clear hP hU q0 q1 g0 g1 hb2 AD
          have T18 := cell_keep t18 BU
          have T19 := cell_keep t19 BU
          go_wp2
          refine wp_region_held_drew (S := (fun w' => Below U.heap.size U w')) (by kernel_rfl) ?_ (fun hHeld => ?_)
          · exact (Below.refl _ _).drew
          refine tkF 0 (some 25) ?_
          refine tkF 1 (some 26) ?_
          refine tkF 2 (some 27) ?_
          refine tkE 3 (some 28) ?_ ?_ ?_
          rotate_left
          · (intro w hSw; (have hP0 := cell_keep P0 hSw); (have hP1 := cell_keep P1 hSw); (have hT18 := cell_keep T18 hSw); (have hT19 := cell_keep T19 hSw); go_simp <;> with_reducible rfl)
          refine tkF 4 (some 29) ?_
          refine tkF 5 (some 30) ?_
          refine tkF 6 (some 31) ?_
          refine tkE 7 (some 32) ?_ ?_ ?_
          rotate_left
          · (intro w hSw; (have hP0 := cell_keep P0 hSw); (have hP1 := cell_keep P1 hSw); (have hT18 := cell_keep T18 hSw); (have hT19 := cell_keep T19 hSw); go_simp <;> with_reducible rfl)
          refine tkF 8 (some 33) ?_
          refine tkF 9 (some 34) ?_
          refine tkF 10 (some 35) ?_
          refine tkE 11 (some 36) ?_ ?_ ?_
          rotate_left
          · (intro w hSw; (have hP0 := cell_keep P0 hSw); (have hP1 := cell_keep P1 hSw); (have hT18 := cell_keep T18 hSw); (have hT19 := cell_keep T19 hSw); go_simp <;> with_reducible rfl)
          refine wpAnyH_ready (rs := [12]) (by kernel_rfl) (by simp) ?_
          refine AllReadyH.cons rfl (fun K hK => ?_) AllReadyH.nil
          go_simp
          refine (HCA.out _).mono ?_
          rintro e w3 ⟨rfl, hb3⟩
          go_wp2_with fail
          refine hK.out _ _ ?_ (fun hHeld => ?_)
          · exact kb (by assumption) hb3 (Nat.le_refl _)
          clear hK K
          try simp only [Act.put, List.setIfInBounds_toArray, List.set_cons_zero, List.set_cons_succ]
          refine tkF 13 (some 38) ?_
          refine tkF 14 (some 39) ?_
          refine tkF 15 (some 24) ?_
          refine wpAnyH_done (by kernel_rfl) ?_ _
          go_wp2
          rw [Exit.noGoto_normal]
          go_end0
          have BX : Below W0.heap.size W0 w3 := kb BU (by assumption) (Nat.le_refl _)
          rw [HT.out, hst.out]
          exact ⟨⟨_, ds, _, rfl, It5.keep HI.out BX⟩, HBL.out.trans (BX.mono (Nat.le_trans hbs sb))⟩
    · have hno : inB (bitsOf xs) (nx % 8) = false := head_no hI.win (fun h0 e => hin ⟨h0, e⟩)
      have hst : Hid (tin xs nx o rs = (nx, xs, o, rs)) := tin_stop (fun h0 e => hin ⟨h0, e.1⟩)
      obtain ⟨s0, l0, hs0, hl0⟩ := hI.hold.ty (nx % 8) (by omega)
      have HAT : Hid (∀ u : World, Tn base R ds u → Calls Try.prog 40 #[.pointer (some ⟨R, 1, none⟩), .int .i64 (nx : Int)] u fun e w' => e = .returned (.tuple #[.agg #[.string s0, .bool l0], .bool false]) ∧ Below u.heap.size u w') := fun u h => by have := at_in base R (bitsOf xs) nx ds s0 l0 u h (bitsOf_lt _) (by omega) hI.hold.bits hs0 hl0; rw [hno] at this; exact this
      clear hno hin hs0 hl0 hI hT hbel
      go_wp2
      refine wp_region_held_drew (S := (fun w' => Below W0.heap.size W0 w')) (by kernel_rfl) ?_ (fun hHeld => ?_)
      · exact (Below.refl _ _).drew
      refine tkF 0 (some 5) ?_
      refine tkF 1 (some 6) ?_
      refine tkF 2 (some 7) ?_
      refine tkF 3 (some 8) ?_
      refine tkF 4 (some 9) ?_
      refine tkF 5 (some 10) ?_
      refine tkE 6 (some 11) ?_ ?_ ?_
      rotate_left
      · (intro w hSw; (have hT0 := cell_keep T0 hSw); go_simp <;> with_reducible rfl)
      refine wpAnyH_ready (rs := [7, 11]) (by kernel_rfl) (by simp) ?_
      refine AllReadyH.cons rfl (fun K hK => ?_) (AllReadyH.cons rfl (fun K hK => ?_) AllReadyH.nil)
      · go_simp
        refine (HAT.out _ (RW0.out.keep (by assumption))).mono ?_
        rintro e w2 ⟨rfl, hb2⟩
        go_wp2_with fail
        refine hK.out _ _ ?_ (fun hHeld => ?_)
        · exact kb (by assumption) hb2 (Nat.le_refl _)
        clear hK K
        try simp only [Act.put, List.setIfInBounds_toArray, List.set_cons_zero, List.set_cons_succ]
        refine tkF 8 (some 4) ?_
        refine tkF 9 (some 13) ?_
        refine tkF 10 (some 14) ?_
        refine wpAnyH_ready (rs := [11]) (by kernel_rfl) (by simp) ?_
        refine AllReadyH.cons rfl (fun K hK => ?_) AllReadyH.nil
        go_simp
        refine hK.out _ _ ?_ (fun hHeld => ?_)
        · exact Below.alloc (by assumption) (by assumption : Below W0.heap.size W0 _).size _
        clear hK K
        try simp only [Act.put, List.setIfInBounds_toArray, List.set_cons_zero, List.set_cons_succ]
        refine wpAnyH_ready (rs := [12]) (by kernel_rfl) (by simp) ?_
        refine AllReadyH.cons rfl (fun K hK => ?_) AllReadyH.nil
        go_simp
        refine hK.out _ _ ?_ (fun hHeld => ?_)
        · exact Below.alloc (by assumption) (by assumption : Below W0.heap.size W0 _).size _
        clear hK K
        try simp only [Act.put, List.setIfInBounds_toArray, List.set_cons_zero, List.set_cons_succ]
        refine tkF 13 (some 3) ?_
        refine wpAnyH_done (by kernel_rfl) ?_ _
        obtain ⟨P, hP⟩ : ∃ P, P = w2.heap.size := ⟨_, rfl⟩
        obtain ⟨U, hU⟩ : ∃ U, U = w2.alloc (.cells #[.string s0, .bool l0] 35) := ⟨_, rfl⟩
        have P0 : U.cell? ⟨P, 0, none⟩ = some (.string s0) := by rw [hU, hP]; simp [go_sem]
        have P1 : U.cell? ⟨P, 1, none⟩ = some (.bool l0) := by rw [hU, hP]; simp [go_sem]
        have BU : Below W0.heap.size W0 U := by rw [hU]; assumption
        have hPB : W0.heap.size ≤ P := by rw [hP]; exact hb2.size
        rw [← hU, ← hP]
        clear hU hP hb2
        go_wp2
        refine wp_region_held_drew (S := (fun w' => Below U.heap.size U w')) (by kernel_rfl) ?_ (fun hHeld => ?_)
        · exact (Below.refl _ _).drew
        refine tkF 0 (some 25) ?_
        refine tkF 1 (some 26) ?_
        refine tkF 2 (some 27) ?_
        refine tkS 3 (some 28) ?_
        refine tkS 4 (some 29) ?_
        refine tkS 5 (some 30) ?_
        refine tkS 6 (some 31) ?_
        refine tkS 7 (some 32) ?_
        refine tkS 8 (some 33) ?_
        refine tkS 9 (some 34) ?_
        refine tkS 10 (some 35) ?_
        refine tkS 11 (some 36) ?_
        refine tkS 12 (some 37) ?_
        refine tkS 13 (some 38) ?_
        refine tkF 14 (some 39) ?_
        refine tkF 15 (some 24) ?_
        refine wpAnyH_done (by kernel_rfl) ?_ _
        go_wp2
        rw [Exit.noGoto_normal]
        go_end0
        have hJ : It5 base R nx xs o rs ds v U.drew := It5.keep HI.out BU.drew
        rw [HT.out, hst.out]
        exact ⟨⟨_, ds, v, rfl, hJ⟩, HBL.out.trans (BU.drew.mono (Nat.le_trans hbs sb))⟩
      · go_simp
        refine hK.out _ _ ?_ (fun hHeld => ?_)
        · exact Below.alloc (by assumption) (by assumption : Below W0.heap.size W0 _).size _
        clear hK K
        try simp only [Act.put, List.setIfInBounds_toArray, List.set_cons_zero, List.set_cons_succ]
        have AD : Below W0.heap.size W0 (W0.alloc (.cells #[.string ⟨#[]⟩, .bool false] 35)).drew := by assumption
        refine wpAnyH_ready (rs := [7]) (by kernel_rfl) (by simp) ?_
        refine AllReadyH.cons rfl (fun K hK => ?_) AllReadyH.nil
        go_simp
        refine (HAT.out _ (RW0.out.keep (by assumption))).mono ?_
        rintro e w2 ⟨rfl, hb2⟩
        go_wp2_with fail
        have q0 := hb2.cell (p := ⟨W0.heap.size, 0, none⟩) (by simp)
        have q1 := hb2.cell (p := ⟨W0.heap.size, 1, none⟩) (by simp)
        have g0 := hb2.frozen (p := ⟨W0.heap.size, 0, none⟩) (by simp)
        have g1 := hb2.frozen (p := ⟨W0.heap.size, 1, none⟩) (by simp)
        simp [go_sem] at q0 q1 g0 g1
        refine hK.out _ _ ?_ (fun hHeld => ?_)
        · exact kb (by assumption) hb2 (Nat.le_refl _)
        clear hK K
        try simp only [Act.put, List.setIfInBounds_toArray, List.set_cons_zero, List.set_cons_succ]
        refine tkF 8 (some 4) ?_
        refine tkF 9 (some 13) ?_
        refine tkF 10 (some 14) ?_
        refine wpAnyH_ready (rs := [12]) (by kernel_rfl) (by simp) ?_
        refine AllReadyH.cons rfl (fun K hK => ?_) AllReadyH.nil
        go_simp
        refine hK.out _ _ ?_ (fun hHeld => ?_)
        · exact ((by assumption : Below W0.heap.size W0 w2).setCell (p := ⟨W0.heap.size, 0, none⟩) (Nat.le_refl _) _).setCell (p := ⟨W0.heap.size, 1, none⟩) (Nat.le_refl _) _
        clear hK K
        try simp only [Act.put, List.setIfInBounds_toArray, List.set_cons_zero, List.set_cons_succ]
        refine tkF 13 (some 3) ?_
        refine wpAnyH_done (by kernel_rfl) ?_ _
        obtain ⟨P, hP⟩ : ∃ P, P = W0.heap.size := ⟨_, rfl⟩
        obtain ⟨U, hU⟩ : ∃ U, U = (w2.setCell ⟨W0.heap.size, 0, none⟩ (.string s0)).setCell ⟨W0.heap.size, 1, none⟩ (.bool l0) := ⟨_, rfl⟩
        have P0 : U.cell? ⟨P, 0, none⟩ = some (.string s0) := by rw [hU, hP]; simp [go_sem, q0]
        have P1 : U.cell? ⟨P, 1, none⟩ = some (.bool l0) := by rw [hU, hP]; simp [go_sem, q1]
        have BU : Below W0.heap.size W0 U := by rw [hU]; assumption
        have hPB : W0.heap.size ≤ P := by omega
        rw [← hU]
        simp only [← hP]
        clear hP hU q0 q1 g0 g1 hb2 AD
        go_wp2
        refine wp_region_held_drew (S := (fun w' => Below U.heap.size U w')) (by kernel_rfl) ?_ (fun hHeld => ?_)
        · exact (Below.refl _ _).drew
        refine tkF 0 (some 25) ?_
        refine tkF 1 (some 26) ?_
        refine tkF 2 (some 27) ?_
        refine tkS 3 (some 28) ?_
        refine tkS 4 (some 29) ?_
        refine tkS 5 (some 30) ?_
        refine tkS 6 (some 31) ?_
        refine tkS 7 (some 32) ?_
        refine tkS 8 (some 33) ?_
        refine tkS 9 (some 34) ?_
        refine tkS 10 (some 35) ?_
        refine tkS 11 (some 36) ?_
        refine tkS 12 (some 37) ?_
        refine tkS 13 (some 38) ?_
        refine tkF 14 (some 39) ?_
        refine tkF 15 (some 24) ?_
        refine wpAnyH_done (by kernel_rfl) ?_ _
        go_wp2
        rw [Exit.noGoto_normal]
        go_end0
        have hJ : It5 base R nx xs o rs ds v U.drew := It5.keep HI.out BU.drew
        rw [HT.out, hst.out]
        exact ⟨⟨_, ds, v, rfl, hJ⟩, HBL.out.trans (BU.drew.mono (Nat.le_trans hbs sb))⟩
end Go.Proofs.Yteceaadmgpjmcab.mk

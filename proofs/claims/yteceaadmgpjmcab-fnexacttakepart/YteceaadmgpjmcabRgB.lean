/-
  THE INTAKE holds a part.
-/
import Derived.Test.YteceaadmgpjmcabRgA
import Derived.Test.YteceaadmgpjmcabVTkA
import Derived.Test.YteceaadmgpjmcabCloneW
namespace Go.Proofs.Yteceaadmgpjmcab.mk
open Go.RowKit
set_option linter.unusedVariables false

/-- the ring's places hold parts -/
def Ty (cs : List Value) : Prop := ∀ j, j < 8 → ∃ s l, cs[1 + j * 2]? = some (.string s) ∧ cs[1 + j * 2 + 1]? = some (.bool l)
/-- part q is put -/
def putq (cs : List Value) (B q : Nat) (s : ByteArray) (l : Bool) : List Value := ((cs.set (1 + q % 8 * 2) (.string s)).set (1 + q % 8 * 2 + 1) (.bool l)).set 17 (.int .u8 ((orB B (q % 8) : Nat) : Int))
theorem putq_length (cs : List Value) (B q : Nat) (s : ByteArray) (l : Bool) : (putq cs B q s l).length = cs.length := by simp [putq]
theorem putq_bits {cs : List Value} (h : cs.length = 20) (B q : Nat) (s : ByteArray) (l : Bool) : (putq cs B q s l)[17]? = some (.int .u8 ((orB B (q % 8) : Nat) : Int)) := by
  unfold putq; rw [List.getElem?_set_self (by simp; omega)]
theorem putq_other {cs : List Value} (B q : Nat) (s : ByteArray) (l : Bool) (j : Nat) (h1 : j ≠ 17) (h2 : j ≠ 1 + q % 8 * 2) (h3 : j ≠ 1 + q % 8 * 2 + 1) : (putq cs B q s l)[j]? = cs[j]? := by
  unfold putq
  rw [List.getElem?_set_ne (by omega), List.getElem?_set_ne (by omega), List.getElem?_set_ne (by omega)]
theorem putq_at {cs : List Value} (h : cs.length = 20) (B q : Nat) (s : ByteArray) (l : Bool) : (putq cs B q s l)[1 + q % 8 * 2]? = some (.string s) ∧ (putq cs B q s l)[1 + q % 8 * 2 + 1]? = some (.bool l) := by
  unfold putq
  refine ⟨?_, ?_⟩
  · rw [List.getElem?_set_ne (by omega), List.getElem?_set_ne (by omega), List.getElem?_set_self (by omega)]
  · rw [List.getElem?_set_ne (by omega), List.getElem?_set_self (by simp; omega)]
theorem Ty.putq {cs : List Value} (h : Ty cs) (hl : cs.length = 20) (B q : Nat) (s : ByteArray) (l : Bool) : Ty (putq cs B q s l) := by
  intro j hj
  by_cases e : j = q % 8
  · subst e
    exact ⟨s, l, putq_at hl B q s l⟩
  · obtain ⟨s', l', h1, h2⟩ := h j hj
    exact ⟨s', l', by rw [putq_other B q s l _ (by omega) (by omega) (by omega), h1], by rw [putq_other B q s l _ (by omega) (by omega) (by omega), h2]⟩
set_option maxHeartbeats 2000000 in
theorem hold_yes (base R B q : Nat) (nx : Int) (cs : List Value) (s : ByteArray) (l : Bool) (w : World) (hr : Tn base R cs w) (hB : B < 256) (hn0 : cs[0]? = some (.int .i64 nx)) (hb : cs[17]? = some (.int .u8 (B : Int))) (hty : Ty cs) (h0 : 0 ≤ nx) (h1 : nx ≤ 1000000) (hq1 : nx ≤ (q : Int)) (hq2 : (q : Int) < nx + 8) (hq3 : (q : Int) < 1000000) (hs : s.size ≤ 20) (hin : inB B (q % 8) = false) :
    Calls Try.prog 23 #[.pointer (some ⟨R, 0, none⟩), .int .i64 q, .agg #[.string s, .bool l]] w fun x w' => (∃ v, x = .returned v) ∧ Tn base R (putq cs B q s l) w' ∧ w.grownBy w' (some R) := by
  have hlt := hr.lt
  have c0 := (hr.cell 0 (by omega)).trans hn0
  obtain ⟨s0, l0, hs0, hl0⟩ := hty (q % 8) (by omega)
  have HLS : Hid (∀ u : World, Calls Try.prog 39 #[.int .i64 nx] u fun e w' => e = .returned (.int .i64 (min (nx + 8) 1000000 - 1)) ∧ u = w') := fun u => lastSeq_any nx u h0 h1
  obtain ⟨LS, hLS⟩ : ∃ LS : Int, LS = min (nx + 8) 1000000 - 1 := ⟨_, rfl⟩
  rw [← hLS] at HLS
  have HWI : Hid (∀ u : World, Calls Try.prog 36 #[.int .i64 (q : Int), .int .i64 nx, .int .i64 LS] u fun e w' => e = .returned (.bool true) ∧ u = w') := fun u => within_true _ _ _ u hq1 (by omega)
  have HAT : Hid (∀ u : World, Tn base R cs u → Calls Try.prog 40 #[.pointer (some ⟨R, 1, none⟩), .int .i64 q] u fun e w' => e = .returned (.tuple #[.agg #[.string s0, .bool l0], .bool false]) ∧ Below u.heap.size u w') := fun u h => by have := at_in base R B q cs s0 l0 u h hB (by omega) hb hs0 hl0; rw [hin] at this; exact this
  have HPU : Hid (∀ u : World, Tn base R cs u → Calls Try.prog 41 #[.pointer (some ⟨R, 1, none⟩), .int .i64 q, .agg #[.string s, .bool l]] u fun x w' => (∃ v, x = .returned v) ∧ Tn base R (putq cs B q s l) w' ∧ u.grownBy w' (some R)) := fun u h => put_in base R B q cs s l u h hB (by omega) hb
  have HCL : Hid (∀ u : World, Calls Try.prog 38 #[.string s] u fun e w' => e = .returned (.string s) ∧ Below u.heap.size u w') := fun u => clone_any s u (by omega)
  have HR : Hid (Tn base R cs w) := hr
  have d1 : decide ((20 : Int) < (s.size : Int)) = false := by simp; omega
  clear hLS hr hn0 hb hty hs0 hl0 hin hs
  generalize putq cs B q s l = ds at *
  go_enter Try.func23, Try.ntmps23
  go_wp2
  obtain ⟨W1, hW1⟩ : ∃ W1, (w.alloc (.cells #[.string s, .bool l] 35)) = W1 := ⟨_, rfl⟩
  have AW : Below w.heap.size w W1 := by rw [← hW1]; exact (Below.refl _ _).alloc (Nat.le_refl _) _
  have T0 := cell_keep c0 AW
  have H0 : W1.cell? ⟨w.heap.size, 0, none⟩ = some (.string s) := by rw [← hW1]; simp [go_sem]
  have H1 : W1.cell? ⟨w.heap.size, 1, none⟩ = some (.bool l) := by rw [← hW1]; simp [go_sem]
  have F0 : W1.frozen? ⟨w.heap.size, 0, none⟩ = false := by rw [← hW1]; simp [go_sem]
  have L1 : w.heap.size < W1.heap.size := by rw [← hW1]; simp
  have R1 : Hid (Tn base R cs W1.drew) := HR.out.keep AW.drew
  rw [hW1]
  clear hW1 c0
  refine wp_region_held_drew (S := (fun w' => Below W1.heap.size W1 w')) (by kernel_rfl) ?_ (fun hHeld => ?_)
  · exact (Below.refl _ _).drew
  refine tkF 0 (some 8) ?_
  refine tkF 1 (some 9) ?_
  refine tkF 2 (some 10) ?_
  refine tkF 3 (some 11) ?_
  refine tkE 4 (some 12) ?_ ?_ ?_
  rotate_left
  · (intro w hSw; (have hT0 := cell_keep T0 hSw); (have hH0 := cell_keep H0 hSw); go_simp <;> with_reducible rfl)
  refine tkF 5 (some 13) ?_
  refine tkF 6 (some 14) ?_
  refine tkF 7 (some 15) ?_
  refine tkE 8 (some 16) ?_ ?_ ?_
  rotate_left
  · (intro w hSw; (have hT0 := cell_keep T0 hSw); (have hH0 := cell_keep H0 hSw); go_simp <;> with_reducible rfl)
  refine wpAnyH_ready (rs := [9]) (by kernel_rfl) (by simp) ?_
  refine AllReadyH.cons rfl (fun K hK => ?_) AllReadyH.nil
  go_simp
  refine (HLS.out _).mono ?_
  rintro e w' ⟨rfl, rfl⟩
  go_wp2_with fail
  refine hK.out _ _ ?_ (fun hHeld => ?_)
  · assumption
  clear hK K
  try simp only [Act.put, List.setIfInBounds_toArray, List.set_cons_zero, List.set_cons_succ]
  refine wpAnyH_ready (rs := [10]) (by kernel_rfl) (by simp) ?_
  refine AllReadyH.cons rfl (fun K hK => ?_) AllReadyH.nil
  go_simp
  refine (HWI.out _).mono ?_
  rintro e w' ⟨rfl, rfl⟩
  go_wp2_with fail
  refine hK.out _ _ ?_ (fun hHeld => ?_)
  · assumption
  clear hK K
  try simp only [Act.put, List.setIfInBounds_toArray, List.set_cons_zero, List.set_cons_succ]
  refine tkF 11 (some 19) ?_
  refine tkF 12 (some 20) ?_
  refine tkF 13 (some 21) ?_
  refine tkE 14 (some 22) ?_ ?_ ?_
  rotate_left
  · (intro w hSw; (have hT0 := cell_keep T0 hSw); (have hH0 := cell_keep H0 hSw); go_simp <;> with_reducible rfl)
  refine tkF 15 (some 23) ?_
  refine tkF 16 (some 24) ?_
  refine tkF 17 (some 25) ?_
  refine wpAnyH_done (by kernel_rfl) ?_ _
  go_wp2_with (first
    | (go_at_call 40; refine (HAT.out _ R1.out).mono ?_; rintro e w2 ⟨rfl, hb2⟩; (have u0 := (hb2.cell (p := ⟨w.heap.size, 0, none⟩) (by simpa using L1)).trans H0); (have u1 := (hb2.cell (p := ⟨w.heap.size, 1, none⟩) (by simpa using L1)).trans H1); (have v0 := (hb2.frozen (p := ⟨w.heap.size, 0, none⟩) (by simpa using L1)).trans F0); (have l2 := Nat.lt_of_lt_of_le L1 hb2.size))
    | (go_at_call 38; refine (HCL.out _).mono ?_; rintro e w3 ⟨rfl, hb3⟩; (have AL : Below w2.heap.size w2 (w2.alloc (.cells #[.string s0, .bool l0] 35)) := (Below.refl _ _).alloc (Nat.le_refl _) _); (have x0 := cell_keep (cell_keep u0 AL) hb3); (have x1 := cell_keep (cell_keep u1 AL) hb3); (have y0 := ((hb3.frozen (p := ⟨w.heap.size, 0, none⟩) (Nat.lt_of_lt_of_le l2 AL.size)).trans (AL.frozen (p := ⟨w.heap.size, 0, none⟩) l2)).trans v0); (have R3 := (((R1.out.keep hb2).keep AL).keep hb3)); (have B3 := kb (kb (kb AW.drew hb2 (Nat.le_refl _)) AL (Nat.le_refl _)) hb3 (Nat.le_refl _))))
  have hRw : R ≠ w.heap.size := by omega
  have R4 : Hid (Tn base R cs ((w3.setCell ⟨w.heap.size, 0, none⟩ (.string s)).drew)) := World.ownsRow.drew (ownsRow_setCell_other R3 (a := ⟨w.heap.size, 0, none⟩) (by simpa [Value.ownBlock] using hRw) _)
  have B4 : Hid (Below w.heap.size w (w3.setCell ⟨w.heap.size, 0, none⟩ (.string s)).drew) := (B3.setCell (p := ⟨w.heap.size, 0, none⟩) (Nat.le_refl _) _).drew
  clear R3 B3 AW
  go_region_with (go_at_call 41; refine (HPU.out _ R4.out).mono ?_; rintro e w5 ⟨⟨v5, rfl⟩, hr5, hg5⟩)
  go_wp2
  go_end0
  exact ⟨⟨_, rfl⟩, hr5, (grow_below _ B4.out).trans hg5⟩
end Go.Proofs.Yteceaadmgpjmcab.mk

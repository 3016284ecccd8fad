/-
  AN ACTOR's PACKETS.
-/
import Derived.Test.YtfjedpnagnnobaaGreatBitA
import Derived.Test.YtfjedpnagnnobaaGreatCloneW
import Derived.Test.YtfjedpnagnnobaaGreatRingA
import Derived.Test.YtfjedpnagnnobaaGreatBase
namespace Go.Proofs.YtfjedpnagnnobaaGreat.mk
open Go.RowKit
set_option linter.unusedVariables false

theorem maskFrom_q (R B q : Nat) (w : World) (hB : B < 256) (hq : q ≤ 2000000) (hc : w.cell? ⟨R, 259, none⟩ = some (.int .u8 (B : Int))) (hrot : rotB B (q % 8) < 256) :
    Calls Tryz.prog 115 #[.pointer (some ⟨R, 243, none⟩), .int .i64 q] w fun e w' => e = .returned (.int .i64 (rotB B (q % 8) : Nat)) ∧ w = w' := by
  have HR : Hid (∀ u : World, Calls Tryz.prog 121 #[.int .u8 B, .int .i64 (-((q % 8 : Nat) : Int))] u fun e w' => e = .returned (.int .u8 (rotB B (q % 8) : Nat)) ∧ u = w') := fun u => rot_any B (q % 8) u hB (by omega)
  generalize rotB B (q % 8) = V at *
  go_enter Tryz.func115, Tryz.ntmps115
  go_wp2_with (go_at_call 121; refine (HR.out _).mono ?_; rintro e w' ⟨rfl, rfl⟩)
  go_ret
  exact ⟨by simp, rfl⟩
set_option maxHeartbeats 2000000 in
theorem told_q (R nx B V : Nat) (w : World) (hB : B < 256) (hnb : nx ≤ 1000000) (hrot : rotB B (nx % 8) = V) (hV : V < 256) (T0 : w.cell? ⟨R, 242, none⟩ = some (.int .i64 (nx : Int))) (T17 : w.cell? ⟨R, 259, none⟩ = some (.int .u8 (B : Int))) :
    Calls Tryz.prog 99 #[.pointer (some ⟨R, 242, none⟩)] w fun e w' => e = .returned (.tuple #[.int .i64 (nx : Int), .int .i64 (V : Int)]) ∧ Below w.heap.size w w' := by
  have HMF : Hid (∀ u : World, u.cell? ⟨R, 259, none⟩ = some (.int .u8 (B : Int)) → Calls Tryz.prog 115 #[.pointer (some ⟨R, 243, none⟩), .int .i64 (nx : Int)] u fun e w' => e = .returned (.int .i64 (V : Nat)) ∧ u = w') := fun u h => by have := maskFrom_q R B nx u hB (by omega) h (by omega); rw [hrot] at this; exact this
  clear hrot hB
  go_enter Tryz.func99, Tryz.ntmps99
  go_wp2_with fail
  refine wp_region_held_drew (S := (fun w' => Below w.heap.size w w')) (by kernel_rfl) ?_ (fun hHeld => ?_)
  · exact (Below.refl _ _).drew
  refine takeD (i := 0) (d := some 4) (v := ?_) rfl rfl (by kernel_rfl) (by kernel_rfl) (by kernel_rfl) (fun _ _ _ h => h) (Or.inl ⟨by rfl, ?_⟩) (by assumption) ?_
  rotate_left
  · (intro w hSw; go_simp <;> with_reducible rfl)
  simp only [Act.put, List.setIfInBounds_toArray, List.set_cons_zero, List.set_cons_succ]
  refine takeD (i := 1) (d := some 5) (v := ?_) rfl rfl (by kernel_rfl) (by kernel_rfl) (by kernel_rfl) (fun _ _ _ h => h) (Or.inl ⟨by rfl, ?_⟩) (by assumption) ?_
  rotate_left
  · (intro w hSw; go_simp <;> with_reducible rfl)
  simp only [Act.put, List.setIfInBounds_toArray, List.set_cons_zero, List.set_cons_succ]
  refine takeD (i := 2) (d := some 6) (v := ?_) rfl rfl (by kernel_rfl) (by kernel_rfl) (by kernel_rfl) (fun _ _ _ h => h) (Or.inl ⟨by rfl, ?_⟩) (by assumption) ?_
  rotate_left
  · (intro w hSw; go_simp <;> with_reducible rfl)
  simp only [Act.put, List.setIfInBounds_toArray, List.set_cons_zero, List.set_cons_succ]
  refine takeD (i := 3) (d := some 7) (v := ?_) rfl rfl (by kernel_rfl) (by kernel_rfl) (by kernel_rfl) (fun _ _ _ h => h) (Or.inl ⟨by rfl, ?_⟩) (by assumption) ?_
  rotate_left
  · (intro w hSw; (have hT0 := cell_keep T0 hSw); go_simp <;> with_reducible rfl)
  simp only [Act.put, List.setIfInBounds_toArray, List.set_cons_zero, List.set_cons_succ]
  refine takeD (i := 4) (d := some 8) (v := ?_) rfl rfl (by kernel_rfl) (by kernel_rfl) (by kernel_rfl) (fun _ _ _ h => h) (Or.inl ⟨by rfl, ?_⟩) (by assumption) ?_
  rotate_left
  · (intro w hSw; go_simp <;> with_reducible rfl)
  simp only [Act.put, List.setIfInBounds_toArray, List.set_cons_zero, List.set_cons_succ]
  refine takeD (i := 5) (d := some 9) (v := ?_) rfl rfl (by kernel_rfl) (by kernel_rfl) (by kernel_rfl) (fun _ _ _ h => h) (Or.inl ⟨by rfl, ?_⟩) (by assumption) ?_
  rotate_left
  · (intro w hSw; go_simp <;> with_reducible rfl)
  simp only [Act.put, List.setIfInBounds_toArray, List.set_cons_zero, List.set_cons_succ]
  refine takeD (i := 6) (d := some 10) (v := ?_) rfl rfl (by kernel_rfl) (by kernel_rfl) (by kernel_rfl) (fun _ _ _ h => h) (Or.inl ⟨by rfl, ?_⟩) (by assumption) ?_
  rotate_left
  · (intro w hSw; go_simp <;> with_reducible rfl)
  simp only [Act.put, List.setIfInBounds_toArray, List.set_cons_zero, List.set_cons_succ]
  refine takeD (i := 7) (d := some 11) (v := ?_) rfl rfl (by kernel_rfl) (by kernel_rfl) (by kernel_rfl) (fun _ _ _ h => h) (Or.inl ⟨by rfl, ?_⟩) (by assumption) ?_
  rotate_left
  · (intro w hSw; go_simp <;> with_reducible rfl)
  simp only [Act.put, List.setIfInBounds_toArray, List.set_cons_zero, List.set_cons_succ]
  refine takeD (i := 8) (d := some 12) (v := ?_) rfl rfl (by kernel_rfl) (by kernel_rfl) (by kernel_rfl) (fun _ _ _ h => h) (Or.inl ⟨by rfl, ?_⟩) (by assumption) ?_
  rotate_left
  · (intro w hSw; go_simp <;> with_reducible rfl)
  simp only [Act.put, List.setIfInBounds_toArray, List.set_cons_zero, List.set_cons_succ]
  refine takeD (i := 9) (d := some 13) (v := ?_) rfl rfl (by kernel_rfl) (by kernel_rfl) (by kernel_rfl) (fun _ _ _ h => h) (Or.inl ⟨by rfl, ?_⟩) (by assumption) ?_
  rotate_left
  · (intro w hSw; go_simp <;> with_reducible rfl)
  simp only [Act.put, List.setIfInBounds_toArray, List.set_cons_zero, List.set_cons_succ]
  refine takeD (i := 10) (d := some 14) (v := ?_) rfl rfl (by kernel_rfl) (by kernel_rfl) (by kernel_rfl) (fun _ _ _ h => h) (Or.inl ⟨by rfl, ?_⟩) (by assumption) ?_
  rotate_left
  · (intro w hSw; (have hT0 := cell_keep T0 hSw); go_simp <;> with_reducible rfl)
  simp only [Act.put, List.setIfInBounds_toArray, List.set_cons_zero, List.set_cons_succ]
  refine wpAnyH_ready (rs := [11]) (by kernel_rfl) (by simp) ?_
  refine AllReadyH.cons rfl (fun K hK => ?_) AllReadyH.nil
  go_simp
  refine (HMF.out _ (cell_keep T17 (by assumption))).mono ?_
  rintro e w' ⟨rfl, rfl⟩
  go_wp2_with fail
  refine hK.out _ _ ?_ (fun hHeld => ?_)
  · assumption
  clear hK K
  try simp only [Act.put, List.setIfInBounds_toArray, List.set_cons_zero, List.set_cons_succ]
  refine takeD (i := 12) (d := some 2) (v := ?_) rfl rfl (by kernel_rfl) (by kernel_rfl) (by kernel_rfl) (fun _ _ _ h => h) (Or.inl ⟨by rfl, ?_⟩) (by assumption) ?_
  rotate_left
  · (intro w hSw; go_simp <;> with_reducible rfl)
  simp only [Act.put, List.setIfInBounds_toArray, List.set_cons_zero, List.set_cons_succ]
  refine takeD (i := 13) (d := some 3) (v := ?_) rfl rfl (by kernel_rfl) (by kernel_rfl) (by kernel_rfl) (fun _ _ _ h => h) (Or.inl ⟨by rfl, ?_⟩) (by assumption) ?_
  rotate_left
  · (intro w hSw; go_simp <;> with_reducible rfl)
  simp only [Act.put, List.setIfInBounds_toArray, List.set_cons_zero, List.set_cons_succ]
  refine wpAnyH_done (by kernel_rfl) ?_ _
  go_wp2
  go_ret2
  exact ⟨rfl, by assumption⟩
theorem below9 {b : Nat} {w w1 : World} (h : Below b w w1) (B : Nat) (hB : b ≤ B) (c0 c1 c2 c3 c4 c5 c6 c7 c8 : Value) :
    Below b w (((((((((w1.setCell ⟨B, 0, none⟩ c0).setCell ⟨B, 1, none⟩ c1).setCell ⟨B, 2, none⟩ c2).setCell ⟨B, 3, none⟩ c3).setCell ⟨B, 4, none⟩ c4).setCell ⟨B, 5, none⟩ c5).setCell ⟨B, 6, none⟩ c6).setCell ⟨B, 7, none⟩ c7).setCell ⟨B, 8, none⟩ c8) :=
  (((((((((h.setCell (p := ⟨B, 0, none⟩) hB c0).setCell (p := ⟨B, 1, none⟩) hB c1).setCell (p := ⟨B, 2, none⟩) hB c2).setCell (p := ⟨B, 3, none⟩) hB c3).setCell (p := ⟨B, 4, none⟩) hB c4).setCell (p := ⟨B, 5, none⟩) hB c5).setCell (p := ⟨B, 6, none⟩) hB c6).setCell (p := ⟨B, 7, none⟩) hB c7).setCell (p := ⟨B, 8, none⟩) hB c8)
theorem bx9 {w : World} {B : Nat} {t : TypeId} {d0 d1 d2 d3 d4 d5 d6 d7 d8 : Value} (h : Bx w B t #[d0, d1, d2, d3, d4, d5, d6, d7, d8]) (c0 c1 c2 c3 c4 c5 c6 c7 c8 : Value) :
    Bx (((((((((w.setCell ⟨B, 0, none⟩ c0).setCell ⟨B, 1, none⟩ c1).setCell ⟨B, 2, none⟩ c2).setCell ⟨B, 3, none⟩ c3).setCell ⟨B, 4, none⟩ c4).setCell ⟨B, 5, none⟩ c5).setCell ⟨B, 6, none⟩ c6).setCell ⟨B, 7, none⟩ c7).setCell ⟨B, 8, none⟩ c8) B t #[c0, c1, c2, c3, c4, c5, c6, c7, c8] := by
  have h1 := (((((((((h.put 0 c0).put 1 c1).put 2 c2).put 3 c3).put 4 c4).put 5 c5).put 6 c6).put 7 c7).put 8 c8)
  simpa only [List.setIfInBounds_toArray, List.set_cons_zero, List.set_cons_succ] using h1
theorem Bx.cells9 {u : World} {B : Nat} {t : TypeId} {c0 c1 c2 c3 c4 c5 c6 c7 c8 : Value} (h : Bx u B t #[c0, c1, c2, c3, c4, c5, c6, c7, c8]) : u.cell? ⟨B, 0, none⟩ = some c0 ∧ u.cell? ⟨B, 1, none⟩ = some c1 ∧ u.cell? ⟨B, 2, none⟩ = some c2 ∧ u.cell? ⟨B, 3, none⟩ = some c3 ∧ u.cell? ⟨B, 4, none⟩ = some c4 ∧ u.cell? ⟨B, 5, none⟩ = some c5 ∧ u.cell? ⟨B, 6, none⟩ = some c6 ∧ u.cell? ⟨B, 7, none⟩ = some c7 ∧ u.cell? ⟨B, 8, none⟩ = some c8 :=
  ⟨h.cell 0, h.cell 1, h.cell 2, h.cell 3, h.cell 4, h.cell 5, h.cell 6, h.cell 7, h.cell 8⟩
set_option maxRecDepth 100000 in
set_option maxHeartbeats 2000000 in
theorem packet_any (A : Nat) (kind num life peer : Int) (w : World) (h0 : w.cell? ⟨A, 262, none⟩ = some (.int .i64 num)) (h2 : w.cell? ⟨A, 264, none⟩ = some (.int .i64 life)) (h3 : w.cell? ⟨A, 265, none⟩ = some (.int .i64 peer)) :
    Calls Tryz.prog 98 #[.pointer (some ⟨A, 0, none⟩), .int .i64 kind] w fun e w' => e = .returned (.agg #[.int .i64 kind, .int .i64 num, .int .i64 life, .int .i64 peer, .int .i64 0, .int .i64 0, .int .i64 0, .bool false, .string ⟨#[]⟩]) ∧ Below w.heap.size w w' := by
  go_enter Tryz.func98, Tryz.ntmps98
  go_wp2
  refine wp_region_held_drew (S := (fun w' => Below w.heap.size w w')) (by kernel_rfl) ?_ (fun hHeld => ?_)
  · exact ((Below.refl _ _).alloc (Nat.le_refl _) _).drew
  refine takeD (i := 0) (d := some 5) (v := ?_) rfl rfl (by kernel_rfl) (by kernel_rfl) (by kernel_rfl) (fun _ _ _ h => h) (Or.inl ⟨by rfl, ?_⟩) (by assumption) ?_
  rotate_left
  · (intro w hSw; go_simp <;> with_reducible rfl)
  simp only [Act.put, List.setIfInBounds_toArray, List.set_cons_zero, List.set_cons_succ]
  refine takeD (i := 1) (d := some 6) (v := ?_) rfl rfl (by kernel_rfl) (by kernel_rfl) (by kernel_rfl) (fun _ _ _ h => h) (Or.inl ⟨by rfl, ?_⟩) (by assumption) ?_
  rotate_left
  · (intro w hSw; go_simp <;> with_reducible rfl)
  simp only [Act.put, List.setIfInBounds_toArray, List.set_cons_zero, List.set_cons_succ]
  refine takeD (i := 2) (d := some 7) (v := ?_) rfl rfl (by kernel_rfl) (by kernel_rfl) (by kernel_rfl) (fun _ _ _ h => h) (Or.inl ⟨by rfl, ?_⟩) (by assumption) ?_
  rotate_left
  · (intro w hSw; go_simp <;> with_reducible rfl)
  simp only [Act.put, List.setIfInBounds_toArray, List.set_cons_zero, List.set_cons_succ]
  refine takeD (i := 3) (d := some 8) (v := ?_) rfl rfl (by kernel_rfl) (by kernel_rfl) (by kernel_rfl) (fun _ _ _ h => h) (Or.inl ⟨by rfl, ?_⟩) (by assumption) ?_
  rotate_left
  · (intro w hSw; go_simp <;> with_reducible rfl)
  simp only [Act.put, List.setIfInBounds_toArray, List.set_cons_zero, List.set_cons_succ]
  refine takeD (i := 4) (d := some 9) (v := ?_) rfl rfl (by kernel_rfl) (by kernel_rfl) (by kernel_rfl) (fun _ _ _ h => h) (Or.inl ⟨by rfl, ?_⟩) (by assumption) ?_
  rotate_left
  · (intro w hSw; go_simp <;> with_reducible rfl)
  simp only [Act.put, List.setIfInBounds_toArray, List.set_cons_zero, List.set_cons_succ]
  refine takeD (i := 5) (d := some 10) (v := ?_) rfl rfl (by kernel_rfl) (by kernel_rfl) (by kernel_rfl) (fun _ _ _ h => h) (Or.inl ⟨by rfl, ?_⟩) (by assumption) ?_
  rotate_left
  · (intro w hSw; (have hh0 := cell_keep h0 hSw); (have hh2 := cell_keep h2 hSw); (have hh3 := cell_keep h3 hSw); go_simp <;> with_reducible rfl)
  simp only [Act.put, List.setIfInBounds_toArray, List.set_cons_zero, List.set_cons_succ]
  refine takeD (i := 6) (d := some 11) (v := ?_) rfl rfl (by kernel_rfl) (by kernel_rfl) (by kernel_rfl) (fun _ _ _ h => h) (Or.inl ⟨by rfl, ?_⟩) (by assumption) ?_
  rotate_left
  · (intro w hSw; go_simp <;> with_reducible rfl)
  simp only [Act.put, List.setIfInBounds_toArray, List.set_cons_zero, List.set_cons_succ]
  refine takeD (i := 7) (d := some 12) (v := ?_) rfl rfl (by kernel_rfl) (by kernel_rfl) (by kernel_rfl) (fun _ _ _ h => h) (Or.inl ⟨by rfl, ?_⟩) (by assumption) ?_
  rotate_left
  · (intro w hSw; go_simp <;> with_reducible rfl)
  simp only [Act.put, List.setIfInBounds_toArray, List.set_cons_zero, List.set_cons_succ]
  refine takeD (i := 8) (d := some 13) (v := ?_) rfl rfl (by kernel_rfl) (by kernel_rfl) (by kernel_rfl) (fun _ _ _ h => h) (Or.inl ⟨by rfl, ?_⟩) (by assumption) ?_
  rotate_left
  · (intro w hSw; go_simp <;> with_reducible rfl)
  simp only [Act.put, List.setIfInBounds_toArray, List.set_cons_zero, List.set_cons_succ]
  refine takeD (i := 9) (d := some 14) (v := ?_) rfl rfl (by kernel_rfl) (by kernel_rfl) (by kernel_rfl) (fun _ _ _ h => h) (Or.inl ⟨by rfl, ?_⟩) (by assumption) ?_
  rotate_left
  · (intro w hSw; go_simp <;> with_reducible rfl)
  simp only [Act.put, List.setIfInBounds_toArray, List.set_cons_zero, List.set_cons_succ]
  refine takeD (i := 10) (d := some 15) (v := ?_) rfl rfl (by kernel_rfl) (by kernel_rfl) (by kernel_rfl) (fun _ _ _ h => h) (Or.inl ⟨by rfl, ?_⟩) (by assumption) ?_
  rotate_left
  · (intro w hSw; (have hh0 := cell_keep h0 hSw); (have hh2 := cell_keep h2 hSw); (have hh3 := cell_keep h3 hSw); go_simp <;> with_reducible rfl)
  simp only [Act.put, List.setIfInBounds_toArray, List.set_cons_zero, List.set_cons_succ]
  refine takeD (i := 11) (d := some 16) (v := ?_) rfl rfl (by kernel_rfl) (by kernel_rfl) (by kernel_rfl) (fun _ _ _ h => h) (Or.inl ⟨by rfl, ?_⟩) (by assumption) ?_
  rotate_left
  · (intro w hSw; go_simp <;> with_reducible rfl)
  simp only [Act.put, List.setIfInBounds_toArray, List.set_cons_zero, List.set_cons_succ]
  refine takeD (i := 12) (d := some 17) (v := ?_) rfl rfl (by kernel_rfl) (by kernel_rfl) (by kernel_rfl) (fun _ _ _ h => h) (Or.inl ⟨by rfl, ?_⟩) (by assumption) ?_
  rotate_left
  · (intro w hSw; go_simp <;> with_reducible rfl)
  simp only [Act.put, List.setIfInBounds_toArray, List.set_cons_zero, List.set_cons_succ]
  refine takeD (i := 13) (d := some 18) (v := ?_) rfl rfl (by kernel_rfl) (by kernel_rfl) (by kernel_rfl) (fun _ _ _ h => h) (Or.inl ⟨by rfl, ?_⟩) (by assumption) ?_
  rotate_left
  · (intro w hSw; go_simp <;> with_reducible rfl)
  simp only [Act.put, List.setIfInBounds_toArray, List.set_cons_zero, List.set_cons_succ]
  refine takeD (i := 14) (d := some 19) (v := ?_) rfl rfl (by kernel_rfl) (by kernel_rfl) (by kernel_rfl) (fun _ _ _ h => h) (Or.inl ⟨by rfl, ?_⟩) (by assumption) ?_
  rotate_left
  · (intro w hSw; go_simp <;> with_reducible rfl)
  simp only [Act.put, List.setIfInBounds_toArray, List.set_cons_zero, List.set_cons_succ]
  refine takeD (i := 15) (d := some 20) (v := ?_) rfl rfl (by kernel_rfl) (by kernel_rfl) (by kernel_rfl) (fun _ _ _ h => h) (Or.inl ⟨by rfl, ?_⟩) (by assumption) ?_
  rotate_left
  · (intro w hSw; (have hh0 := cell_keep h0 hSw); (have hh2 := cell_keep h2 hSw); (have hh3 := cell_keep h3 hSw); go_simp <;> with_reducible rfl)
  simp only [Act.put, List.setIfInBounds_toArray, List.set_cons_zero, List.set_cons_succ]
  refine takeD (i := 16) (d := some 21) (v := ?_) rfl rfl (by kernel_rfl) (by kernel_rfl) (by kernel_rfl) (fun _ _ _ h => h) (Or.inl ⟨by rfl, ?_⟩) (by assumption) ?_
  rotate_left
  · (intro w hSw; go_simp <;> with_reducible rfl)
  simp only [Act.put, List.setIfInBounds_toArray, List.set_cons_zero, List.set_cons_succ]
  refine wpAnyH_ready (rs := [17]) (by kernel_rfl) (by simp) ?_
  refine AllReadyH.cons rfl (fun K hK => ?_) AllReadyH.nil
  go_simp
  refine hK.out _ _ ?_ (fun hHeld => ?_)
  · exact ((Below.refl _ _).alloc (Nat.le_refl _) _).drew
  clear hK K
  try simp only [Act.put, List.setIfInBounds_toArray, List.set_cons_zero, List.set_cons_succ]
  refine wpAnyH_done (by kernel_rfl) ?_ _
  go_wp2
  exact bodyPost_ret (v := .agg #[.int .i64 kind, .int .i64 num, .int .i64 life, .int .i64 peer, .int .i64 0, .int .i64 0, .int .i64 0, .bool false, .string ⟨#[]⟩]) (by simp [results, Tryz.results98, go_sem]) rfl ⟨rfl, ((Below.refl _ _).alloc (Nat.le_refl _) _).drew⟩
set_option maxRecDepth 100000 in
set_option maxHeartbeats 2000000 in
theorem dataPacket_any (A q : Nat) (s : ByteArray) (l : Bool) (num life peer : Int) (w : World) (hq : q ≤ 2000000) (hs : s.size ≤ 1048576) (hA : A < w.heap.size) (h0 : w.cell? ⟨A, 262, none⟩ = some (.int .i64 num)) (h2 : w.cell? ⟨A, 264, none⟩ = some (.int .i64 life)) (h3 : w.cell? ⟨A, 265, none⟩ = some (.int .i64 peer)) (c0 : w.cell? ⟨A, q % 60 * 4, none⟩ = some (.string s)) (c1 : w.cell? ⟨A, q % 60 * 4 + 1, none⟩ = some (.bool l)) :
    Calls Tryz.prog 64 #[.pointer (some ⟨A, 0, none⟩), .int .i64 q] w fun e w' => e = .returned (.agg #[.int .i64 2, .int .i64 num, .int .i64 life, .int .i64 peer, .int .i64 0, .int .i64 0, .int .i64 (q : Int), .bool l, .string s]) ∧ Below w.heap.size w w' := by
  have HPA : Hid (∀ (u : World) (k : Int), u.cell? ⟨A, 262, none⟩ = some (.int .i64 num) → u.cell? ⟨A, 264, none⟩ = some (.int .i64 life) → u.cell? ⟨A, 265, none⟩ = some (.int .i64 peer) → Calls Tryz.prog 98 #[.pointer (some ⟨A, 0, none⟩), .int .i64 k] u fun e w' => e = .returned (.agg #[.int .i64 k, .int .i64 num, .int .i64 life, .int .i64 peer, .int .i64 0, .int .i64 0, .int .i64 0, .bool false, .string ⟨#[]⟩]) ∧ Below u.heap.size u w') := fun u k a b c => packet_any A k num life peer u a b c
  have HCL : Hid (∀ u : World, Calls Tryz.prog 92 #[.string s] u fun e w' => e = .returned (.string s) ∧ Below u.heap.size u w') := fun u => clone_any s u hs
  have HAT : Hid (∀ u : World, Calls Tryz.prog 96 #[.pointer (some ⟨A, 0, none⟩), .int .i64 q] u fun e w' => e = .returned (.pointer (some ⟨A, q % 60 * 4, none⟩)) ∧ u = w') := fun u => at_any A q u hq
  have B2 : Hid (∀ o p : Obj, Below w.heap.size w ((w.alloc o).alloc p)) := fun o p => ((Below.refl _ _).alloc (Nat.le_refl _) _).alloc (by simp) _
  have Z0 : Hid (Bx ((w.alloc (.cells #[.int .i64 0, .int .i64 0, .int .i64 0, .int .i64 0, .int .i64 0, .int .i64 0, .int .i64 0, .bool false, .string ⟨#[]⟩] 54)).alloc (.cells #[.string s, .bool l] 65)) w.heap.size 54 #[.int .i64 0, .int .i64 0, .int .i64 0, .int .i64 0, .int .i64 0, .int .i64 0, .int .i64 0, .bool false, .string ⟨#[]⟩]) := (Bx.new w _ _).alloc _
  have P0 : Hid (Bx ((w.alloc (.cells #[.int .i64 0, .int .i64 0, .int .i64 0, .int .i64 0, .int .i64 0, .int .i64 0, .int .i64 0, .bool false, .string ⟨#[]⟩] 54)).alloc (.cells #[.string s, .bool l] 65)) (w.heap.size + 1) 65 #[.string s, .bool l]) := (by have := Bx.new (w.alloc (.cells #[.int .i64 0, .int .i64 0, .int .i64 0, .int .i64 0, .int .i64 0, .int .i64 0, .int .i64 0, .bool false, .string ⟨#[]⟩] 54)) 65 #[.string s, .bool l]; rw [World.size_alloc] at this; exact this : Bx ((w.alloc (.cells #[.int .i64 0, .int .i64 0, .int .i64 0, .int .i64 0, .int .i64 0, .int .i64 0, .int .i64 0, .bool false, .string ⟨#[]⟩] 54)).alloc (.cells #[.string s, .bool l] 65)) (w.heap.size + 1) 65 #[.string s, .bool l])
  have H3 : Hid (w.cell? ⟨A, 262, none⟩ = some (.int .i64 num) ∧ w.cell? ⟨A, 264, none⟩ = some (.int .i64 life) ∧ w.cell? ⟨A, 265, none⟩ = some (.int .i64 peer)) := ⟨h0, h2, h3⟩
  clear h0 h2 h3
  go_enter Tryz.func64, Tryz.ntmps64
  go_wp2_with (first
    | (go_at_call 96; refine (HAT.out _).mono ?_; rintro e w1 ⟨rfl, rfl⟩)
    | (go_at_call 98; refine (HPA.out _ 2 (((B2.out _ _).cell (p := ⟨A, 262, none⟩) hA).trans H3.out.1) (((B2.out _ _).cell (p := ⟨A, 264, none⟩) hA).trans H3.out.2.1) (((B2.out _ _).cell (p := ⟨A, 265, none⟩) hA).trans H3.out.2.2)).mono ?_; rintro e w1 ⟨rfl, hb1⟩; (have P1 := P0.out.keep hb1); (have Z1 := Z0.out.keep hb1); (have q0 := P1.cell 0); (have q1 := P1.cell 1); simp at q0 q1; (have l1 := P1.lt); (have l2 : w.heap.size < w1.heap.size := by omega))
    | (go_at_call 92; refine (HCL.out _).mono ?_; rintro e w2 ⟨rfl, hb2⟩; (have X2 := (Bx.new w1 54 #[.int .i64 2, .int .i64 num, .int .i64 life, .int .i64 peer, .int .i64 0, .int .i64 0, .int .i64 (q : Int), .bool l, .string ⟨#[]⟩]).keep hb2); (have Z2 := (Z1.alloc (.cells #[.int .i64 2, .int .i64 num, .int .i64 life, .int .i64 peer, .int .i64 0, .int .i64 0, .int .i64 (q : Int), .bool l, .string ⟨#[]⟩] 54)).keep hb2); (have x0 := (X2).cell 0); (have x1 := (X2).cell 1); (have x2 := (X2).cell 2); (have x3 := (X2).cell 3); (have x4 := (X2).cell 4); (have x5 := (X2).cell 5); (have x6 := (X2).cell 6); (have x7 := (X2).cell 7); (have x8 := (X2).cell 8); simp at x0 x1 x2 x3 x4 x5 x6 x7 x8; (have v0 := (X2).frozen 0); (have v1 := (X2).frozen 1); (have v2 := (X2).frozen 2); (have v3 := (X2).frozen 3); (have v4 := (X2).frozen 4); (have v5 := (X2).frozen 5); (have v6 := (X2).frozen 6); (have v7 := (X2).frozen 7); (have v8 := (X2).frozen 8); (have y0 := (Z2).cell 0); (have y1 := (Z2).cell 1); (have y2 := (Z2).cell 2); (have y3 := (Z2).cell 3); (have y4 := (Z2).cell 4); (have y5 := (Z2).cell 5); (have y6 := (Z2).cell 6); (have y7 := (Z2).cell 7); (have y8 := (Z2).cell 8); simp at y0 y1 y2 y3 y4 y5 y6 y7 y8; (have u0 := (Z2).frozen 0); (have u1 := (Z2).frozen 1); (have u2 := (Z2).frozen 2); (have u3 := (Z2).frozen 3); (have u4 := (Z2).frozen 4); (have u5 := (Z2).frozen 5); (have u6 := (Z2).frozen 6); (have u7 := (Z2).frozen 7); (have u8 := (Z2).frozen 8); (have n1 : ¬ w.heap.size = w1.heap.size := by omega); (have n2 : ¬ w1.heap.size = w.heap.size := by omega))
    | fail)
  have B3 := kb (kb (B2.out _ _) hb1 (Nat.le_refl _) |>.alloc (by omega) (.cells #[.int .i64 2, .int .i64 num, .int .i64 life, .int .i64 peer, .int .i64 0, .int .i64 0, .int .i64 (q : Int), .bool l, .string ⟨#[]⟩] 54)) hb2 (Nat.le_refl _)
  have B4 := B3.setCell (p := ⟨w1.heap.size, 8, none⟩) (by show w.heap.size ≤ w1.heap.size; omega) (.string s)
  have X3 : Bx (w2.setCell ⟨w1.heap.size, 8, none⟩ (.string s)) w.heap.size 54 #[.int .i64 0, .int .i64 0, .int .i64 0, .int .i64 0, .int .i64 0, .int .i64 0, .int .i64 0, .bool false, .string ⟨#[]⟩] := Z2.kept (grow_set w2 ⟨w1.heap.size, 8, none⟩ (.string s)) (by simp; omega)
  have Z5 := bx9 X3 (.int .i64 2) (.int .i64 num) (.int .i64 life) (.int .i64 peer) (.int .i64 0) (.int .i64 0) (.int .i64 (q : Int)) (.bool l) (.string s)
  have B5 := below9 B4 (w.heap.size) (Nat.le_refl _) (.int .i64 2) (.int .i64 num) (.int .i64 life) (.int .i64 peer) (.int .i64 0) (.int .i64 0) (.int .i64 (q : Int)) (.bool l) (.string s)
  generalize ((((((((((w2.setCell ⟨w1.heap.size, 8, none⟩ (.string s)).setCell ⟨w.heap.size, 0, none⟩ (.int .i64 2)).setCell ⟨w.heap.size, 1, none⟩ (.int .i64 num)).setCell ⟨w.heap.size, 2, none⟩ (.int .i64 life)).setCell ⟨w.heap.size, 3, none⟩ (.int .i64 peer)).setCell ⟨w.heap.size, 4, none⟩ (.int .i64 0)).setCell ⟨w.heap.size, 5, none⟩ (.int .i64 0)).setCell ⟨w.heap.size, 6, none⟩ (.int .i64 (q : Int))).setCell ⟨w.heap.size, 7, none⟩ (.bool l)).setCell ⟨w.heap.size, 8, none⟩ (.string s)) = U at Z5 B5 ⊢
  obtain ⟨k0, k1, k2, k3, k4, k5, k6, k7, k8⟩ := Z5.cells9
  exact bodyPost_ret (v := .agg #[.int .i64 2, .int .i64 num, .int .i64 life, .int .i64 peer, .int .i64 0, .int .i64 0, .int .i64 (q : Int), .bool l, .string s]) (by simp [results, Tryz.results64, go_sem, k0, k1, k2, k3, k4, k5, k6, k7, k8]) rfl ⟨rfl, B5⟩
set_option maxRecDepth 100000 in
set_option maxHeartbeats 2000000 in
theorem wordPacket_any (A nx B V : Nat) (num life peer : Int) (w : World) (hB : B < 256) (hnb : nx ≤ 1000000) (hrot : rotB B (nx % 8) = V) (hV : V < 256) (hA : A < w.heap.size) (h0 : w.cell? ⟨A, 262, none⟩ = some (.int .i64 num)) (h2 : w.cell? ⟨A, 264, none⟩ = some (.int .i64 life)) (h3 : w.cell? ⟨A, 265, none⟩ = some (.int .i64 peer)) (T0 : w.cell? ⟨A, 242, none⟩ = some (.int .i64 (nx : Int))) (T17 : w.cell? ⟨A, 259, none⟩ = some (.int .u8 (B : Int))) :
    Calls Tryz.prog 65 #[.pointer (some ⟨A, 0, none⟩)] w fun e w' => e = .returned (.agg #[.int .i64 1, .int .i64 num, .int .i64 life, .int .i64 peer, .int .i64 (nx : Int), .int .i64 (V : Int), .int .i64 0, .bool false, .string ⟨#[]⟩]) ∧ Below w.heap.size w w' := by
  have HPA : Hid (∀ (u : World) (k : Int), u.cell? ⟨A, 262, none⟩ = some (.int .i64 num) → u.cell? ⟨A, 264, none⟩ = some (.int .i64 life) → u.cell? ⟨A, 265, none⟩ = some (.int .i64 peer) → Calls Tryz.prog 98 #[.pointer (some ⟨A, 0, none⟩), .int .i64 k] u fun e w' => e = .returned (.agg #[.int .i64 k, .int .i64 num, .int .i64 life, .int .i64 peer, .int .i64 0, .int .i64 0, .int .i64 0, .bool false, .string ⟨#[]⟩]) ∧ Below u.heap.size u w') := fun u k a b c => packet_any A k num life peer u a b c
  have HTO : Hid (∀ u : World, u.cell? ⟨A, 242, none⟩ = some (.int .i64 (nx : Int)) → u.cell? ⟨A, 259, none⟩ = some (.int .u8 (B : Int)) → Calls Tryz.prog 99 #[.pointer (some ⟨A, 242, none⟩)] u fun e w' => e = .returned (.tuple #[.int .i64 (nx : Int), .int .i64 (V : Int)]) ∧ Below u.heap.size u w') := fun u a b => told_q A nx B V u hB hnb hrot hV a b
  have B1 : Hid (∀ o : Obj, Below w.heap.size w (w.alloc o)) := fun o => (Below.refl _ _).alloc (Nat.le_refl _) _
  have Z0 : Hid (Bx (w.alloc (.cells #[.int .i64 0, .int .i64 0, .int .i64 0, .int .i64 0, .int .i64 0, .int .i64 0, .int .i64 0, .bool false, .string ⟨#[]⟩] 54)) w.heap.size 54 #[.int .i64 0, .int .i64 0, .int .i64 0, .int .i64 0, .int .i64 0, .int .i64 0, .int .i64 0, .bool false, .string ⟨#[]⟩]) := Bx.new w _ _
  have H3 : Hid (w.cell? ⟨A, 262, none⟩ = some (.int .i64 num) ∧ w.cell? ⟨A, 264, none⟩ = some (.int .i64 life) ∧ w.cell? ⟨A, 265, none⟩ = some (.int .i64 peer)) := ⟨h0, h2, h3⟩
  have HT : Hid (w.cell? ⟨A, 242, none⟩ = some (.int .i64 (nx : Int)) ∧ w.cell? ⟨A, 259, none⟩ = some (.int .u8 (B : Int))) := ⟨T0, T17⟩
  clear h0 h2 h3 T0 T17 hrot
  go_enter Tryz.func65, Tryz.ntmps65
  go_wp2_with (first
    | (go_at_call 98; refine (HPA.out _ 1 (((B1.out _).cell (p := ⟨A, 262, none⟩) hA).trans H3.out.1) (((B1.out _).cell (p := ⟨A, 264, none⟩) hA).trans H3.out.2.1) (((B1.out _).cell (p := ⟨A, 265, none⟩) hA).trans H3.out.2.2)).mono ?_; rintro e w1 ⟨rfl, hb1⟩; (have Z1 := Z0.out.keep hb1); (have l1 := Z1.lt); (have K1 := kb (B1.out _) hb1 (Nat.le_refl _)); (have K2 := K1.alloc K1.size (.cells #[.int .i64 1, .int .i64 num, .int .i64 life, .int .i64 peer, .int .i64 0, .int .i64 0, .int .i64 0, .bool false, .string ⟨#[]⟩] 54)))
    | (go_at_call 99; refine (HTO.out _ ((K2.cell (p := ⟨A, 242, none⟩) hA).trans HT.out.1) ((K2.cell (p := ⟨A, 259, none⟩) hA).trans HT.out.2)).mono ?_; rintro e w2 ⟨rfl, hb2⟩; (have X2 := (Bx.new w1 54 #[.int .i64 1, .int .i64 num, .int .i64 life, .int .i64 peer, .int .i64 0, .int .i64 0, .int .i64 0, .bool false, .string ⟨#[]⟩]).keep hb2); (have Z2 := (Z1.alloc (.cells #[.int .i64 1, .int .i64 num, .int .i64 life, .int .i64 peer, .int .i64 0, .int .i64 0, .int .i64 0, .bool false, .string ⟨#[]⟩] 54)).keep hb2); (have x0 := (X2).cell 0); (have x1 := (X2).cell 1); (have x2 := (X2).cell 2); (have x3 := (X2).cell 3); (have x4 := (X2).cell 4); (have x5 := (X2).cell 5); (have x6 := (X2).cell 6); (have x7 := (X2).cell 7); (have x8 := (X2).cell 8); simp at x0 x1 x2 x3 x4 x5 x6 x7 x8; (have v0 := (X2).frozen 0); (have v1 := (X2).frozen 1); (have v2 := (X2).frozen 2); (have v3 := (X2).frozen 3); (have v4 := (X2).frozen 4); (have v5 := (X2).frozen 5); (have v6 := (X2).frozen 6); (have v7 := (X2).frozen 7); (have v8 := (X2).frozen 8); (have y0 := (Z2).cell 0); (have y1 := (Z2).cell 1); (have y2 := (Z2).cell 2); (have y3 := (Z2).cell 3); (have y4 := (Z2).cell 4); (have y5 := (Z2).cell 5); (have y6 := (Z2).cell 6); (have y7 := (Z2).cell 7); (have y8 := (Z2).cell 8); simp at y0 y1 y2 y3 y4 y5 y6 y7 y8; (have u0 := (Z2).frozen 0); (have u1 := (Z2).frozen 1); (have u2 := (Z2).frozen 2); (have u3 := (Z2).frozen 3); (have u4 := (Z2).frozen 4); (have u5 := (Z2).frozen 5); (have u6 := (Z2).frozen 6); (have u7 := (Z2).frozen 7); (have u8 := (Z2).frozen 8); (have n1 : ¬ w.heap.size = w1.heap.size := by omega); (have n2 : ¬ w1.heap.size = w.heap.size := by omega))
    | fail)
  have B3 := kb K2 hb2 (Nat.le_refl _)
  have B4 := (B3.setCell (p := ⟨w1.heap.size, 4, none⟩) (by show w.heap.size ≤ w1.heap.size; omega) (.int .i64 (nx : Int))).setCell (p := ⟨w1.heap.size, 5, none⟩) (by show w.heap.size ≤ w1.heap.size; omega) (.int .i64 (V : Int))
  have X3 : Bx ((w2.setCell ⟨w1.heap.size, 4, none⟩ (.int .i64 (nx : Int))).setCell ⟨w1.heap.size, 5, none⟩ (.int .i64 (V : Int))) w.heap.size 54 #[.int .i64 0, .int .i64 0, .int .i64 0, .int .i64 0, .int .i64 0, .int .i64 0, .int .i64 0, .bool false, .string ⟨#[]⟩] := (Z2.kept (grow_set w2 ⟨w1.heap.size, 4, none⟩ (.int .i64 (nx : Int))) (by simp; omega)).kept (grow_set _ ⟨w1.heap.size, 5, none⟩ (.int .i64 (V : Int))) (by simp; omega)
  have Z5 := bx9 X3 (.int .i64 1) (.int .i64 num) (.int .i64 life) (.int .i64 peer) (.int .i64 (nx : Int)) (.int .i64 (V : Int)) (.int .i64 0) (.bool false) (.string ⟨#[]⟩)
  have B5 := below9 B4 (w.heap.size) (Nat.le_refl _) (.int .i64 1) (.int .i64 num) (.int .i64 life) (.int .i64 peer) (.int .i64 (nx : Int)) (.int .i64 (V : Int)) (.int .i64 0) (.bool false) (.string ⟨#[]⟩)
  generalize (((((((((((w2.setCell ⟨w1.heap.size, 4, none⟩ (.int .i64 (nx : Int))).setCell ⟨w1.heap.size, 5, none⟩ (.int .i64 (V : Int))).setCell ⟨w.heap.size, 0, none⟩ (.int .i64 1)).setCell ⟨w.heap.size, 1, none⟩ (.int .i64 num)).setCell ⟨w.heap.size, 2, none⟩ (.int .i64 life)).setCell ⟨w.heap.size, 3, none⟩ (.int .i64 peer)).setCell ⟨w.heap.size, 4, none⟩ (.int .i64 (nx : Int))).setCell ⟨w.heap.size, 5, none⟩ (.int .i64 (V : Int))).setCell ⟨w.heap.size, 6, none⟩ (.int .i64 0)).setCell ⟨w.heap.size, 7, none⟩ (.bool false)).setCell ⟨w.heap.size, 8, none⟩ (.string ⟨#[]⟩)) = U at Z5 B5 ⊢
  obtain ⟨k0, k1, k2, k3, k4, k5, k6, k7, k8⟩ := Z5.cells9
  exact bodyPost_ret (v := .agg #[.int .i64 1, .int .i64 num, .int .i64 life, .int .i64 peer, .int .i64 (nx : Int), .int .i64 (V : Int), .int .i64 0, .bool false, .string ⟨#[]⟩]) (by simp [results, Tryz.results65, go_sem, k0, k1, k2, k3, k4, k5, k6, k7, k8]) rfl ⟨rfl, B5⟩
end Go.Proofs.YtfjedpnagnnobaaGreat.mk

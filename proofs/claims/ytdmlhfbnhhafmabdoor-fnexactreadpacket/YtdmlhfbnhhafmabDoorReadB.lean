/-
  THE WALKS of ReadPacket, second part: the program's head, word and data.
-/
import Derived.Test.YtdmlhfbnhhafmabDoorReadA
import Derived.Shelf.Pu.Clone
namespace Go.Proofs.YtdmlhfbnhhafmabDoor.tag
open Go.RowKit

def ren : Go.Shelf.Ren := ⟨fun | 25 => 38 | x => x, fun | 3 => 3 | 4 => 4 | 5 => 5 | 9 => 9 | 37 => 53 | 47 => 95 | x => x, fun x => x⟩
theorem lays : LaysPu.n25 Tryd.prog ren where
  mixed := by kernel_rfl
  f25 := by kernel_rfl
  t0 := by kernel_rfl
  a0 := fun _ => by kernel_rfl
  z0 := fun _ => by kernel_rfl
  v0 := fun _ => by kernel_rfl
  i0 := by kernel_rfl
  t3 := by kernel_rfl
  a3 := fun _ => by kernel_rfl
  z3 := fun _ => by kernel_rfl
  v3 := fun _ => by kernel_rfl
  i3 := by kernel_rfl
  t4 := by kernel_rfl
  a4 := fun _ => by kernel_rfl
  z4 := fun _ => by kernel_rfl
  v4 := fun _ => by kernel_rfl
  i4 := by kernel_rfl
  t5 := by kernel_rfl
  a5 := fun _ => by kernel_rfl
  z5 := fun _ => by kernel_rfl
  v5 := fun _ => by kernel_rfl
  i5 := by kernel_rfl
  t9 := by kernel_rfl
  a9 := fun _ => by kernel_rfl
  z9 := fun _ => by kernel_rfl
  v9 := fun _ => by kernel_rfl
  i9 := by kernel_rfl
  t37 := by kernel_rfl
  a37 := fun _ => by kernel_rfl
  z37 := fun _ => by kernel_rfl
  v37 := fun _ => by kernel_rfl
  i37 := by kernel_rfl
  t47 := by kernel_rfl
  a47 := fun _ => by kernel_rfl
  z47 := fun _ => by kernel_rfl
  v47 := fun _ => by kernel_rfl
  i47 := by kernel_rfl
theorem clone_any (s : ByteArray) (w : World) (h : s.size ≤ 1048576) :
    Calls Tryd.prog 32 #[.string s] w fun e w' => e = .returned (.string s) ∧ Below w.heap.size w w' := by
  have HC : Hid (∀ w : World, Calls Tryd.prog 38 #[.string s] w fun e w' => e = .returned (.string s) ∧ Below w.heap.size w w') := fun w => AnyPu.stringslite_Clone lays s w (by omega)
  go_enter Tryd.func32, Tryd.ntmps32
  go_wp2_with (go_at_call 38; refine (HC.out _).mono ?_; rintro e w2 ⟨rfl, hb2⟩)
  go_ret
  exact ⟨rfl, hb2⟩

theorem readHead_short (b : ByteArray) (kind : Int) (v1 : Value) (w : World) (h : (b.size : Int) < 6) (hg : w.cell? ⟨1, 0, none⟩ = some v1) (hlt : 1 < w.heap.size) :
    Calls Tryd.prog 24 #[.string b, .int .i64 kind] w fun e w' => e = .returned (.tuple #[.agg #[.int .i64 0, .int .i64 0, .int .i64 0], v1]) ∧ Below w.heap.size w w' := by
  go_enter Tryd.func24, Tryd.ntmps24
  go_wp2
  go_region
  all_goals go_wp2
  all_goals exact bodyPost_ret (v := .tuple #[.agg #[.int .i64 0, .int .i64 0, .int .i64 0], v1]) (by simp [results, Tryd.results24, go_sem]) rfl ⟨rfl, ((Below.refl _ _).alloc (Nat.le_refl _) _).drew⟩
theorem readHead_other (b : ByteArray) (c0 : UInt8) (kind : Int) (w : World) (h : (6 : Int) ≤ (b.size : Int)) (e0 : b[0]'(by omega) = c0) (hk : ((c0.toNat : Int) == kind) = false) :
    Calls Tryd.prog 24 #[.string b, .int .i64 kind] w fun e w' => ∃ g, e = .returned (.tuple #[.agg #[.int .i64 0, .int .i64 0, .int .i64 0], .iface 57 (.pointer (some ⟨g, 0, none⟩))]) ∧ w.heap.size ≤ g ∧ g < w'.heap.size ∧ w'.cell? ⟨g, 0, none⟩ = some (.int .i64 (c0.toNat : Int)) ∧ Below w.heap.size w w' := by
  have hw0 : IntKind.i64.wrap (c0.toNat : Int) = (c0.toNat : Int) := by have := c0.toNat_lt; rw [IntKind.wrap_i64]; omega
  go_enter Tryd.func24, Tryd.ntmps24
  go_wp2
  exact bodyPost_ret (v := .tuple #[.agg #[.int .i64 0, .int .i64 0, .int .i64 0], .iface 57 (.pointer (some ⟨w.heap.size + 1, 0, none⟩))]) (by simp [results, Tryd.results24, go_sem]) rfl
    ⟨w.heap.size + 1, rfl, by omega, by simp, by simp, ((Below.refl _ _).alloc (Nat.le_refl _) _).alloc (by simp) _⟩
theorem readHead_yes (b : ByteArray) (c0 c1 : UInt8) (w : World) (h : (6 : Int) ≤ (b.size : Int)) (e0 : b[0]'(by omega) = c0) (e1 : b[1]'(by omega) = c1) :
    Calls Tryd.prog 24 #[.string b, .int .i64 (c0.toNat : Int)] w fun e w' => e = .returned (.tuple #[.agg #[.int .i64 (c1.toNat : Int), .int .i64 (rdx b 2 4), .int .i64 (rdx b 4 6)], .nilIface]) ∧ Below w.heap.size w w' := by
  have hw0 : IntKind.i64.wrap (c0.toNat : Int) = (c0.toNat : Int) := by have := c0.toNat_lt; rw [IntKind.wrap_i64]; omega
  have hw1 : IntKind.i64.wrap (c1.toNat : Int) = (c1.toNat : Int) := by have := c1.toNat_lt; rw [IntKind.wrap_i64]; omega
  have z2 : (1 : Int) < (b.size : Int) := by omega
  have z3 : (4 : Int) ≤ (b.size : Int) := by omega
  go_enter Tryd.func24, Tryd.ntmps24
  go_wp2
  go_region_held3 (fun _ => True) (trivial) (first | (go_at_call_of 25 (Value.string (b.extract 2 4)); refine (readNumber_ext b 2 4 _ (by omega)).mono ?_; rintro e w2 ⟨rfl, rfl⟩) | (go_at_call_of 25 (Value.string (b.extract 4 6)); refine (readNumber_ext b 4 6 _ (by omega)).mono ?_; rintro e w2 ⟨rfl, rfl⟩))
  all_goals go_wp2
  all_goals exact bodyPost_ret (v := .tuple #[.agg #[.int .i64 (c1.toNat : Int), .int .i64 (rdx b 2 4), .int .i64 (rdx b 4 6)], .nilIface]) (by simp [results, Tryd.results24, go_sem]) rfl ⟨rfl, ((Below.refl _ _).alloc (Nat.le_refl _) _).drew⟩

theorem below_two {w w1 : World} {o o' : Obj} (hb1 : Below w.heap.size w w1) : Below w.heap.size w ((w1.alloc o).alloc o') :=
  (hb1.alloc hb1.size _).alloc (by have := hb1.size; simp; omega) _
theorem below_two_on {w w1 w2 : World} {o o' : Obj} (hb1 : Below w.heap.size w w1) (hb2 : Below ((w1.alloc o).alloc o').drew.heap.size ((w1.alloc o).alloc o').drew w2) : Below w.heap.size w w2 :=
  (below_two hb1).drew.trans (hb2.mono (by have := hb1.size; show w.heap.size ≤ ((w1.alloc o).alloc o').heap.size; simp; omega))
theorem cell_two {w1 w2 : World} {o o' : Obj} {k : Nat} {v : Value} (hb2 : Below ((w1.alloc o).alloc o').drew.heap.size ((w1.alloc o).alloc o').drew w2) (hk : k < w1.heap.size) (hv : w1.cell? ⟨k, 0, none⟩ = some v) : w2.cell? ⟨k, 0, none⟩ = some v :=
  (hb2.cell (p := ⟨k, 0, none⟩) (by show k < ((w1.alloc o).alloc o').heap.size; simp; omega)).trans ((World.cell?_alloc_past (hn := by simp; omega) ..).trans ((World.cell?_alloc_past (hn := hk) ..).trans hv))
theorem size_two {w1 w2 : World} {o o' : Obj} (hb2 : Below ((w1.alloc o).alloc o').drew.heap.size ((w1.alloc o).alloc o').drew w2) : w1.heap.size + 2 ≤ w2.heap.size := by
  have h : ((w1.alloc o).alloc o').heap.size ≤ w2.heap.size := hb2.size
  simpa using h
theorem cell_mid {w1 w2 : World} {c : Array Value} {t i : Nat} {o : Obj} (hb2 : Below ((w1.alloc o).alloc (.cells c t)).drew.heap.size ((w1.alloc o).alloc (.cells c t)).drew w2) : w2.cell? ⟨w1.heap.size + 1, i, none⟩ = c[i]? :=
  (hb2.cell (p := ⟨w1.heap.size + 1, i, none⟩) (by show w1.heap.size + 1 < ((w1.alloc o).alloc (.cells c t)).heap.size; simp)).trans (World.cell?_alloc_at (hn := by simp) ..)

theorem readWord_short (b : ByteArray) (T : TypeId) (x1 : Value) (w : World) (h : (b.size : Int) < 6) (hg : w.cell? ⟨1, 0, none⟩ = some (.iface T x1)) (hlt : 1 < w.heap.size) :
    Calls Tryd.prog 21 #[.string b] w fun e w' => ∃ g, e = .returned (.tuple #[.nilIface, .iface 42 (.pointer (some ⟨g, 0, none⟩))]) ∧ w.heap.size ≤ g ∧ g < w'.heap.size ∧ w'.cell? ⟨g, 1, none⟩ = some (.iface T x1) ∧ Below w.heap.size w w' := by
  go_enter Tryd.func21, Tryd.ntmps21
  go_wp2_with (go_at_call 24; refine (readHead_short b 1 (.iface T x1) _ h hg hlt).mono ?_; rintro e w1 ⟨rfl, hb1⟩)
  go_ret2
  exact ⟨w1.heap.size + 1, rfl, by have := hb1.size; omega, by simp, by simp, below_two hb1⟩
theorem readWord_other (b : ByteArray) (c0 : UInt8) (w : World) (h : (6 : Int) ≤ (b.size : Int)) (e0 : b[0]'(by omega) = c0) (hk : ((c0.toNat : Int) == 1) = false) :
    Calls Tryd.prog 21 #[.string b] w fun e w' => ∃ g2, (∃ g, e = .returned (.tuple #[.nilIface, .iface 42 (.pointer (some ⟨g, 0, none⟩))]) ∧ w.heap.size ≤ g ∧ g < w'.heap.size ∧ w'.cell? ⟨g, 1, none⟩ = some (.iface 57 (.pointer (some ⟨g2, 0, none⟩))) ∧ Below w.heap.size w w') ∧ w.heap.size ≤ g2 ∧ g2 < w'.heap.size ∧ w'.cell? ⟨g2, 0, none⟩ = some (.int .i64 (c0.toNat : Int)) := by
  go_enter Tryd.func21, Tryd.ntmps21
  go_wp2_with (go_at_call 24; refine (readHead_other b c0 1 _ h e0 hk).mono ?_; rintro e w1 ⟨g2, rfl, hg1, hg2, hgc, hb1⟩)
  go_ret2
  exact ⟨g2, ⟨w1.heap.size + 1, rfl, by have := hb1.size; omega, by simp, by simp, below_two hb1⟩, hg1, by simp; omega, (World.cell?_alloc_past (hn := by simp; omega) ..).trans ((World.cell?_alloc_past (hn := hg2) ..).trans hgc)⟩
theorem readWord_size (b : ByteArray) (c1 : UInt8) (T : TypeId) (x3 : Value) (w : World) (h : (6 : Int) ≤ (b.size : Int)) (hz : ((b.size : Int) == 11) = false) (e0 : b[0]'(by omega) = 1) (e1 : b[1]'(by omega) = c1) (hg : w.cell? ⟨3, 0, none⟩ = some (.iface T x3)) (hlt : 3 < w.heap.size) :
    Calls Tryd.prog 21 #[.string b] w fun e w' => ∃ g, e = .returned (.tuple #[.nilIface, .iface 42 (.pointer (some ⟨g, 0, none⟩))]) ∧ w.heap.size ≤ g ∧ g < w'.heap.size ∧ w'.cell? ⟨g, 1, none⟩ = some (.iface T x3) ∧ Below w.heap.size w w' := by
  go_enter Tryd.func21, Tryd.ntmps21
  go_wp2_with (go_at_call 24; refine (readHead_yes b 1 c1 _ h e0 e1).mono ?_; rintro e w1 ⟨rfl, hb1⟩; (have hg1 := (hb1.cell (p := ⟨3, 0, none⟩) hlt).trans hg); (have hz1 : 3 < w1.heap.size := Nat.lt_of_lt_of_le hlt hb1.size))
  go_region
  all_goals go_wp2
  all_goals go_ret2
  all_goals exact ⟨w1.heap.size + 1, rfl, by have := hb1.size; omega, by simp, by simp, (below_two hb1).drew⟩
set_option maxHeartbeats 1000000 in
theorem readWord_bad (b : ByteArray) (c1 c10 : UInt8) (T : TypeId) (x4 : Value) (w : World) (h : (b.size : Int) = 11) (e0 : b[0]'(by omega) = 1) (e1 : b[1]'(by omega) = c1) (e10 : b[10]'(by omega) = c10) (hg : w.cell? ⟨4, 0, none⟩ = some (.iface T x4)) (hlt : 4 < w.heap.size) (hq : wordOk (c1.toNat : Int) (rdx b 2 4) (rdx b 4 6) (rdx b 6 10) (c10.toNat : Int) = false) :
    Calls Tryd.prog 21 #[.string b] w fun e w' => ∃ g, e = .returned (.tuple #[.nilIface, .iface 42 (.pointer (some ⟨g, 0, none⟩))]) ∧ w.heap.size ≤ g ∧ g < w'.heap.size ∧ w'.cell? ⟨g, 1, none⟩ = some (.iface T x4) ∧ Below w.heap.size w w' := by
  have hw10 : IntKind.i64.wrap (c10.toNat : Int) = (c10.toNat : Int) := by have := c10.toNat_lt; rw [IntKind.wrap_i64]; omega
  go_enter Tryd.func21, Tryd.ntmps21
  go_wp2_with (go_at_call 24; refine (readHead_yes b 1 c1 _ (by omega) e0 e1).mono ?_; rintro e w1 ⟨rfl, hb1⟩; (have hg1 := (hb1.cell (p := ⟨4, 0, none⟩) hlt).trans hg); (have hz1 : 4 < w1.heap.size := Nat.lt_of_lt_of_le hlt hb1.size))
  go_region_held3 (fun w' => w'.cell? ⟨w1.heap.size, 0, none⟩ = some (.int .i64 (c1.toNat : Int)) ∧ w'.cell? ⟨w1.heap.size, 1, none⟩ = some (.int .i64 (rdx b 2 4)) ∧ w'.cell? ⟨w1.heap.size, 2, none⟩ = some (.int .i64 (rdx b 4 6))) (first | assumption | (simp; done) | go_keep) (first | (go_at_call_of 25 (Value.string (b.extract 6 10)); refine (readNumber_ext b 6 10 _ (by omega)).mono ?_; rintro e w2 ⟨rfl, rfl⟩))
  all_goals
    go_wp2_with (go_at_call 26; refine (wordValid_any _ _ _ _ _ _).mono ?_; rintro e w4 ⟨rfl, hb4⟩; (have hz4 := size_two hb4); (have hg4 := cell_two hb4 hz1 hg1); (have y0 := cell_mid (i := 0) hb4); (have y1 := cell_mid (i := 1) hb4); (have y2 := cell_mid (i := 2) hb4); (have y3 := cell_mid (i := 3) hb4); (have y4 := cell_mid (i := 4) hb4); (simp only [List.getElem?_toArray, List.getElem?_cons_zero, List.getElem?_cons_succ] at y0 y1 y2 y3 y4); simp only [hq])
    go_region
    all_goals go_wp2
    all_goals go_ret2
    all_goals exact ⟨w4.heap.size, rfl, by have := hb1.size; omega, by simp, by simp, ((below_two_on hb1 hb4).alloc (by have := hb1.size; omega) _).drew⟩
set_option maxHeartbeats 1000000 in
theorem readWord_ok (b : ByteArray) (c1 c10 : UInt8) (T : TypeId) (x4 : Value) (w : World) (h : (b.size : Int) = 11) (e0 : b[0]'(by omega) = 1) (e1 : b[1]'(by omega) = c1) (e10 : b[10]'(by omega) = c10) (hg : w.cell? ⟨4, 0, none⟩ = some (.iface T x4)) (hlt : 4 < w.heap.size) (hq : wordOk (c1.toNat : Int) (rdx b 2 4) (rdx b 4 6) (rdx b 6 10) (c10.toNat : Int) = true) :
    Calls Tryd.prog 21 #[.string b] w fun e w' => e = .returned (.tuple #[.iface 49 (.agg #[.int .i64 (c1.toNat : Int), .int .i64 (rdx b 2 4), .int .i64 (rdx b 4 6), .int .i64 (rdx b 6 10), .int .i64 (c10.toNat : Int)]), .nilIface]) ∧ Below w.heap.size w w' := by
  have hw10 : IntKind.i64.wrap (c10.toNat : Int) = (c10.toNat : Int) := by have := c10.toNat_lt; rw [IntKind.wrap_i64]; omega
  go_enter Tryd.func21, Tryd.ntmps21
  go_wp2_with (go_at_call 24; refine (readHead_yes b 1 c1 _ (by omega) e0 e1).mono ?_; rintro e w1 ⟨rfl, hb1⟩; (have hg1 := (hb1.cell (p := ⟨4, 0, none⟩) hlt).trans hg); (have hz1 : 4 < w1.heap.size := Nat.lt_of_lt_of_le hlt hb1.size))
  go_region_held3 (fun w' => w'.cell? ⟨w1.heap.size, 0, none⟩ = some (.int .i64 (c1.toNat : Int)) ∧ w'.cell? ⟨w1.heap.size, 1, none⟩ = some (.int .i64 (rdx b 2 4)) ∧ w'.cell? ⟨w1.heap.size, 2, none⟩ = some (.int .i64 (rdx b 4 6))) (first | assumption | (simp; done) | go_keep) (first | (go_at_call_of 25 (Value.string (b.extract 6 10)); refine (readNumber_ext b 6 10 _ (by omega)).mono ?_; rintro e w2 ⟨rfl, rfl⟩))
  all_goals
    go_wp2_with (go_at_call 26; refine (wordValid_any _ _ _ _ _ _).mono ?_; rintro e w4 ⟨rfl, hb4⟩; (have hz4 := size_two hb4); (have hg4 := cell_two hb4 hz1 hg1); (have y0 := cell_mid (i := 0) hb4); (have y1 := cell_mid (i := 1) hb4); (have y2 := cell_mid (i := 2) hb4); (have y3 := cell_mid (i := 3) hb4); (have y4 := cell_mid (i := 4) hb4); (simp only [List.getElem?_toArray, List.getElem?_cons_zero, List.getElem?_cons_succ] at y0 y1 y2 y3 y4); simp only [hq])
    go_ret2
    exact ⟨rfl, below_two_on hb1 hb4⟩
end Go.Proofs.YtdmlhfbnhhafmabDoor.tag

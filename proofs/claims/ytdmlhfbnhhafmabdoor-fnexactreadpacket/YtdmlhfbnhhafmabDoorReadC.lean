/-
  THE WALKS of ReadPacket, third part: the program's data.
-/
import Derived.Test.YtdmlhfbnhhafmabDoorReadB
namespace Go.Proofs.YtdmlhfbnhhafmabDoor.tag
open Go.RowKit

theorem frozen_mid {w1 w2 : World} {c : Array Value} {t i : Nat} {o : Obj} (hb2 : Below ((w1.alloc o).alloc (.cells c t)).drew.heap.size ((w1.alloc o).alloc (.cells c t)).drew w2) : w2.frozen? ⟨w1.heap.size + 1, i, none⟩ = false :=
  (hb2.frozen (p := ⟨w1.heap.size + 1, i, none⟩) (by show w1.heap.size + 1 < ((w1.alloc o).alloc (.cells c t)).heap.size; simp)).trans (World.frozen?_alloc_at (hn := by simp) ..)
theorem readData_short (b : ByteArray) (c1 : UInt8) (T : TypeId) (x : Value) (w : World) (h : (6 : Int) ≤ (b.size : Int)) (hz : (b.size : Int) < 11) (e0 : b[0]'(by omega) = 2) (e1 : b[1]'(by omega) = c1) (hg : w.cell? ⟨1, 0, none⟩ = some (.iface T x)) (hlt : 1 < w.heap.size) :
    Calls Tryd.prog 23 #[.string b] w fun e w' => ∃ g, e = .returned (.tuple #[.nilIface, .iface 42 (.pointer (some ⟨g, 0, none⟩))]) ∧ w.heap.size ≤ g ∧ g < w'.heap.size ∧ w'.cell? ⟨g, 1, none⟩ = some (.iface T x) ∧ Below w.heap.size w w' := by
  go_enter Tryd.func23, Tryd.ntmps23
  go_wp2_with (go_at_call 24; refine (readHead_yes b 2 c1 _ (by omega) e0 e1).mono ?_; rintro e w1 ⟨rfl, hb1⟩; (have hg1 := (hb1.cell (p := ⟨1, 0, none⟩) hlt).trans hg); (have hz1 : 1 < w1.heap.size := Nat.lt_of_lt_of_le hlt hb1.size))
  go_region
  all_goals go_wp2
  all_goals go_ret2
  all_goals exact ⟨w1.heap.size + 1, rfl, by have := hb1.size; omega, by simp, by simp, (below_two hb1).drew⟩
theorem readData_mark (b : ByteArray) (c1 c10 : UInt8) (T : TypeId) (x : Value) (w : World) (h : (11 : Int) ≤ (b.size : Int)) (e0 : b[0]'(by omega) = 2) (e1 : b[1]'(by omega) = c1) (e10 : b[10]'(by omega) = c10) (hm : (1 : Int) < (c10.toNat : Int)) (hg : w.cell? ⟨6, 0, none⟩ = some (.iface T x)) (hlt : 6 < w.heap.size) :
    Calls Tryd.prog 23 #[.string b] w fun e w' => ∃ g, e = .returned (.tuple #[.nilIface, .iface 42 (.pointer (some ⟨g, 0, none⟩))]) ∧ w.heap.size ≤ g ∧ g < w'.heap.size ∧ w'.cell? ⟨g, 1, none⟩ = some (.iface T x) ∧ Below w.heap.size w w' := by
  go_enter Tryd.func23, Tryd.ntmps23
  go_wp2_with (go_at_call 24; refine (readHead_yes b 2 c1 _ (by omega) e0 e1).mono ?_; rintro e w1 ⟨rfl, hb1⟩; (have hg1 := (hb1.cell (p := ⟨6, 0, none⟩) hlt).trans hg); (have hz1 : 6 < w1.heap.size := Nat.lt_of_lt_of_le hlt hb1.size))
  go_region
  all_goals go_wp2
  all_goals go_ret2
  all_goals exact ⟨w1.heap.size + 1, rfl, by have := hb1.size; omega, by simp, by simp, (below_two hb1).drew⟩
set_option maxHeartbeats 1000000 in
theorem readData_bad (b : ByteArray) (c1 c10 : UInt8) (T : TypeId) (x : Value) (w : World) (h : (11 : Int) ≤ (b.size : Int)) (hbm : b.size ≤ 1048576) (e0 : b[0]'(by omega) = 2) (e1 : b[1]'(by omega) = c1) (e10 : b[10]'(by omega) = c10) (hm : (c10.toNat : Int) ≤ 1) (hg : w.cell? ⟨4, 0, none⟩ = some (.iface T x)) (hlt : 4 < w.heap.size) (hq : dataOk (c1.toNat : Int) (rdx b 2 4) (rdx b 4 6) (rdx b 6 10) (b.extract 11 b.size).size = false) :
    Calls Tryd.prog 23 #[.string b] w fun e w' => ∃ g, e = .returned (.tuple #[.nilIface, .iface 42 (.pointer (some ⟨g, 0, none⟩))]) ∧ w.heap.size ≤ g ∧ g < w'.heap.size ∧ w'.cell? ⟨g, 1, none⟩ = some (.iface T x) ∧ Below w.heap.size w w' := by
  have z5 : (10 : Int) ≤ (b.size : Int) := by omega
  go_enter Tryd.func23, Tryd.ntmps23
  go_wp2_with (go_at_call 24; refine (readHead_yes b 2 c1 _ (by omega) e0 e1).mono ?_; rintro e w1 ⟨rfl, hb1⟩; (have hg1 := (hb1.cell (p := ⟨4, 0, none⟩) hlt).trans hg); (have hz1 : 4 < w1.heap.size := Nat.lt_of_lt_of_le hlt hb1.size))
  go_region_held3 (fun w' => w'.cell? ⟨w1.heap.size, 0, none⟩ = some (.int .i64 (c1.toNat : Int)) ∧ w'.cell? ⟨w1.heap.size, 1, none⟩ = some (.int .i64 (rdx b 2 4)) ∧ w'.cell? ⟨w1.heap.size, 2, none⟩ = some (.int .i64 (rdx b 4 6))) (first | assumption | (simp; done) | go_keep) (first | (go_at_call_of 25 (Value.string (b.extract 6 10)); refine (readNumber_ext b 6 10 _ (by omega)).mono ?_; rintro e w2 ⟨rfl, rfl⟩))
  all_goals
    go_wp2_with (go_at_call 31; refine (dataValid_any _ _ _ _ _ _ _).mono ?_; rintro e w4 ⟨rfl, hb4⟩; (have hz4 := size_two hb4); (have hg4 := cell_two hb4 hz1 hg1); (have y0 := cell_mid (i := 0) hb4); (have y1 := cell_mid (i := 1) hb4); (have y2 := cell_mid (i := 2) hb4); (have y3 := cell_mid (i := 3) hb4); (have y4 := cell_mid (i := 4) hb4); (have y5 := cell_mid (i := 5) hb4); (simp only [List.getElem?_toArray, List.getElem?_cons_zero, List.getElem?_cons_succ] at y0 y1 y2 y3 y4 y5); simp only [hq])
    go_region
    all_goals go_wp2
    all_goals go_ret2
    all_goals exact ⟨w4.heap.size, rfl, by have := hb1.size; omega, by simp, by simp, ((below_two_on hb1 hb4).alloc (by have := hb1.size; omega) _).drew⟩
set_option maxHeartbeats 1000000 in
theorem readData_ok (b : ByteArray) (c1 c10 : UInt8) (T : TypeId) (x : Value) (w : World) (h : (11 : Int) ≤ (b.size : Int)) (hbm : b.size ≤ 1048576) (e0 : b[0]'(by omega) = 2) (e1 : b[1]'(by omega) = c1) (e10 : b[10]'(by omega) = c10) (hm : (c10.toNat : Int) ≤ 1) (hg : w.cell? ⟨4, 0, none⟩ = some (.iface T x)) (hlt : 4 < w.heap.size) (hq : dataOk (c1.toNat : Int) (rdx b 2 4) (rdx b 4 6) (rdx b 6 10) (b.extract 11 b.size).size = true) :
    Calls Tryd.prog 23 #[.string b] w fun e w' => e = .returned (.tuple #[.iface 51 (.agg #[.int .i64 (c1.toNat : Int), .int .i64 (rdx b 2 4), .int .i64 (rdx b 4 6), .int .i64 (rdx b 6 10), .bool ((c10.toNat : Int) == 1), .string (b.extract 11 b.size)]), .nilIface]) ∧ Below w.heap.size w w' := by
  have hpz : (b.extract 11 b.size).size ≤ 1048576 := by rw [ByteArray.size_extract]; omega
  have z5 : (10 : Int) ≤ (b.size : Int) := by omega
  go_enter Tryd.func23, Tryd.ntmps23
  go_wp2_with (go_at_call 24; refine (readHead_yes b 2 c1 _ (by omega) e0 e1).mono ?_; rintro e w1 ⟨rfl, hb1⟩; (have hg1 := (hb1.cell (p := ⟨4, 0, none⟩) hlt).trans hg); (have hz1 : 4 < w1.heap.size := Nat.lt_of_lt_of_le hlt hb1.size))
  go_region_held3 (fun w' => w'.cell? ⟨w1.heap.size, 0, none⟩ = some (.int .i64 (c1.toNat : Int)) ∧ w'.cell? ⟨w1.heap.size, 1, none⟩ = some (.int .i64 (rdx b 2 4)) ∧ w'.cell? ⟨w1.heap.size, 2, none⟩ = some (.int .i64 (rdx b 4 6))) (first | assumption | (simp; done) | go_keep) (first | (go_at_call_of 25 (Value.string (b.extract 6 10)); refine (readNumber_ext b 6 10 _ (by omega)).mono ?_; rintro e w2 ⟨rfl, rfl⟩))
  all_goals
    go_wp2_with (first | (go_at_call 31; refine (dataValid_any _ _ _ _ _ _ _).mono ?_; rintro e w4 ⟨rfl, hb4⟩; (have hz4 := size_two hb4); (have hg4 := cell_two hb4 hz1 hg1); (have y0 := cell_mid (i := 0) hb4); (have y1 := cell_mid (i := 1) hb4); (have y2 := cell_mid (i := 2) hb4); (have y3 := cell_mid (i := 3) hb4); (have y4 := cell_mid (i := 4) hb4); (have y5 := cell_mid (i := 5) hb4); (simp only [List.getElem?_toArray, List.getElem?_cons_zero, List.getElem?_cons_succ] at y0 y1 y2 y3 y4 y5); simp only [hq]) | (go_at_call 32; refine (clone_any _ _ hpz).mono ?_; rintro e w5 ⟨rfl, hb5⟩; (have hlt5 : w1.heap.size + 1 < w4.heap.size := by omega); (have u0 := (hb5.cell (p := ⟨w1.heap.size + 1, 0, none⟩) hlt5).trans y0); (have u1 := (hb5.cell (p := ⟨w1.heap.size + 1, 1, none⟩) hlt5).trans y1); (have u2 := (hb5.cell (p := ⟨w1.heap.size + 1, 2, none⟩) hlt5).trans y2); (have u3 := (hb5.cell (p := ⟨w1.heap.size + 1, 3, none⟩) hlt5).trans y3); (have u4 := (hb5.cell (p := ⟨w1.heap.size + 1, 4, none⟩) hlt5).trans y4); (have u5 := (hb5.cell (p := ⟨w1.heap.size + 1, 5, none⟩) hlt5).trans y5); (have f5 := (hb5.frozen (p := ⟨w1.heap.size + 1, 5, none⟩) hlt5).trans (frozen_mid hb4)); (have hz5 := hb5.size)))
    go_ret2
    exact ⟨rfl, ((below_two_on hb1 hb4).trans (hb5.mono (by have := hb1.size; omega))).setCell (by have := hb1.size; show w.heap.size ≤ w1.heap.size + 1; omega) _⟩
end Go.Proofs.YtdmlhfbnhhafmabDoor.tag

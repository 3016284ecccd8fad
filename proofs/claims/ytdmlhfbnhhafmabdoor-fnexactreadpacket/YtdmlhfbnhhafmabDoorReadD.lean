/-
  THE WALKS of ReadPacket, fourth part: the program's body.
-/
import Derived.Test.YtdmlhfbnhhafmabDoorAsW
namespace Go.Proofs.YtdmlhfbnhhafmabDoor.tag
open Go.RowKit

theorem below_one {w w1 : World} {o : Obj} (hb1 : Below w.heap.size w w1) : Below w.heap.size w (w1.alloc o) := hb1.alloc hb1.size _
theorem readBody_word (b : ByteArray) (l : Value) (w : World) (HW : Hid (Calls Tryd.prog 21 #[.string b] w fun e w' => e = .returned (.tuple #[.iface 49 l, .nilIface]) ∧ Below w.heap.size w w')) :
    Calls Tryd.prog 17 #[.string b] w fun e w' => e = .returned (.tuple #[.iface 49 l, .nilIface]) ∧ Below w.heap.size w w' := by
  go_enter Tryd.func17, Tryd.ntmps17
  go_wp2_with (first | (go_at_call 21; refine HW.out.mono ?_; rintro e w1 ⟨rfl, hb1⟩) | (go_at_call 22; refine (as_nil _ _).mono ?_; rintro e w2 ⟨rfl, rfl⟩))
  go_ret2
  exact ⟨rfl, below_one hb1⟩
theorem readBody_plain (b : ByteArray) (x : Value) (w : World) (hg : w.cell? ⟨5, 0, none⟩ = some (.iface 81 (.agg #[.pointer (some ⟨7, 34, none⟩)]))) (hgl : 5 < w.heap.size) (HW : Hid (Calls Tryd.prog 21 #[.string b] w fun e w' => ∃ g, e = .returned (.tuple #[.nilIface, .iface 42 (.pointer (some ⟨g, 0, none⟩))]) ∧ w.heap.size ≤ g ∧ g < w'.heap.size ∧ w'.cell? ⟨g, 1, none⟩ = some (.iface 96 x) ∧ Below w.heap.size w w')) :
    Calls Tryd.prog 17 #[.string b] w fun e w' => (∃ v, e = .returned (.tuple #[.nilIface, .iface 42 v])) ∧ Below w.heap.size w w' := by
  go_enter Tryd.func17, Tryd.ntmps17
  go_wp2_with (first | (go_at_call 21; refine HW.out.mono ?_; rintro e w1 ⟨g, rfl, hgw, hgz, hgc, hb1⟩) | (go_at_call 22; refine (as_plain g x _ (w1.alloc (.cells #[.pointer none] 57)) ((World.cell?_alloc_past (hn := Nat.lt_of_lt_of_le hgl hb1.size) ..).trans ((hb1.cell (p := ⟨5, 0, none⟩) hgl).trans hg)) (Nat.lt_of_lt_of_le hgl (below_one hb1).size) ((World.cell?_alloc_past (hn := hgz) ..).trans hgc) (by simp; omega)).mono ?_; rintro e w2 ⟨rfl, hb2⟩))
  go_ret2
  exact ⟨⟨_, rfl⟩, ((below_one hb1).trans (hb2.mono (below_one hb1).size)).alloc (Nat.le_trans (below_one hb1).size hb2.size) _⟩
theorem oth1 {w1 W : World} {T : TypeId} {g2 : Nat} (hb2 : Below (w1.alloc (.cells #[.pointer none] T)).heap.size (w1.alloc (.cells #[.pointer none] T)) W) : (W.setCell ⟨w1.heap.size, 0, none⟩ (.pointer (some ⟨g2, 0, none⟩))).cell? ⟨w1.heap.size, 0, none⟩ = some (.pointer (some ⟨g2, 0, none⟩)) :=
  World.cell?_setCell_same (u := .pointer none) (h := (hb2.cell (p := ⟨w1.heap.size, 0, none⟩) (by simp)).trans ((World.cell?_alloc_at (hn := rfl) ..).trans rfl)) ..
theorem oth2 {w1 W : World} {T : TypeId} {g2 : Nat} {v u : Value} (hb2 : Below (w1.alloc (.cells #[.pointer none] T)).heap.size (w1.alloc (.cells #[.pointer none] T)) W) (h : g2 < w1.heap.size) (hc : w1.cell? ⟨g2, 0, none⟩ = some v) : (W.setCell ⟨w1.heap.size, 0, none⟩ u).cell? ⟨g2, 0, none⟩ = some v :=
  (World.cell?_setCell_other (h := fun e => by have := congrArg Addr.block e; simp at this; omega) ..).trans ((hb2.cell (p := ⟨g2, 0, none⟩) (by simp; omega)).trans ((World.cell?_alloc_past (hn := h) ..).trans hc))
theorem oth3 {w w1 W : World} {o : Obj} {u : Value} (hb1 : Below w.heap.size w w1) (hb2 : Below (w1.alloc o).heap.size (w1.alloc o) W) : Below w.heap.size w (W.setCell ⟨w1.heap.size, 0, none⟩ u) :=
  ((below_one hb1).trans (hb2.mono (below_one hb1).size)).setCell hb1.size _
theorem readBody_other (b : ByteArray) (c0 : UInt8) (w : World) (hg : w.cell? ⟨5, 0, none⟩ = some (.iface 81 (.agg #[.pointer (some ⟨7, 34, none⟩)]))) (hgl : 5 < w.heap.size) (HW : Hid (Calls Tryd.prog 21 #[.string b] w fun e w' => ∃ g2, (∃ g, e = .returned (.tuple #[.nilIface, .iface 42 (.pointer (some ⟨g, 0, none⟩))]) ∧ w.heap.size ≤ g ∧ g < w'.heap.size ∧ w'.cell? ⟨g, 1, none⟩ = some (.iface 57 (.pointer (some ⟨g2, 0, none⟩))) ∧ Below w.heap.size w w') ∧ w.heap.size ≤ g2 ∧ g2 < w'.heap.size ∧ w'.cell? ⟨g2, 0, none⟩ = some (.int .i64 (c0.toNat : Int)))) (hk : ((c0.toNat : Int) == 2) = false) :
    Calls Tryd.prog 17 #[.string b] w fun e w' => (∃ v, e = .returned (.tuple #[.nilIface, .iface 42 v])) ∧ Below w.heap.size w w' := by
  go_enter Tryd.func17, Tryd.ntmps17
  go_wp2_with (first | (go_at_call 21; refine HW.out.mono ?_; rintro e w1 ⟨g2, ⟨g, rfl, hgw, hgz, hgc, hb1⟩, hg2w, hg2z, hg2c⟩) | (go_at_call 22; refine (as_other g g2 w1.heap.size (.pointer none) (w1.alloc (.cells #[.pointer none] 57)) ((World.cell?_alloc_past (hn := Nat.lt_of_lt_of_le hgl hb1.size) ..).trans ((hb1.cell (p := ⟨5, 0, none⟩) hgl).trans hg)) (Nat.lt_of_lt_of_le hgl (below_one hb1).size) ((World.cell?_alloc_past (hn := hgz) ..).trans hgc) (by simp; omega) ((World.cell?_alloc_at (hn := rfl) ..).trans rfl) (by simp) (World.frozen?_alloc_at (hn := rfl) ..)).mono ?_; rintro e w2 ⟨rfl, W, hb2, rfl⟩; (have c1 := oth1 (g2 := g2) hb2); (have c2 := oth2 (u := .pointer (some ⟨g2, 0, none⟩)) hb2 hg2z hg2c); (have hbW : Below w.heap.size w (W.setCell ⟨w1.heap.size, 0, none⟩ (.pointer (some ⟨g2, 0, none⟩))) := oth3 hb1 hb2); clear hb2))
  go_ret2
  exact ⟨⟨_, rfl⟩, hbW.alloc hbW.size _⟩
theorem readBody_bad (b : ByteArray) (c0 : UInt8) (w : World) (hg : w.cell? ⟨5, 0, none⟩ = some (.iface 81 (.agg #[.pointer (some ⟨7, 34, none⟩)]))) (hgl : 5 < w.heap.size) (HW : Hid (Calls Tryd.prog 21 #[.string b] w fun e w' => ∃ g2, (∃ g, e = .returned (.tuple #[.nilIface, .iface 42 (.pointer (some ⟨g, 0, none⟩))]) ∧ w.heap.size ≤ g ∧ g < w'.heap.size ∧ w'.cell? ⟨g, 1, none⟩ = some (.iface 57 (.pointer (some ⟨g2, 0, none⟩))) ∧ Below w.heap.size w w') ∧ w.heap.size ≤ g2 ∧ g2 < w'.heap.size ∧ w'.cell? ⟨g2, 0, none⟩ = some (.int .i64 (c0.toNat : Int)))) (hk : (c0.toNat : Int) = 2) (HD : Hid (∀ W, Below w.heap.size w W → Calls Tryd.prog 23 #[.string b] W fun e w' => (∃ v, e = .returned (.tuple #[.nilIface, .iface 42 v])) ∧ Below W.heap.size W w')) :
    Calls Tryd.prog 17 #[.string b] w fun e w' => (∃ v, e = .returned (.tuple #[.nilIface, .iface 42 v])) ∧ Below w.heap.size w w' := by
  go_enter Tryd.func17, Tryd.ntmps17
  go_wp2_with (first | (go_at_call 21; refine HW.out.mono ?_; rintro e w1 ⟨g2, ⟨g, rfl, hgw, hgz, hgc, hb1⟩, hg2w, hg2z, hg2c⟩) | (go_at_call 22; refine (as_other g g2 w1.heap.size (.pointer none) (w1.alloc (.cells #[.pointer none] 57)) ((World.cell?_alloc_past (hn := Nat.lt_of_lt_of_le hgl hb1.size) ..).trans ((hb1.cell (p := ⟨5, 0, none⟩) hgl).trans hg)) (Nat.lt_of_lt_of_le hgl (below_one hb1).size) ((World.cell?_alloc_past (hn := hgz) ..).trans hgc) (by simp; omega) ((World.cell?_alloc_at (hn := rfl) ..).trans rfl) (by simp) (World.frozen?_alloc_at (hn := rfl) ..)).mono ?_; rintro e w2 ⟨rfl, W, hb2, rfl⟩; (have c1 := oth1 (g2 := g2) hb2); (have c2 := oth2 (u := .pointer (some ⟨g2, 0, none⟩)) hb2 hg2z hg2c); (have hbW : Below w.heap.size w (W.setCell ⟨w1.heap.size, 0, none⟩ (.pointer (some ⟨g2, 0, none⟩))) := oth3 hb1 hb2); clear hb2) | (go_at_call 23; refine (HD.out _ hbW).mono ?_; rintro e w3 ⟨⟨v, rfl⟩, hb3⟩))
  go_ret2
  exact ⟨⟨_, rfl⟩, (hbW.trans (hb3.mono hbW.size)).alloc (Nat.le_trans hbW.size hb3.size) _⟩
theorem readBody_data (b : ByteArray) (c0 : UInt8) (w : World) (hg : w.cell? ⟨5, 0, none⟩ = some (.iface 81 (.agg #[.pointer (some ⟨7, 34, none⟩)]))) (hgl : 5 < w.heap.size) (HW : Hid (Calls Tryd.prog 21 #[.string b] w fun e w' => ∃ g2, (∃ g, e = .returned (.tuple #[.nilIface, .iface 42 (.pointer (some ⟨g, 0, none⟩))]) ∧ w.heap.size ≤ g ∧ g < w'.heap.size ∧ w'.cell? ⟨g, 1, none⟩ = some (.iface 57 (.pointer (some ⟨g2, 0, none⟩))) ∧ Below w.heap.size w w') ∧ w.heap.size ≤ g2 ∧ g2 < w'.heap.size ∧ w'.cell? ⟨g2, 0, none⟩ = some (.int .i64 (c0.toNat : Int)))) (l : Value) (hk : (c0.toNat : Int) = 2) (HD : Hid (∀ W, Below w.heap.size w W → Calls Tryd.prog 23 #[.string b] W fun e w' => e = .returned (.tuple #[.iface 51 l, .nilIface]) ∧ Below W.heap.size W w')) :
    Calls Tryd.prog 17 #[.string b] w fun e w' => e = .returned (.tuple #[.iface 51 l, .nilIface]) ∧ Below w.heap.size w w' := by
  go_enter Tryd.func17, Tryd.ntmps17
  go_wp2_with (first | (go_at_call 21; refine HW.out.mono ?_; rintro e w1 ⟨g2, ⟨g, rfl, hgw, hgz, hgc, hb1⟩, hg2w, hg2z, hg2c⟩) | (go_at_call 22; refine (as_other g g2 w1.heap.size (.pointer none) (w1.alloc (.cells #[.pointer none] 57)) ((World.cell?_alloc_past (hn := Nat.lt_of_lt_of_le hgl hb1.size) ..).trans ((hb1.cell (p := ⟨5, 0, none⟩) hgl).trans hg)) (Nat.lt_of_lt_of_le hgl (below_one hb1).size) ((World.cell?_alloc_past (hn := hgz) ..).trans hgc) (by simp; omega) ((World.cell?_alloc_at (hn := rfl) ..).trans rfl) (by simp) (World.frozen?_alloc_at (hn := rfl) ..)).mono ?_; rintro e w2 ⟨rfl, W, hb2, rfl⟩; (have c1 := oth1 (g2 := g2) hb2); (have c2 := oth2 (u := .pointer (some ⟨g2, 0, none⟩)) hb2 hg2z hg2c); (have hbW : Below w.heap.size w (W.setCell ⟨w1.heap.size, 0, none⟩ (.pointer (some ⟨g2, 0, none⟩))) := oth3 hb1 hb2); clear hb2) | (go_at_call 23; refine (HD.out _ hbW).mono ?_; rintro e w3 ⟨rfl, hb3⟩))
  go_ret2
  exact ⟨rfl, hbW.trans (hb3.mono hbW.size)⟩
end Go.Proofs.YtdmlhfbnhhafmabDoor.tag

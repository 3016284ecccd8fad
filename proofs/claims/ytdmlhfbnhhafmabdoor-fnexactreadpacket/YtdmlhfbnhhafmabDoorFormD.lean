/-
  THE WALKS of FormPacket, fourth part: the program's.
-/
import Derived.Test.YtdmlhfbnhhafmabDoorFormC
import Derived.WalkKit
import Derived.WalkSpells
import Derived.WalkLawsBesides
import Derived.Laws.StructEq
import Derived.Laws.ResultCell
import Derived.Deep.RegionHeld3
import Derived.Outline
namespace Go.Proofs.YtdmlhfbnhhafmabDoor.tag
open Go.RowKit


theorem below_box2 {w w1 : World} {o o' : Obj} (hb : Below ((w.alloc o).alloc o').drew.heap.size ((w.alloc o).alloc o').drew w1) : Below w.heap.size w w1 :=
  (((Below.refl _ _).alloc (Nat.le_refl _) _).alloc (by simp) _).drew.trans (hb.mono (by show w.heap.size ≤ ((w.alloc o).alloc o').heap.size; simp; omega))
theorem ta_ww (v : Value) (w : World) : (Instr.typeAssert (.iface 49 v) 32 49 true).run Tryd.prog w = .ok (.tuple #[v, .bool true]) w := by kernel_rfl
theorem ta_dw (v : Value) (w : World) : (Instr.typeAssert (.iface 51 v) 32 49 true).run Tryd.prog w = .ok (.tuple #[.agg #[.int .i64 0, .int .i64 0, .int .i64 0, .int .i64 0, .int .i64 0], .bool false]) w := by kernel_rfl
theorem ta_dd (v : Value) (w : World) : (Instr.typeAssert (.iface 51 v) 32 51 true).run Tryd.prog w = .ok (.tuple #[v, .bool true]) w := by kernel_rfl
theorem me_wv (v : Value) (w : World) : (method 229 49 v "loop.example/kilnwind/impl.valid").run Tryd.prog w = .ok (26, v) w := by kernel_rfl
theorem me_dv (v : Value) (w : World) : (method 229 51 v "loop.example/kilnwind/impl.valid").run Tryd.prog w = .ok (31, v) w := by kernel_rfl
theorem packetOf_word (f m y nx mk : Int) (w : World) :
    Calls Tryd.prog 11 #[.iface 49 (.agg #[.int .i64 f, .int .i64 m, .int .i64 y, .int .i64 nx, .int .i64 mk])] w fun e w' =>
      e = .returned (.agg #[.int .i64 1, .int .i64 f, .int .i64 m, .int .i64 y, .int .i64 nx, .int .i64 mk, .int .i64 0, .bool false, .string ⟨#[]⟩]) ∧ Below w.heap.size w w' := by
  have t1 := ta_ww
  have t2 := ta_dw
  have t3 := ta_dd
  go_enter Tryd.func11, Tryd.ntmps11
  go_wp2
  exact bodyPost_ret (v := .agg #[.int .i64 1, .int .i64 f, .int .i64 m, .int .i64 y, .int .i64 nx, .int .i64 mk, .int .i64 0, .bool false, .string ⟨#[]⟩]) (by simp [results, Tryd.results11, go_sem]) rfl
    ⟨rfl, ((Below.refl _ _).alloc (Nat.le_refl _) _).alloc (by simp) _⟩
theorem packetOf_data (f m y sq : Int) (l : Bool) (p : ByteArray) (w : World) :
    Calls Tryd.prog 11 #[.iface 51 (.agg #[.int .i64 f, .int .i64 m, .int .i64 y, .int .i64 sq, .bool l, .string p])] w fun e w' =>
      e = .returned (.agg #[.int .i64 2, .int .i64 f, .int .i64 m, .int .i64 y, .int .i64 0, .int .i64 0, .int .i64 sq, .bool l, .string p]) ∧ Below w.heap.size w w' := by
  have t1 := ta_ww
  have t2 := ta_dw
  have t3 := ta_dd
  go_enter Tryd.func11, Tryd.ntmps11
  go_wp2
  exact bodyPost_ret (v := .agg #[.int .i64 2, .int .i64 f, .int .i64 m, .int .i64 y, .int .i64 0, .int .i64 0, .int .i64 sq, .bool l, .string p]) (by simp [results, Tryd.results11, go_sem]) rfl
    ⟨rfl, ((Below.refl _ _).alloc (Nat.le_refl _) _).alloc (by simp) _⟩

end Go.Proofs.YtdmlhfbnhhafmabDoor.tag

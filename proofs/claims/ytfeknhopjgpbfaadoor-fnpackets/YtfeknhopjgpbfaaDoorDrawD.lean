/-
  THE DRAWING of a law's inputs, fourth part: a packet spoilt.
-/
import Derived.Test.YtfeknhopjgpbfaaDoorDrawC
namespace Go.Proofs.YtfeknhopjgpbfaaDoor.draw
open Go.RowKit
set_option linter.unusedVariables false

theorem cells9 {B : Nat} {w w1 : World} {T : TypeId} {a0 a1 a2 a3 a4 a5 a6 : Int} {a7 : Bool} {a8 : ByteArray} (hb : But B (w.alloc (.cells #[.int .i64 a0, .int .i64 a1, .int .i64 a2, .int .i64 a3, .int .i64 a4, .int .i64 a5, .int .i64 a6, .bool a7, .string a8] T)) w1) (hB : B < w.heap.size) :
    w1.cell? ⟨w.heap.size, 0, none⟩ = some (.int .i64 a0) ∧ w1.cell? ⟨w.heap.size, 1, none⟩ = some (.int .i64 a1) ∧ w1.cell? ⟨w.heap.size, 2, none⟩ = some (.int .i64 a2) ∧ w1.cell? ⟨w.heap.size, 3, none⟩ = some (.int .i64 a3) ∧ w1.cell? ⟨w.heap.size, 4, none⟩ = some (.int .i64 a4) ∧ w1.cell? ⟨w.heap.size, 5, none⟩ = some (.int .i64 a5) ∧ w1.cell? ⟨w.heap.size, 6, none⟩ = some (.int .i64 a6) ∧ w1.cell? ⟨w.heap.size, 7, none⟩ = some (.bool a7) ∧ w1.cell? ⟨w.heap.size, 8, none⟩ = some (.string a8) :=
  ⟨tab_cell hb hB 0, tab_cell hb hB 1, tab_cell hb hB 2, tab_cell hb hB 3, tab_cell hb hB 4, tab_cell hb hB 5, tab_cell hb hB 6, tab_cell hb hB 7, tab_cell hb hB 8⟩
theorem frozen9 {B : Nat} {w w1 : World} {T : TypeId} {cs : Array Value} (hb : But B (w.alloc (.cells cs T)) w1) (hB : B < w.heap.size) (i : Nat) : w1.frozen? ⟨w.heap.size, i, none⟩ = false := by
  rw [hb.frozen (p := ⟨w.heap.size, i, none⟩) (by simp) (by show w.heap.size ≠ B; omega)]
  simp [go_sem]
end Go.Proofs.YtfeknhopjgpbfaaDoor.draw

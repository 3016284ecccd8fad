/-
  THE DRAWING of a law's inputs, third part: a tag's input, a packet.
-/
import Derived.Test.YtdmlhfbnhhafmaaDrawB
import Derived.Deep.RegionHeld3
namespace Go.Proofs.Ytdmlhfbnhhafmaa.draw
open Go.RowKit
set_option linter.unusedVariables false

def isI : Value → Bool
  | .int .i64 _ => true
  | _ => false
theorem tab_any {B : Nat} {w w1 : World} {T : TypeId} {z : Int} {cs : Array Value} (hb : But B (w.alloc (.cells cs T)) w1) (hB : B < w.heap.size) (h0 : 0 ≤ z) (h1 : z < (cs.size : Int)) (hP : cs.toList.all isI = true) :
    ∃ V, w1.cell? ⟨w.heap.size, z.toNat, none⟩ = some (.int .i64 V) := by
  have hz : z.toNat < cs.size := by omega
  have hq := List.all_eq_true.1 hP cs[z.toNat] (by simp)
  have e : w1.cell? ⟨w.heap.size, z.toNat, none⟩ = some cs[z.toNat] := by rw [tab_cell hb hB]; simp [hz]
  rw [e]
  generalize cs[z.toNat] = v at hq
  unfold isI at hq
  split at hq
  · exact ⟨_, rfl⟩
  · exact absurd hq (by decide)
end Go.Proofs.Ytdmlhfbnhhafmaa.draw

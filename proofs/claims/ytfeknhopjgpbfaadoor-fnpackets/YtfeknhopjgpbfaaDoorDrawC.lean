/-
  THE DRAWING of a law's inputs, third part: a tag's input, a packet.
-/
import Derived.Test.YtfeknhopjgpbfaaDoorDrawB
import Derived.Deep.RegionHeld3
namespace Go.Proofs.YtfeknhopjgpbfaaDoor.draw
open Go.RowKit
set_option linter.unusedVariables false

def isI : Value → Bool
  | .int .i64 _ => true
  | _ => false
theorem tab_any {B : Nat} {w w1 : World} {T : TypeId} {z : Int} {cs : Array Value} (hb : But B (w.alloc (.cells cs T)) w1) (hB : B < w.heap.size) (h0 : 0 ≤ z) (h1 : z < (cs.size : Int)) (hP : cs.toList.all isI = true) :
    ∃ V, w1.cell? ⟨w.heap.size, z.toNat, none⟩ = some (.int .i64 V) := by
  have hz : z.toNat < cs.size := by omega
  have hq := List.all_eq_true.1 hP cs[z.toNat] (by simp)
  have e : w1.cell? ⟨w.heap.size, z.toNat, none⟩ = some cs[z.toNat] := by rw [tab_cell hb hB]; simp [hz]
  rw [e]
  generalize cs[z.toNat] = v at hq
  unfold isI at hq
  split at hq
  · exact ⟨_, rfl⟩
  · exact absurd hq (by decide)
theorem tagIn_any (v : Option Addr) (len cap : Nat) (w : World) (h : Code v len w) (hc : len ≤ cap) (hm : cap ≤ 9223372036854775807) :
    Calls Tryd.prog 15 #[.slice v len cap] w fun e w' => (∃ (b t : ByteArray) (n : Int), e = .returned (.tuple #[.string b, .string t, .int .i64 n]) ∧ t.size ≤ 5000) ∧ Below w.heap.size w w' := by
  go_enter Tryd.func15, Tryd.ntmps15
  go_wp2_with (first
    | (go_at_call 11; refine (open_any v len cap _ h hc hm).mono ?_; rintro e w1 ⟨rfl, hr, hbel⟩; (have hb : But w.heap.size w w1 := But.ofBelow hbel))
    | (go_at_call 29; refine (msg_any _ _ _ hr (by omega)).mono ?_; rintro e w1 ⟨⟨t, rfl, ht⟩, ⟨k, hr1, hk⟩, hb1⟩; replace hr := hr1; replace hb := hb.trans hb1)
    | (go_at_call 30; refine (key_any _ _ _ hr (by omega)).mono ?_; rintro e w1 ⟨⟨t, rfl, ht⟩, hr1, hb1⟩; replace hr := hr1; replace hb := hb.trans hb1)
    | (go_at_call 31; refine (width_any _ _ _ hr (by omega)).mono ?_; rintro e w1 ⟨⟨x, rfl, x0, x1⟩, hr1, hb1⟩; replace hr := hr1; replace hb := hb.trans hb1)
    | (go_at_call_of 13 (Value.int IntKind.i64 10); refine (pick_any _ _ _ _ hr (by omega) (by omega)).mono ?_; rintro e w1 ⟨⟨z, rfl, z0, z1⟩, hr1, hb1⟩; replace hr := hr1; replace hb := hb.trans hb1) | (go_at_call_of 13 (Value.int IntKind.i64 3); refine (pick_any _ _ _ _ (hr.made _) (by omega) (by omega)).mono ?_; rintro e w1 ⟨⟨z, rfl, z0, z1⟩, hr1, hb1⟩; obtain ⟨V, hV⟩ := tab_any hb1 hr.lt z0 z1 (by rfl); replace hr := hr1; replace hb := hb.trans hb1.made) | (go_at_call 28; refine (many_le _ _ _ (by decide) (by omega)).mono ?_; rintro e w0 ⟨⟨t, rfl, ht⟩, hb0⟩; replace hr := hr.keep hb0; replace hb := hb.trans (But.ofBelow hb0)))
  · exact bodyPost_ret (v := .tuple #[.string _, .string t, .int .i64 V]) (by simp [results, Tryd.results15, go_sem]; rfl) rfl ⟨⟨_, t, V, rfl, by omega⟩, hb.below (Nat.le_refl _)⟩
  · exact bodyPost_ret (v := .tuple #[.string _, .string t, .int .i64 x]) (by simp [results, Tryd.results15, go_sem]; rfl) rfl ⟨⟨_, t, x, rfl, by omega⟩, hb.below (Nat.le_refl _)⟩
  · exact bodyPost_ret (v := .tuple #[.string _, .string t, .int .i64 x]) (by simp [results, Tryd.results15, go_sem]; rfl) rfl ⟨⟨_, t, x, rfl, by omega⟩, hb.below (Nat.le_refl _)⟩
end Go.Proofs.YtfeknhopjgpbfaaDoor.draw

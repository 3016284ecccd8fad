/-
  A RING WITH A BIT FOR EACH PLACE: its bits.
-/
import Derived.Test.YteceaadmgpjmcaaBase
namespace Go.Proofs.Yteceaadmgpjmcaa.mk
open Go.RowKit
set_option linter.unusedVariables false

def inB (B k : Nat) : Bool := B / 2 ^ k % 2 == 1
def orB (B k : Nat) : Nat := if inB B k then B else B + 2 ^ k
def offB (B k : Nat) : Nat := if inB B k then B - 2 ^ k else B
/-- turned so that bit r is the lowest -/
def rotB (B r : Nat) : Nat := B / 2 ^ r + B % 2 ^ r * 2 ^ (8 - r)
theorem orB_lt : ∀ (B : Fin 256) (k : Fin 8), orB B.val k.val < 256 := by decide +kernel
theorem offB_lt : ∀ (B : Fin 256) (k : Fin 8), offB B.val k.val < 256 := by decide +kernel
theorem inB_or : ∀ (B : Fin 256) (k j : Fin 8), inB (orB B.val k.val) j.val = (inB B.val j.val || j.val == k.val) := by decide +kernel
theorem inB_off : ∀ (B : Fin 256) (k j : Fin 8), inB (offB B.val k.val) j.val = (inB B.val j.val && j.val != k.val) := by decide +kernel
theorem rot_or : ∀ (B : Fin 256) (k r : Fin 8), inB B.val k.val = false → rotB (orB B.val k.val) r.val = rotB B.val r.val + 2 ^ ((k.val + 8 - r.val) % 8) := by decide +kernel
theorem and_bit : ∀ (B : Fin 256) (k : Fin 8), bits BinOp.and IntKind.u8 ((B.val : Nat) : Int) ((2 ^ k.val : Nat) : Int) = if inB B.val k.val then ((2 ^ k.val : Nat) : Int) else 0 := by decide +kernel
theorem or_bit : ∀ (B : Fin 256) (k : Fin 8), bits BinOp.or IntKind.u8 ((B.val : Nat) : Int) ((2 ^ k.val : Nat) : Int) = ((orB B.val k.val : Nat) : Int) := by decide +kernel
theorem off_bit : ∀ (B : Fin 256) (k : Fin 8), bits BinOp.andNot IntKind.u8 ((B.val : Nat) : Int) ((2 ^ k.val : Nat) : Int) = ((offB B.val k.val : Nat) : Int) := by decide +kernel
theorem eight {r : Nat} (h : r < 8) : r = 0 ∨ r = 1 ∨ r = 2 ∨ r = 3 ∨ r = 4 ∨ r = 5 ∨ r = 6 ∨ r = 7 := by omega
theorem bitOf_any (p : Value) (q : Nat) (w : World) (hq : q ≤ 2000000) :
    Calls Try.prog 98 #[p, .int .i64 q] w fun e w' => e = .returned (.int .u8 ((2 ^ (q % 8) : Nat) : Int)) ∧ w = w' := by
  obtain ⟨r, hr⟩ : ∃ r, r = q % 8 := ⟨_, rfl⟩
  have hr8 : r < 8 := by omega
  have hri : (q : Int) % 8 = (r : Int) := by omega
  rw [← hr]
  clear hr
  rcases eight hr8 with rfl | rfl | rfl | rfl | rfl | rfl | rfl | rfl
  all_goals
    clear hr8
    go_enter Try.func98, Try.ntmps98
    go_wp2
    go_ret
    exact ⟨rfl, rfl⟩
theorem rb0 : ∀ B : Fin 256, bits BinOp.or IntKind.u8 ((B.val : Nat) : Int) (((B.val : Nat) : Int) / 256) = ((rotB B.val 0 : Nat) : Int) := by decide +kernel
theorem rb1 : ∀ B : Fin 256, bits BinOp.or IntKind.u8 (((B.val : Nat) : Int) * 128 % 256) (((B.val : Nat) : Int) / 2) = ((rotB B.val 1 : Nat) : Int) := by decide +kernel
theorem rb2 : ∀ B : Fin 256, bits BinOp.or IntKind.u8 (((B.val : Nat) : Int) * 64 % 256) (((B.val : Nat) : Int) / 4) = ((rotB B.val 2 : Nat) : Int) := by decide +kernel
theorem rb3 : ∀ B : Fin 256, bits BinOp.or IntKind.u8 (((B.val : Nat) : Int) * 32 % 256) (((B.val : Nat) : Int) / 8) = ((rotB B.val 3 : Nat) : Int) := by decide +kernel
theorem rb4 : ∀ B : Fin 256, bits BinOp.or IntKind.u8 (((B.val : Nat) : Int) * 16 % 256) (((B.val : Nat) : Int) / 16) = ((rotB B.val 4 : Nat) : Int) := by decide +kernel
theorem rb5 : ∀ B : Fin 256, bits BinOp.or IntKind.u8 (((B.val : Nat) : Int) * 8 % 256) (((B.val : Nat) : Int) / 32) = ((rotB B.val 5 : Nat) : Int) := by decide +kernel
theorem rb6 : ∀ B : Fin 256, bits BinOp.or IntKind.u8 (((B.val : Nat) : Int) * 4 % 256) (((B.val : Nat) : Int) / 64) = ((rotB B.val 6 : Nat) : Int) := by decide +kernel
theorem rb7 : ∀ B : Fin 256, bits BinOp.or IntKind.u8 (((B.val : Nat) : Int) * 2 % 256) (((B.val : Nat) : Int) / 128) = ((rotB B.val 7 : Nat) : Int) := by decide +kernel
theorem rot_any (B r : Nat) (w : World) (hB : B < 256) (hr8 : r < 8) :
    Calls Try.prog 96 #[.int .u8 B, .int .i64 (-(r : Int))] w fun e w' => e = .returned (.int .u8 (rotB B r : Nat)) ∧ w = w' := by
  rcases eight hr8 with rfl | rfl | rfl | rfl | rfl | rfl | rfl | rfl
  · have ha : bits BinOp.and IntKind.u64 0 7 = 0 := by decide +kernel
    clear hr8
    go_enter Try.func96, Try.ntmps96
    go_wp2
    go_ret
    exact ⟨congrArg (fun z => Ending.returned (Value.int .u8 z)) (rb0 ⟨B, hB⟩), rfl⟩
  · have ha : bits BinOp.and IntKind.u64 (IntKind.u64.wrap (-1)) 7 = 7 := by decide +kernel
    clear hr8
    go_enter Try.func96, Try.ntmps96
    go_wp2
    go_ret
    exact ⟨congrArg (fun z => Ending.returned (Value.int .u8 z)) (rb1 ⟨B, hB⟩), rfl⟩
  · have ha : bits BinOp.and IntKind.u64 (IntKind.u64.wrap (-2)) 7 = 6 := by decide +kernel
    clear hr8
    go_enter Try.func96, Try.ntmps96
    go_wp2
    go_ret
    exact ⟨congrArg (fun z => Ending.returned (Value.int .u8 z)) (rb2 ⟨B, hB⟩), rfl⟩
  · have ha : bits BinOp.and IntKind.u64 (IntKind.u64.wrap (-3)) 7 = 5 := by decide +kernel
    clear hr8
    go_enter Try.func96, Try.ntmps96
    go_wp2
    go_ret
    exact ⟨congrArg (fun z => Ending.returned (Value.int .u8 z)) (rb3 ⟨B, hB⟩), rfl⟩
  · have ha : bits BinOp.and IntKind.u64 (IntKind.u64.wrap (-4)) 7 = 4 := by decide +kernel
    clear hr8
    go_enter Try.func96, Try.ntmps96
    go_wp2
    go_ret
    exact ⟨congrArg (fun z => Ending.returned (Value.int .u8 z)) (rb4 ⟨B, hB⟩), rfl⟩
  · have ha : bits BinOp.and IntKind.u64 (IntKind.u64.wrap (-5)) 7 = 3 := by decide +kernel
    clear hr8
    go_enter Try.func96, Try.ntmps96
    go_wp2
    go_ret
    exact ⟨congrArg (fun z => Ending.returned (Value.int .u8 z)) (rb5 ⟨B, hB⟩), rfl⟩
  · have ha : bits BinOp.and IntKind.u64 (IntKind.u64.wrap (-6)) 7 = 2 := by decide +kernel
    clear hr8
    go_enter Try.func96, Try.ntmps96
    go_wp2
    go_ret
    exact ⟨congrArg (fun z => Ending.returned (Value.int .u8 z)) (rb6 ⟨B, hB⟩), rfl⟩
  · have ha : bits BinOp.and IntKind.u64 (IntKind.u64.wrap (-7)) 7 = 1 := by decide +kernel
    clear hr8
    go_enter Try.func96, Try.ntmps96
    go_wp2
    go_ret
    exact ⟨congrArg (fun z => Ending.returned (Value.int .u8 z)) (rb7 ⟨B, hB⟩), rfl⟩
theorem maskFrom_any (R B q : Nat) (w : World) (hB : B < 256) (hq : q ≤ 2000000) (hc : w.cell? ⟨R, 17, none⟩ = some (.int .u8 (B : Int))) (hrot : rotB B (q % 8) < 256) :
    Calls Try.prog 73 #[.pointer (some ⟨R, 1, none⟩), .int .i64 q] w fun e w' => e = .returned (.int .i64 (rotB B (q % 8) : Nat)) ∧ w = w' := by
  have HR : Hid (∀ u : World, Calls Try.prog 96 #[.int .u8 B, .int .i64 (-((q % 8 : Nat) : Int))] u fun e w' => e = .returned (.int .u8 (rotB B (q % 8) : Nat)) ∧ u = w') := fun u => rot_any B (q % 8) u hB (by omega)
  generalize rotB B (q % 8) = V at *
  go_enter Try.func73, Try.ntmps73
  go_wp2_with (go_at_call 96; refine (HR.out _).mono ?_; rintro e w' ⟨rfl, rfl⟩)
  go_ret
  exact ⟨by simp, rfl⟩
end Go.Proofs.Yteceaadmgpjmcaa.mk

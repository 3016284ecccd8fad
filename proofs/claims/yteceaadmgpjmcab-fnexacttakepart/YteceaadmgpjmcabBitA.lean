/-
  A RING WITH A BIT FOR EACH PLACE: its bits.
-/
import Derived.Test.YteceaadmgpjmcabBase
namespace Go.Proofs.Yteceaadmgpjmcab.mk
open Go.RowKit
set_option linter.unusedVariables false

def inB (B k : Nat) : Bool := B / 2 ^ k % 2 == 1
def orB (B k : Nat) : Nat := if inB B k then B else B + 2 ^ k
def offB (B k : Nat) : Nat := if inB B k then B - 2 ^ k else B
/-- turned so that bit r is the lowest -/
def rotB (B r : Nat) : Nat := B / 2 ^ r + B % 2 ^ r * 2 ^ (8 - r)
theorem orB_lt : ∀ (B : Fin 256) (k : Fin 8), orB B.val k.val < 256 := by decide +kernel
theorem offB_lt : ∀ (B : Fin 256) (k : Fin 8), offB B.val k.val < 256 := by decide +kernel
theorem inB_or : ∀ (B : Fin 256) (k j : Fin 8), inB (orB B.val k.val) j.val = (inB B.val j.val || j.val == k.val) := by decide +kernel
theorem inB_off : ∀ (B : Fin 256) (k j : Fin 8), inB (offB B.val k.val) j.val = (inB B.val j.val && j.val != k.val) := by decide +kernel
theorem rot_or : ∀ (B : Fin 256) (k r : Fin 8), inB B.val k.val = false → rotB (orB B.val k.val) r.val = rotB B.val r.val + 2 ^ ((k.val + 8 - r.val) % 8) := by decide +kernel
theorem and_bit : ∀ (B : Fin 256) (k : Fin 8), bits BinOp.and IntKind.u8 ((B.val : Nat) : Int) ((2 ^ k.val : Nat) : Int) = if inB B.val k.val then ((2 ^ k.val : Nat) : Int) else 0 := by decide +kernel
theorem or_bit : ∀ (B : Fin 256) (k : Fin 8), bits BinOp.or IntKind.u8 ((B.val : Nat) : Int) ((2 ^ k.val : Nat) : Int) = ((orB B.val k.val : Nat) : Int) := by decide +kernel
theorem off_bit : ∀ (B : Fin 256) (k : Fin 8), bits BinOp.andNot IntKind.u8 ((B.val : Nat) : Int) ((2 ^ k.val : Nat) : Int) = ((offB B.val k.val : Nat) : Int) := by decide +kernel
theorem eight {r : Nat} (h : r < 8) : r = 0 ∨ r = 1 ∨ r = 2 ∨ r = 3 ∨ r = 4 ∨ r = 5 ∨ r = 6 ∨ r = 7 := by omega
theorem bitOf_any (p : Value) (q : Nat) (w : World) (hq : q ≤ 2000000) :
    Calls Try.prog 47 #[p, .int .i64 q] w fun e w' => e = .returned (.int .u8 ((2 ^ (q % 8) : Nat) : Int)) ∧ w = w' := by
  obtain ⟨r, hr⟩ : ∃ r, r = q % 8 := ⟨_, rfl⟩
  have hr8 : r < 8 := by omega
  have hri : (q : Int) % 8 = (r : Int) := by omega
  rw [← hr]
  clear hr
  rcases eight hr8 with rfl | rfl | rfl | rfl | rfl | rfl | rfl | rfl
  all_goals
    clear hr8
    go_enter Try.func47, Try.ntmps47
    go_wp2
    go_ret
    exact ⟨rfl, rfl⟩
theorem rb0 : ∀ B : Fin 256, bits BinOp.or IntKind.u8 ((B.val : Nat) : Int) (((B.val : Nat) : Int) / 256) = ((rotB B.val 0 : Nat) : Int) := by decide +kernel
theorem rb1 : ∀ B : Fin 256, bits BinOp.or IntKind.u8 (((B.val : Nat) : Int) * 128 % 256) (((B.val : Nat) : Int) / 2) = ((rotB B.val 1 : Nat) : Int) := by decide +kernel
theorem rb2 : ∀ B : Fin 256, bits BinOp.or IntKind.u8 (((B.val : Nat) : Int) * 64 % 256) (((B.val : Nat) : Int) / 4) = ((rotB B.val 2 : Nat) : Int) := by decide +kernel
theorem rb3 : ∀ B : Fin 256, bits BinOp.or IntKind.u8 (((B.val : Nat) : Int) * 32 % 256) (((B.val : Nat) : Int) / 8) = ((rotB B.val 3 : Nat) : Int) := by decide +kernel
theorem rb4 : ∀ B : Fin 256, bits BinOp.or IntKind.u8 (((B.val : Nat) : Int) * 16 % 256) (((B.val : Nat) : Int) / 16) = ((rotB B.val 4 : Nat) : Int) := by decide +kernel
theorem rb5 : ∀ B : Fin 256, bits BinOp.or IntKind.u8 (((B.val : Nat) : Int) * 8 % 256) (((B.val : Nat) : Int) / 32) = ((rotB B.val 5 : Nat) : Int) := by decide +kernel
theorem rb6 : ∀ B : Fin 256, bits BinOp.or IntKind.u8 (((B.val : Nat) : Int) * 4 % 256) (((B.val : Nat) : Int) / 64) = ((rotB B.val 6 : Nat) : Int) := by decide +kernel
theorem rb7 : ∀ B : Fin 256, bits BinOp.or IntKind.u8 (((B.val : Nat) : Int) * 2 % 256) (((B.val : Nat) : Int) / 128) = ((rotB B.val 7 : Nat) : Int) := by decide +kernel
end Go.Proofs.Yteceaadmgpjmcab.mk

/-
  A RING WITH A BIT FOR EACH PLACE: its bits.
-/
import Derived.Test.YthjncmgjkejikaaGreatBase
namespace Go.Proofs.YthjncmgjkejikaaGreat.mk
open Go.RowKit
set_option linter.unusedVariables false

def inB (B k : Nat) : Bool := B / 2 ^ k % 2 == 1
def orB (B k : Nat) : Nat := if inB B k then B else B + 2 ^ k
def offB (B k : Nat) : Nat := if inB B k then B - 2 ^ k else B
theorem orB_lt : ∀ (B : Fin 256) (k : Fin 8), orB B.val k.val < 256 := by decide +kernel
theorem offB_lt : ∀ (B : Fin 256) (k : Fin 8), offB B.val k.val < 256 := by decide +kernel
theorem inB_or : ∀ (B : Fin 256) (k j : Fin 8), inB (orB B.val k.val) j.val = (inB B.val j.val || j.val == k.val) := by decide +kernel
theorem inB_off : ∀ (B : Fin 256) (k j : Fin 8), inB (offB B.val k.val) j.val = (inB B.val j.val && j.val != k.val) := by decide +kernel
theorem and_bit : ∀ (B : Fin 256) (k : Fin 8), bits BinOp.and IntKind.u8 ((B.val : Nat) : Int) ((2 ^ k.val : Nat) : Int) = if inB B.val k.val then ((2 ^ k.val : Nat) : Int) else 0 := by decide +kernel
theorem or_bit : ∀ (B : Fin 256) (k : Fin 8), bits BinOp.or IntKind.u8 ((B.val : Nat) : Int) ((2 ^ k.val : Nat) : Int) = ((orB B.val k.val : Nat) : Int) := by decide +kernel
theorem off_bit : ∀ (B : Fin 256) (k : Fin 8), bits BinOp.andNot IntKind.u8 ((B.val : Nat) : Int) ((2 ^ k.val : Nat) : Int) = ((offB B.val k.val : Nat) : Int) := by decide +kernel
theorem eight {r : Nat} (h : r < 8) : r = 0 ∨ r = 1 ∨ r = 2 ∨ r = 3 ∨ r = 4 ∨ r = 5 ∨ r = 6 ∨ r = 7 := by omega
theorem bitOf_any (p : Value) (q : Nat) (w : World) (hq : q ≤ 2000000) :
    Calls Tryz.prog 116 #[p, .int .i64 q] w fun e w' => e = .returned (.int .u8 ((2 ^ (q % 8) : Nat) : Int)) ∧ w = w' := by
  obtain ⟨r, hr⟩ : ∃ r, r = q % 8 := ⟨_, rfl⟩
  have hr8 : r < 8 := by omega
  have hri : (q : Int) % 8 = (r : Int) := by omega
  rw [← hr]
  clear hr
  rcases eight hr8 with rfl | rfl | rfl | rfl | rfl | rfl | rfl | rfl
  all_goals
    clear hr8
    go_enter Tryz.func116, Tryz.ntmps116
    go_wp2
    go_ret
    exact ⟨rfl, rfl⟩
end Go.Proofs.YthjncmgjkejikaaGreat.mk

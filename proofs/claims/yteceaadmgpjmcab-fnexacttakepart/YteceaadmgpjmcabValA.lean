/-
  VALID SENDS: spec.ValidSend and impl.ValidSend.
-/
import Derived.Test.YteceaadmgpjmcabBase
namespace Go.Proofs.Yteceaadmgpjmcab.mk
open Go.RowKit
set_option linter.unusedVariables false

def ItOk (i : Nat) (x : It) : Prop := x.text.size ≤ 20 ∧ -1 ≤ x.since ∧ x.since ≤ 3 ∧ (i < 8 ∨ x.since = -1) ∧ (x.has = false ∨ 0 ≤ x.since)
instance (i : Nat) (x : It) : Decidable (ItOk i x) := by unfold ItOk; infer_instance
def HdOk (b : Int) (n : Nat) : Prop := 0 ≤ b ∧ b ≤ 1000000 ∧ n ≤ 60 ∧ b + n ≤ 1000000
instance (b : Int) (n : Nat) : Decidable (HdOk b n) := by unfold HdOk; infer_instance
def SdOk (b : Int) (xs : List It) : Prop := HdOk b xs.length ∧ ∀ i (h : i < xs.length), ItOk i xs[i]
open Classical in
noncomputable def sdOk (b : Int) (xs : List It) : Bool := decide (SdOk b xs)
theorem sdOk_yes {b : Int} {xs : List It} (h : SdOk b xs) : sdOk b xs = true := by simp [sdOk, h]
theorem sdOk_no {b : Int} {xs : List It} (h : ¬ SdOk b xs) : sdOk b xs = false := by simp [sdOk, h]
theorem sdOk_of {b : Int} {xs : List It} (h : sdOk b xs = true) : SdOk b xs := by simpa [sdOk] using h
theorem ret_b {a b : Bool} (h : a = b) : Ending.returned (.bool a) = .returned (.bool b) := by rw [h]
theorem l1In_true (n lo hi : Int) (w : World) (h1 : lo ≤ n) (h2 : n ≤ hi) : Calls Try.prog 33 #[.int .i64 n, .int .i64 lo, .int .i64 hi] w fun e w' => e = .returned (.bool true) ∧ w = w' := by
  go_enter Try.func33, Try.ntmps33
  go_wp2
  go_ret
  exact ⟨ret_b (by simp), rfl⟩
theorem l1In_false (n lo hi : Int) (w : World) (h : n < lo ∨ hi < n) : Calls Try.prog 33 #[.int .i64 n, .int .i64 lo, .int .i64 hi] w fun e w' => e = .returned (.bool false) ∧ w = w' := by
  by_cases h1 : lo ≤ n
  · have h2 : hi < n := by omega
    clear h
    go_enter Try.func33, Try.ntmps33
    go_wp2
    go_ret
    exact ⟨ret_b (by simp; omega), rfl⟩
  · clear h
    go_enter Try.func33, Try.ntmps33
    go_wp2
    go_ret
    exact ⟨ret_b rfl, rfl⟩
theorem within_true (n lo hi : Int) (w : World) (h1 : lo ≤ n) (h2 : n ≤ hi) : Calls Try.prog 36 #[.int .i64 n, .int .i64 lo, .int .i64 hi] w fun e w' => e = .returned (.bool true) ∧ w = w' := by
  go_enter Try.func36, Try.ntmps36
  go_wp2
  go_ret
  exact ⟨ret_b (by simp), rfl⟩
theorem within_false (n lo hi : Int) (w : World) (h : n < lo ∨ hi < n) : Calls Try.prog 36 #[.int .i64 n, .int .i64 lo, .int .i64 hi] w fun e w' => e = .returned (.bool false) ∧ w = w' := by
  by_cases h1 : lo ≤ n
  · have h2 : hi < n := by omega
    clear h
    go_enter Try.func36, Try.ntmps36
    go_wp2
    go_ret
    exact ⟨ret_b (by simp; omega), rfl⟩
  · clear h
    go_enter Try.func36, Try.ntmps36
    go_wp2
    go_ret
    exact ⟨ret_b rfl, rfl⟩
end Go.Proofs.Yteceaadmgpjmcab.mk

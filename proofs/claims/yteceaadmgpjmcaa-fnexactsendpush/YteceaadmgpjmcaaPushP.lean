/-
  PUSHING: what a push makes (plain).
-/
import Derived.Test.YteceaadmgpjmcaaTickP
import Derived.Test.YteceaadmgpjmcaaBase
import Derived.Test.YteceaadmgpjmcaaValB
namespace Go.Proofs.Yteceaadmgpjmcaa.mk
open Go.RowKit
set_option linter.unusedVariables false

theorem below_drewN (w : World) (n : Nat) : Below w.heap.size w (w.drewN n) := ⟨rfl, rfl, rfl, Nat.le_refl _, fun _ _ => rfl⟩
/-- a part that has never been sent -/
def newIt (p : ByteArray × Bool) : It := ⟨p.1, p.2, false, -1⟩
def Full (b n m : Nat) : Prop := 60 < n + m ∨ 1000000 < b + n + m
instance (b n m : Nat) : Decidable (Full b n m) := by unfold Full; infer_instance
open Classical in
noncomputable def pushOf (b : Int) (xs : List It) (s : ByteArray) : Int × List It × Int :=
  if sdOk b xs = true ∧ s.size ≤ 200 then (if Full b.toNat xs.length (cut s).length then (0, [], 3) else (b, xs ++ (cut s).map newIt, 0)) else (0, [], 1)
def PushPost (w : World) (b : Int) (xs : List It) (s : ByteArray) (e : Ending) (w' : World) : Prop :=
  (∃ a1 c1, e = .returned (.tuple #[.agg #[.int .i64 (pushOf b xs s).1, .slice a1 (pushOf b xs s).2.1.length c1], .int .i64 (pushOf b xs s).2.2]) ∧ w'.ownsRow w.heap.size 87 4 (.slice a1 (pushOf b xs s).2.1.length c1) (pushOf b xs s).2.1.length (is (pushOf b xs s).2.1)) ∧ Below w.heap.size w w'
end Go.Proofs.Yteceaadmgpjmcaa.mk

/-
  TICKING: impl.SendTick.
-/
import Derived.Test.YtfjedpnagnnobaaGreatTickA
namespace Go.Proofs.YtfjedpnagnnobaaGreat.mk
open Go.RowKit
set_option linter.unusedVariables false

noncomputable def tickOf (b : Int) (xs : List It) : Int × List It × List Int := if sdOk b xs then (b, tkn (min 8 xs.length) xs, snt b.toNat xs (min 8 xs.length)) else (0, [], [])
def TickPost (w : World) (b : Int) (xs : List It) (e : Ending) (w' : World) : Prop :=
  (∃ a1 c1 a2 c2, e = .returned (.tuple #[.agg #[.int .i64 (tickOf b xs).1, .slice a1 (tickOf b xs).2.1.length c1], .slice a2 (tickOf b xs).2.2.length c2]) ∧ w'.ownsRow w.heap.size 67 4 (.slice a1 (tickOf b xs).2.1.length c1) (tickOf b xs).2.1.length (is (tickOf b xs).2.1) ∧ w'.ownsRow w.heap.size 3 1 (.slice a2 (tickOf b xs).2.2.length c2) (tickOf b xs).2.2.length (ns (tickOf b xs).2.2)) ∧ Below w.heap.size w w'
theorem two_below (w : World) (o p : Obj) : Below w.heap.size w ((w.alloc o).alloc p) := ((Below.refl _ _).alloc (Nat.le_refl _) _).alloc (by simp) _
end Go.Proofs.YtfjedpnagnnobaaGreat.mk

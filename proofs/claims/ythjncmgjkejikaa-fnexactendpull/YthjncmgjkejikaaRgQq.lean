/-
  DROPPING a part in an actor.
-/
import Derived.Test.YthjncmgjkejikaaRgQ
import Derived.Test.YthjncmgjkejikaaRgAq
namespace Go.Proofs.Ythjncmgjkejikaa.mq
open Go.RowKit mk
set_option linter.unusedVariables false

theorem Tn.ne {base b : Nat} {R : Loc} {cs : List Value} {w : World} {sz n : Nat} {v : Value} {xs : List Value} (h : Tn base R cs w) (h' : w.ownsRow b 9 sz v n xs) : some R.blk ≠ v.ownBlock := by
  rcases rows_ne5 h' h.row (Ne.symm h.other.1) with q | q
  · rw [q]; simp
  · intro e; exact q e.symm
set_option maxHeartbeats 1000000 in
theorem drop_in (base : Nat) (R : Loc) (B q : Nat) (cs : List Value) (w : World) (hr : Tn base R cs w) (hB : B < 256) (hq : q ≤ 2000000) (hb : cs[17]? = some (.int .u8 (B : Int))) :
    Calls Try.prog 99 #[.pointer (some ⟨R, 243, none⟩), .int .i64 q] w fun x w' => (∃ v, x = .returned v) ∧ Tn base R (cs.set 17 (.int .u8 ((offB B (q % 8) : Nat) : Int))) w' ∧ w.grownBy w' (some R) := by
  have c2 := (hr.cellAt 17 259 (by omega) (by omega)).trans hb
  have f2 := hr.frozenAt 17 259 (by omega)
  have HB : Hid (∀ u : World, Calls Try.prog 100 #[.pointer (some ⟨R, 243, none⟩), .int .i64 q] u fun e w' => e = .returned (.int .u8 ((2 ^ (q % 8) : Nat) : Int)) ∧ u = w') := fun u => bitOf_any _ q u hq
  have HR : Hid (Tn base R cs w) := hr
  have ho := off_at B (q % 8) hB (by omega)
  clear hr hb
  generalize (2 ^ (q % 8) : Nat) = P at *
  go_enter Try.func99, Try.ntmps99
  go_wp2
  go_region_with (go_at_call 100; refine (HB.out _).mono ?_; rintro e w' ⟨rfl, rfl⟩)
  all_goals go_wp2
  all_goals go_end0
  all_goals exact ⟨⟨_, rfl⟩, (HR.out.putAt 17 259 (by omega) (by omega) _).keep (Below.refl _ _).drew, (grow_set w ⟨R, 259, none⟩ _).trans (grow_below _ (Below.refl _ _).drew)⟩
end Go.Proofs.Ythjncmgjkejikaa.mq

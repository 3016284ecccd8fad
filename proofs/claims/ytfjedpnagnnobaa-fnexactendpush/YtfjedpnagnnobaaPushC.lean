/-
  PUSHING: impl.SendPush.
-/
import Derived.Test.YtfjedpnagnnobaaPushB
namespace Go.Proofs.Ytfjedpnagnnobaa.mk
open Go.RowKit
set_option linter.unusedVariables false

theorem two_c (w : World) (o p : Obj) : Below w.heap.size w ((w.alloc o).alloc p) := ((Below.refl _ _).alloc (Nat.le_refl _) _).alloc (by simp) _
/-- too long: push says so, and does nothing -/
theorem ringPush_no (R : Nat) (s : ByteArray) (w : World) (h : 200 < s.size) (hs : s.size ≤ 1048576) : Calls Try.prog 33 #[.pointer (some ⟨R, 0, none⟩), .string s] w fun e w' => e = .returned (.int .i64 1) ∧ Below w.heap.size w w' := by
  have b0 : Hid (∀ o p : Obj, Below w.heap.size w ((w.alloc o).alloc p)) := two_c w
  go_enter Try.func33, Try.ntmps33
  go_wp2
  exact bodyPost_ret (v := .int .i64 1) (by simp [results, Try.results33, go_sem]) rfl ⟨rfl, b0.out _ _⟩
theorem bx_lower {base : Nat} {u u' : World} {B : Nat} {t : TypeId} {cs : Array Value} (h : Bx u B t cs) (hb : Below base u u') (hlt : B < base) : Bx u' B t cs := (hb.block B hlt).trans h
end Go.Proofs.Ytfjedpnagnnobaa.mk

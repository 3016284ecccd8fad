/-
  DRAWN SENDS: spec.l4Any.
-/
import Derived.Test.YtfeknhopjgpbfaaSdE
import Derived.Test.YtfeknhopjgpbfaaSdS
import Derived.Test.YtfeknhopjgpbfaaSdT
namespace Go.Proofs.Ytfeknhopjgpbfaa.draw
open Go.RowKit mk
set_option linter.unusedVariables false

theorem l4Spoil_any (B : Nat) (k b : Int) (ao : Option Addr) (cap : Nat) (xs : List It) (w : World) (h : Rd B k w) (hkb : k ≤ 800000) (hr : Rs w ao xs.length (is xs)) (hao : ao = none → xs.length = 0 ∧ cap = 0) (hk : Wk b xs) :
    Calls Try.prog 24 #[.pointer (some ⟨B, 0, none⟩), .agg #[.int .i64 b, .slice ao xs.length cap]] w fun e w' => SPost Wl B k 10 w e w' := by
  cases xs with
  | nil => exact l4Spoil_none B k b ao cap w h hkb hr (fun e => (hao e).2) hk
  | cons x xs => exact l4Spoil_some B k b ao cap (x :: xs) w h hkb hr hao hk (by simp)
theorem own_facts {w : World} {base : Nat} {ao : Option Addr} {n cap : Nat} {vs : List Value} (h : w.ownsRow base 37 4 (.slice ao n cap) n vs) : Rs w ao n vs ∧ (ao = none → n = 0 ∧ cap = 0) := by
  refine ⟨?_, ?_⟩
  · obtain ⟨ao', cap', e, _, _, hr⟩ := rs_of_owns h
    cases e
    exact hr
  · rintro rfl
    rcases h.2 with ⟨e, h0⟩ | ⟨g, cap', cur, e, _⟩
    · injection e with _ e2 e3
      exact ⟨e2, e3⟩
    · cases e
theorem any_start {B : Nat} {k1 : Int} {w w1 : World} {b : Int} {ao : Option Addr} {cap : Nat} {xs : List It} (hlt : B < w.heap.size) (hr1 : Rd B k1 w1) (hb1 : But B (w.alloc (.cells #[.int .i64 0, .slice none 0 0] 25)) w1)
    (hrow : w1.ownsRow (w.alloc (.cells #[.int .i64 0, .slice none 0 0] 25)).heap.size 37 4 (.slice ao xs.length cap) xs.length (is xs)) :
    S4 B w.heap.size w1.heap.size k1 w (w1.alloc (.cells #[.int .i64 b, .slice ao xs.length cap] 25)) b ao cap xs := by
  have hsz := hb1.size
  have hR := bx_but (Bx.new w 25 #[.int .i64 0, .slice none 0 0]) hb1 (by omega)
  simp only [World.size_alloc] at hsz hrow
  exact ⟨hr1.made _, (((But.refl B w).alloc _).trans hb1).alloc _, ⟨hlt, Nat.le_refl _, by omega, by omega⟩, Bx.new w1 _ _, hR.alloc _, owns_mono (hrow.alloc _) (by omega)⟩
set_option maxRecDepth 100000 in
set_option maxHeartbeats 1000000 in
theorem l4Any_any (B : Nat) (k : Int) (w : World) (h : Rd B k w) (hkb : k ≤ 700000) :
    Calls Try.prog 12 #[.pointer (some ⟨B, 0, none⟩)] w fun e w' => SPost Wl B k 400 w e w' := by
  have hlt := h.lt
  have R0 : Hid (Rd B k (w.alloc (.cells #[.int .i64 0, .slice none 0 0] 25))) := h.made _
  go_enter Try.func12, Try.ntmps12
  go_wp2_with (first
    | (go_at_call 23; refine (l4Draw_any B k _ R0.out (by omega)).mono ?_; rintro e w1 hpost; unfold SPost at hpost; (obtain ⟨⟨b, ao, cap, xs, rfl, hk, hrow⟩, ⟨k1, hr1, hk1⟩, hb1⟩ := hpost); (have hs := any_start (b := b) hlt hr1 hb1 hrow); clear hr1 hb1 hrow)
    | (go_at_call_of 13 (Value.int IntKind.i64 8); refine (pick_any B _ _ _ hs.rd (by omega) (by omega)).mono ?_; rintro e w2 ⟨⟨z, rfl, z0, z1⟩, hr2, hb2⟩; (replace hs := hs.turn hb2 hr2); clear hr2 hb2; (obtain ⟨p0, p1, q0, q1, r0, r1, g0, g1⟩ := hs.cells); (have ly := hs.bx.lt); (have lR := hs.res.lt))
    | (go_at_call 24; refine (l4Spoil_any B _ b ao cap xs _ hs.rd (by omega) hs.rs hs.nil hk).mono ?_; rintro e w3 hpost; unfold SPost at hpost; (obtain ⟨⟨b3, ao3, cap3, xs3, rfl, hk3, hrow3⟩, ⟨k3, hr3, hkk3⟩, hb3⟩ := hpost); (replace hrow3 := hs.fresh hrow3); (replace hs := hs.turn hb3 hr3); clear hr3 hb3; (clear p0 p1 q0 q1 r0 r1 g0 g1 ly lR); (obtain ⟨p0, p1, q0, q1, r0, r1, g0, g1⟩ := hs.cells); (have ly := hs.bx.lt); (have lR := hs.res.lt)))
  · obtain ⟨F1, F2, F3⟩ := hs.fin (.int .i64 b3) (.slice ao3 xs3.length cap3) hrow3
    exact bodyPost_ret (v := .agg #[.int .i64 b3, .slice ao3 xs3.length cap3]) (by simp [results, Try.results12, go_sem, r0, r1]) rfl (by unfold SPost; exact ⟨⟨b3, ao3, cap3, xs3, rfl, hk3, F3⟩, ⟨_, F1, by omega⟩, F2⟩)
  · obtain ⟨F1, F2, F3⟩ := hs.fin (.int .i64 b) (.slice ao xs.length cap) hs.row
    exact bodyPost_ret (v := .agg #[.int .i64 b, .slice ao xs.length cap]) (by simp [results, Try.results12, go_sem, r0, r1]) rfl (by unfold SPost; exact ⟨⟨b, ao, cap, xs, rfl, hk.wl, F3⟩, ⟨_, F1, by omega⟩, F2⟩)
end Go.Proofs.Ytfeknhopjgpbfaa.draw

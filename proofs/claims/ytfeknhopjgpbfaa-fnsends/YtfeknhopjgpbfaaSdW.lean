/-
  DRAWN SENDS: spec.DrawSendWord.
-/
import Derived.Test.YtfeknhopjgpbfaaSdV
namespace Go.Proofs.Ytfeknhopjgpbfaa.draw
open Go.RowKit mk
set_option linter.unusedVariables false

def WPost (w : World) (e : Ending) (w' : World) : Prop :=
  ∃ (b : Int) (ao : Option Addr) (cap : Nat) (xs : List It) (next mask : Int), e = .returned (.tuple #[.agg #[.int .i64 b, .slice ao xs.length cap], .int .i64 next, .int .i64 mask]) ∧ Wl b xs ∧ w'.ownsRow w.heap.size 37 4 (.slice ao xs.length cap) xs.length (is xs) ∧ Below w.heap.size w w'
set_option maxRecDepth 100000 in
set_option maxHeartbeats 2000000 in
theorem wordIn_any (v : Option Addr) (len cp : Nat) (w : World) (h : Code v len w) (hc : len ≤ cp) (hm : cp ≤ 9223372036854775807) :
    Calls Try.prog 4 #[.slice v len cp] w fun e w' => WPost w e w' := by
  have H0 : Hid (Code v len (w.alloc (.cells #[.int .i64 0, .slice none 0 0] 25))) := h.keep ((Below.refl _ _).alloc (Nat.le_refl _) _)
  obtain ⟨B, hB⟩ : ∃ B, B = (w.alloc (.cells #[.int .i64 0, .slice none 0 0] 25)).heap.size := ⟨_, rfl⟩
  have HB : Hid (B = (w.alloc (.cells #[.int .i64 0, .slice none 0 0] 25)).heap.size) := hB
  have HO : Hid (Calls Try.prog 11 #[.slice v len cp] (w.alloc (.cells #[.int .i64 0, .slice none 0 0] 25)) fun e w' => e = .returned (.pointer (some ⟨B, 0, none⟩)) ∧ Rd B 0 w' ∧ Below (w.alloc (.cells #[.int .i64 0, .slice none 0 0] 25)).heap.size (w.alloc (.cells #[.int .i64 0, .slice none 0 0] 25)) w') := by rw [hB]; exact open_any v len cp _ H0.out hc hm
  clear hB
  go_enter Try.func4, Try.ntmps4
  go_wp2_with (first
    | (go_at_call 11; refine HO.out.mono ?_; rintro e w1 ⟨rfl, hr0, hb0⟩)
    | (go_at_call 12; refine (l4Any_any B _ _ hr0 (by omega)).mono ?_; rintro e w2 hpost; unfold SPost at hpost; (obtain ⟨⟨b, ao, cap, xs, rfl, hk, hrow⟩, ⟨k1, hr1, hk1⟩, hb1⟩ := hpost); (have hs := word_start (b := b) HB.out hr0 hb0 hr1 hb1 hrow); clear hr0 hb0 hr1 hb1 hrow))
  have hbb0 := hk.1
  have hbb1 := hk.2.1
  have hxl := hk.2.2.1
  generalize w2.alloc (.cells #[.int .i64 b, .slice ao xs.length cap] 25) = W at *
  generalize w2.heap.size = y at *
  generalize w.heap.size = R at *
  clear HO H0 HB
  (obtain ⟨p0, p1, r0, r1, g0, g1⟩ := hs.cells)
  (have ly := hs.bx.lt)
  (have lR := hs.res.lt)
  go_region_held3 (fun u => u.cell? ⟨y, 0, none⟩ = some (.int .i64 b)) (first | exact p0 | go_keep) ((go_at_call_of 13 (Value.int IntKind.i64 11); refine (pick_any B _ _ _ hs.drew.rd (by omega) (by omega)).mono ?_; rintro e w3 ⟨⟨n, rfl, n0, n1⟩, hr1, hb1⟩; (have hw1 : IntKind.i64.wrap (b + n) = b + n := (by rw [IntKind.wrap_i64]; omega)); (have hw2 : IntKind.i64.wrap (b + n - 1) = b + n - 1 := (by rw [IntKind.wrap_i64]; omega)); (replace hs := hs.drew.turn hb1 hr1); clear hr1 hb1; (clear p0 p1 r0 r1 g0 g1 ly lR); (obtain ⟨p0, p1, r0, r1, g0, g1⟩ := hs.cells); (have ly := hs.bx.lt); (have lR := hs.res.lt)))
  go_wp2_with (first
    | (go_at_call_of 13 (Value.int IntKind.i64 256); refine (pick_any B _ _ _ (hs).rd (by omega) (by omega)).mono ?_; rintro e w4 ⟨⟨m, rfl, m0, m1⟩, hr1, hb1⟩; (replace hs := (hs).turn hb1 hr1); clear hr1 hb1; (clear p0 p1 r0 r1 g0 g1 ly lR); (obtain ⟨p0, p1, r0, r1, g0, g1⟩ := hs.cells); (have ly := hs.bx.lt); (have lR := hs.res.lt))
    | (go_at_call_of 13 (Value.int IntKind.i64 12); refine (pick_any B _ _ _ (hs).rd (by omega) (by omega)).mono ?_; rintro e w5 ⟨⟨q, rfl, q0, q1⟩, hr1, hb1⟩; (replace hs := (hs).turn hb1 hr1); clear hr1 hb1; (clear p0 p1 r0 r1 g0 g1 ly lR); (obtain ⟨p0, p1, r0, r1, g0, g1⟩ := hs.cells); (have ly := hs.bx.lt); (have lR := hs.res.lt))
    | (go_at_call_of 13 (Value.int IntKind.i64 3); refine (pick_any B _ _ _ (hs.alloc _).rd (by omega) (by omega)).mono ?_; rintro e w6 ⟨⟨z, rfl, z0, z1⟩, hr1, hb1⟩; (obtain ⟨V, hV, v0, v1⟩ := tab_ints (lo := -1) (hi := 511) [-1, 256, 511] hb1 hs.rd.lt z0 z1 (by decide)); (replace hs := (hs.alloc _).turn hb1 hr1); clear hr1 hb1; (clear p0 p1 r0 r1 g0 g1 ly lR); (obtain ⟨p0, p1, r0, r1, g0, g1⟩ := hs.cells); (have ly := hs.bx.lt); (have lR := hs.res.lt)))
  · refine Code.wp_mono ?_ (region8 B R y _ _ w _ b ao cap xs _ _ _ _ _ _ _ _ _ _ _ _ _ _ _ _ _ _ _ _ _ _ _ _ _ _ _ _ _ _ _ _ _ _ _ _ _ _ _ _ _ _ _ _ _ _ _ _ _ _ _ hs hk (by omega))
    intro x a w7 hx
    cases x
    case normal =>
      obtain ⟨x0, x1, x2, x3, x4, x5, x6, x7, x8, x9, x10, x11, x12, x13, x14, x15, x16, x17, x18, V8, rfl, rfl, hs8⟩ := hx
      replace hs := hs8
      clear p0 p1 r0 r1 g0 g1 ly lR
      (obtain ⟨p0, p1, r0, r1, g0, g1⟩ := hs.cells)
      (have ly := hs.bx.lt)
      (have lR := hs.res.lt)
      go_wp2
      (obtain ⟨F1, F2⟩ := hs.fin (.int .i64 b) (.slice ao xs.length cap); exact bodyPost_ret (v := .tuple #[.agg #[.int .i64 b, .slice ao xs.length cap], .int .i64 V8, .int .i64 V]) (by simp [results, Try.results4, go_sem, r0, r1]) rfl ⟨b, ao, cap, xs, _, _, rfl, hk, F2, F1⟩)
    all_goals exact hx.elim
  · (obtain ⟨F1, F2⟩ := hs.fin (.int .i64 b) (.slice ao xs.length cap); exact bodyPost_ret (v := .tuple #[.agg #[.int .i64 b, .slice ao xs.length cap], .int .i64 (b + n - 1), .int .i64 V]) (by simp [results, Try.results4, go_sem, r0, r1]) rfl ⟨b, ao, cap, xs, _, _, rfl, hk, F2, F1⟩)
  · refine Code.wp_mono ?_ (region8 B R y _ _ w _ b ao cap xs _ _ _ _ _ _ _ _ _ _ _ _ _ _ _ _ _ _ _ _ _ _ _ _ _ _ _ _ _ _ _ _ _ _ _ _ _ _ _ _ _ _ _ _ _ _ _ _ _ _ _ hs hk (by omega))
    intro x a w7 hx
    cases x
    case normal =>
      obtain ⟨x0, x1, x2, x3, x4, x5, x6, x7, x8, x9, x10, x11, x12, x13, x14, x15, x16, x17, x18, V8, rfl, rfl, hs8⟩ := hx
      replace hs := hs8
      clear p0 p1 r0 r1 g0 g1 ly lR
      (obtain ⟨p0, p1, r0, r1, g0, g1⟩ := hs.cells)
      (have ly := hs.bx.lt)
      (have lR := hs.res.lt)
      go_wp2
      (obtain ⟨F1, F2⟩ := hs.fin (.int .i64 b) (.slice ao xs.length cap); exact bodyPost_ret (v := .tuple #[.agg #[.int .i64 b, .slice ao xs.length cap], .int .i64 V8, .int .i64 m]) (by simp [results, Try.results4, go_sem, r0, r1]) rfl ⟨b, ao, cap, xs, _, _, rfl, hk, F2, F1⟩)
    all_goals exact hx.elim
  · (obtain ⟨F1, F2⟩ := hs.fin (.int .i64 b) (.slice ao xs.length cap); exact bodyPost_ret (v := .tuple #[.agg #[.int .i64 b, .slice ao xs.length cap], .int .i64 (b + n - 1), .int .i64 m]) (by simp [results, Try.results4, go_sem, r0, r1]) rfl ⟨b, ao, cap, xs, _, _, rfl, hk, F2, F1⟩)
end Go.Proofs.Ytfeknhopjgpbfaa.draw

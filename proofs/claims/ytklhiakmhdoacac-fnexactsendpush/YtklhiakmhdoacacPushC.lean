/-
  PUSHING: impl.SendPush, where it is refused; both.
-/
import Derived.Test.YtklhiakmhdoacacPushB
namespace Go.Proofs.Ytklhiakmhdoacac.mk
open Go.RowKit
set_option linter.unusedVariables false

set_option maxHeartbeats 1000000 in
theorem implPush_no (b : Int) (ao : Option Addr) (cap : Nat) (xs : List It) (s : ByteArray) (w : World) (hm : xs.length ≤ 1048576) (hz : ∀ i (h : i < xs.length), xs[i].text.size ≤ 1048576) (hr : Rs w ao xs.length (is xs)) (hs : s.size ≤ 1048576) (hno : ¬ (sdOk b xs = true ∧ s.size ≤ 200)) :
    Calls Try.prog 9 #[.agg #[.int .i64 b, .slice ao xs.length cap], .string s] w fun e w' => PushPost w b xs s e w' := by
  have HC : Hid (∀ u : World, Rs u ao xs.length (is xs) → Calls Try.prog 25 #[.agg #[.int .i64 b, .slice ao xs.length cap]] u fun e w' => e = .returned (.bool (sdOk b xs)) ∧ Below u.heap.size u w') := fun u h => implValid_any b ao cap xs u hm hz h
  have R2 : Hid (Rs (((w.alloc (.cells #[.int .i64 b, .slice ao xs.length cap] 28)).alloc (.cells #[.int .i64 0, .slice none 0 0] 28)).alloc (.cells #[.int .i64 0] 3)) ao xs.length (is xs)) := hr.keep (three_b _ _ _ _)
  have X1 : Hid (Bx (((w.alloc (.cells #[.int .i64 b, .slice ao xs.length cap] 28)).alloc (.cells #[.int .i64 0, .slice none 0 0] 28)).alloc (.cells #[.int .i64 0] 3)) (w.heap.size + 1) 28 #[.int .i64 0, .slice none 0 0]) := (by have := (Bx.new (w.alloc (.cells #[.int .i64 b, .slice ao xs.length cap] 28)) 28 #[.int .i64 0, .slice none 0 0]).alloc (.cells #[.int .i64 0] 3); rw [World.size_alloc] at this; exact this)
  have X2 : Hid (Bx (((w.alloc (.cells #[.int .i64 b, .slice ao xs.length cap] 28)).alloc (.cells #[.int .i64 0, .slice none 0 0] 28)).alloc (.cells #[.int .i64 0] 3)) (w.heap.size + 1 + 1) 3 #[.int .i64 0]) := (by have := Bx.new ((w.alloc (.cells #[.int .i64 b, .slice ao xs.length cap] 28)).alloc (.cells #[.int .i64 0, .slice none 0 0] 28)) 3 #[.int .i64 0]; simp only [World.size_alloc] at this; exact this)
  have T0 : Hid (pushOf b xs s = (0, [], 1)) := (by rw [pushOf, if_neg hno] : pushOf b xs s = (0, [], 1))
  have BB : Hid (Below w.heap.size w (((w.alloc (.cells #[.int .i64 b, .slice ao xs.length cap] 28)).alloc (.cells #[.int .i64 0, .slice none 0 0] 28)).alloc (.cells #[.int .i64 0] 3))) := three_b _ _ _ _
  clear hz hr
  cases hv : sdOk b xs with
  | false =>
    rw [hv] at HC
    clear hno hv
    go_enter Try.func9, Try.ntmps9
    go_wp2_with (go_at_call 25; refine (HC.out _ R2.out).mono ?_; rintro e w1 ⟨rfl, hb1⟩; (have y0 := (X1.out.keep hb1).cell 0); (have y1 := (X1.out.keep hb1).cell 1); (have y2 := (X2.out.keep hb1).cell 0); (have z0 := (X1.out.keep hb1).frozen 0); (have z1 := (X1.out.keep hb1).frozen 1); (have z2 := (X2.out.keep hb1).frozen 0); simp at y0 y1 y2)
    have B1 := kb BB.out hb1 (Nat.le_refl _)
    refine bodyPost_ret (v := .tuple #[.agg #[.int .i64 0, .slice none 0 0], .int .i64 1]) (by simp [results, Try.results9, go_sem, y0, y1, y2]) rfl ?_; unfold PushPost; rw [T0.out]; exact ⟨⟨none, 0, rfl, World.ownsRow_nil _ _ _ _⟩, ((B1.setCell (p := ⟨w.heap.size + 1, 0, none⟩) (by simp) _).setCell (p := ⟨w.heap.size + 1, 1, none⟩) (by simp) _).setCell (p := ⟨w.heap.size + 1 + 1, 0, none⟩) (by simp; omega) _⟩
  | true =>
    rw [hv] at HC
    have h2 : 200 < s.size := by
      by_cases h : s.size ≤ 200
      · exact absurd ⟨hv, h⟩ hno
      · omega
    clear hno hv
    go_enter Try.func9, Try.ntmps9
    go_wp2_with (go_at_call 25; refine (HC.out _ R2.out).mono ?_; rintro e w1 ⟨rfl, hb1⟩; (have y0 := (X1.out.keep hb1).cell 0); (have y1 := (X1.out.keep hb1).cell 1); (have y2 := (X2.out.keep hb1).cell 0); (have z0 := (X1.out.keep hb1).frozen 0); (have z1 := (X1.out.keep hb1).frozen 1); (have z2 := (X2.out.keep hb1).frozen 0); simp at y0 y1 y2)
    have B1 := kb BB.out hb1 (Nat.le_refl _)
    refine bodyPost_ret (v := .tuple #[.agg #[.int .i64 0, .slice none 0 0], .int .i64 1]) (by simp [results, Try.results9, go_sem, y0, y1, y2]) rfl ?_; unfold PushPost; rw [T0.out]; exact ⟨⟨none, 0, rfl, World.ownsRow_nil _ _ _ _⟩, ((B1.setCell (p := ⟨w.heap.size + 1, 0, none⟩) (by simp) _).setCell (p := ⟨w.heap.size + 1, 1, none⟩) (by simp) _).setCell (p := ⟨w.heap.size + 1 + 1, 0, none⟩) (by simp; omega) _⟩
theorem implPush_any (b : Int) (ao : Option Addr) (cap : Nat) (xs : List It) (s : ByteArray) (w : World) (hm : xs.length ≤ 1048576) (hz : ∀ i (h : i < xs.length), xs[i].text.size ≤ 1048576) (hr : Rs w ao xs.length (is xs)) (hs : s.size ≤ 1048576) :
    Calls Try.prog 9 #[.agg #[.int .i64 b, .slice ao xs.length cap], .string s] w fun e w' => PushPost w b xs s e w' := by
  by_cases h : sdOk b xs = true ∧ s.size ≤ 200
  · obtain ⟨n, rfl⟩ : ∃ n : Nat, b = (n : Int) := ⟨b.toNat, by have := (sdOk_of h.1).1; unfold HdOk at this; omega⟩
    exact implPush_yes n ao cap xs s w hm hz hr h.1 h.2
  · exact implPush_no b ao cap xs s w hm hz hr hs h
end Go.Proofs.Ytklhiakmhdoacac.mk

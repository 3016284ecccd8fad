/-
  TICKING: impl.SendTick.
-/
import Derived.Test.YteceaadmgpjmcaaTickA
namespace Go.Proofs.Yteceaadmgpjmcaa.mk
open Go.RowKit
set_option linter.unusedVariables false

noncomputable def tickOf (b : Int) (xs : List It) : Int × List It × List Int := if sdOk b xs then (b, tkn (min 8 xs.length) xs, snt b.toNat xs (min 8 xs.length)) else (0, [], [])
def TickPost (w : World) (b : Int) (xs : List It) (e : Ending) (w' : World) : Prop :=
  (∃ a1 c1 a2 c2, e = .returned (.tuple #[.agg #[.int .i64 (tickOf b xs).1, .slice a1 (tickOf b xs).2.1.length c1], .slice a2 (tickOf b xs).2.2.length c2]) ∧ w'.ownsRow w.heap.size 87 4 (.slice a1 (tickOf b xs).2.1.length c1) (tickOf b xs).2.1.length (is (tickOf b xs).2.1) ∧ w'.ownsRow w.heap.size 3 1 (.slice a2 (tickOf b xs).2.2.length c2) (tickOf b xs).2.2.length (ns (tickOf b xs).2.2)) ∧ Below w.heap.size w w'
theorem two_below (w : World) (o p : Obj) : Below w.heap.size w ((w.alloc o).alloc p) := ((Below.refl _ _).alloc (Nat.le_refl _) _).alloc (by simp) _
set_option maxHeartbeats 1000000 in
theorem implTick_no (b : Int) (ao : Option Addr) (cap : Nat) (xs : List It) (w : World) (hm : xs.length ≤ 1048576) (hz : ∀ i (h : i < xs.length), xs[i].text.size ≤ 1048576) (hr : Rs w ao xs.length (is xs)) (hv : sdOk b xs = false) :
    Calls Try.prog 31 #[.agg #[.int .i64 b, .slice ao xs.length cap]] w fun e w' => TickPost w b xs e w' := by
  have HC : Hid (∀ u : World, Rs u ao xs.length (is xs) → Calls Try.prog 56 #[.agg #[.int .i64 b, .slice ao xs.length cap]] u fun e w' => e = .returned (.bool false) ∧ Below u.heap.size u w') := fun u h => by have := implValid_any b ao cap xs u hm hz h; rw [hv] at this; exact this
  have R2 : Hid (Rs ((w.alloc (.cells #[.int .i64 b, .slice ao xs.length cap] 38)).alloc (.cells #[.int .i64 0, .slice none 0 0] 38)) ao xs.length (is xs)) := hr.keep (two_below _ _ _)
  have X1 : Hid (Bx ((w.alloc (.cells #[.int .i64 b, .slice ao xs.length cap] 38)).alloc (.cells #[.int .i64 0, .slice none 0 0] 38)) (w.heap.size + 1) 38 #[.int .i64 0, .slice none 0 0]) := (by have := Bx.new (w.alloc (.cells #[.int .i64 b, .slice ao xs.length cap] 38)) 38 #[.int .i64 0, .slice none 0 0]; rw [World.size_alloc] at this; exact this)
  have T0 : Hid (tickOf b xs = (0, [], [])) := (by unfold tickOf; rw [hv]; rfl : tickOf b xs = (0, [], []))
  have BB : Hid (Below w.heap.size w ((w.alloc (.cells #[.int .i64 b, .slice ao xs.length cap] 38)).alloc (.cells #[.int .i64 0, .slice none 0 0] 38))) := two_below _ _ _
  clear hz hr hv
  go_enter Try.func31, Try.ntmps31
  go_wp2_with (go_at_call 56; refine (HC.out _ R2.out).mono ?_; rintro e w1 ⟨rfl, hb1⟩; (have y0 := (X1.out.keep hb1).cell 0); (have y1 := (X1.out.keep hb1).cell 1); (have z0 := (X1.out.keep hb1).frozen 0); (have z1 := (X1.out.keep hb1).frozen 1); simp at y0 y1)
  have B1 := kb BB.out hb1 (Nat.le_refl _)
  refine bodyPost_ret (v := .tuple #[.agg #[.int .i64 0, .slice none 0 0], .slice none 0 0]) (by simp [results, Try.results31, go_sem, y0, y1]) rfl ?_
  unfold TickPost
  rw [T0.out]
  exact ⟨⟨none, 0, none, 0, rfl, World.ownsRow_nil _ _ _ _, World.ownsRow_nil _ _ _ _⟩, (B1.setCell (p := ⟨w.heap.size + 1, 0, none⟩) (by simp) _).setCell (p := ⟨w.heap.size + 1, 1, none⟩) (by simp) _⟩
set_option maxHeartbeats 1000000 in
theorem implTick_yes (b : Nat) (ao : Option Addr) (cap : Nat) (xs : List It) (w : World) (hm : xs.length ≤ 1048576) (hz : ∀ i (h : i < xs.length), xs[i].text.size ≤ 1048576) (hr : Rs w ao xs.length (is xs)) (hv : sdOk (b : Int) xs = true) :
    Calls Try.prog 31 #[.agg #[.int .i64 (b : Int), .slice ao xs.length cap]] w fun e w' => TickPost w (b : Int) xs e w' := by
  have hok := sdOk_of hv
  have hbb : b ≤ 1000000 := by have := hok.1; unfold HdOk at this; omega
  have hnn : xs.length ≤ 60 := by have := hok.1; unfold HdOk at this; omega
  have HC : Hid (∀ u : World, Rs u ao xs.length (is xs) → Calls Try.prog 56 #[.agg #[.int .i64 (b : Int), .slice ao xs.length cap]] u fun e w' => e = .returned (.bool true) ∧ Below u.heap.size u w') := fun u h => by have := implValid_any (b : Int) ao cap xs u hm hz h; rw [hv] at this; exact this
  have HG : Hid (∀ u : World, Rs u ao xs.length (is xs) → Calls Try.prog 57 #[.agg #[.int .i64 (b : Int), .slice ao xs.length cap]] u fun e w' => (∃ (R : Rl) (cs : List Value), e = .returned (.pointer (some ⟨R, 0, none⟩)) ∧ Ring u.heap.size R cs w' ∧ Holds b xs cs) ∧ Below u.heap.size u w') := fun u h => ringOf_any b ao cap xs u hbb hnn hz h
  have hsv : ∀ i (h : i < xs.length), -1 ≤ xs[i].since ∧ xs[i].since ≤ 3 := fun i h => ⟨(hok.2 i h).2.1, (hok.2 i h).2.2.1⟩
  have HSV : Hid (∀ i (h : i < xs.length), -1 ≤ xs[i].since ∧ xs[i].since ≤ 3) := hsv
  have R2 : Hid (Rs (w.alloc (.cells #[.int .i64 (b : Int), .slice ao xs.length cap] 38)|>.alloc (.cells #[.int .i64 0, .slice none 0 0] 38)) ao xs.length (is xs)) := hr.keep (two_below _ _ _)
  have X1 : Hid (Bx ((w.alloc (.cells #[.int .i64 (b : Int), .slice ao xs.length cap] 38)).alloc (.cells #[.int .i64 0, .slice none 0 0] 38)) (w.heap.size + 1) 38 #[.int .i64 0, .slice none 0 0]) := (by have := Bx.new (w.alloc (.cells #[.int .i64 (b : Int), .slice ao xs.length cap] 38)) 38 #[.int .i64 0, .slice none 0 0]; rw [World.size_alloc] at this; exact this)
  have X0 : Hid (Bx ((w.alloc (.cells #[.int .i64 (b : Int), .slice ao xs.length cap] 38)).alloc (.cells #[.int .i64 0, .slice none 0 0] 38)) w.heap.size 38 #[.int .i64 (b : Int), .slice ao xs.length cap]) := (Bx.new w 38 _).alloc _
  have T0 : Hid (tickOf (b : Int) xs = ((b : Int), tkn (min 8 xs.length) xs, snt b xs (min 8 xs.length))) := (by unfold tickOf; rw [hv]; simp : tickOf (b : Int) xs = ((b : Int), tkn (min 8 xs.length) xs, snt b xs (min 8 xs.length)))
  have BB : Hid (Below w.heap.size w ((w.alloc (.cells #[.int .i64 (b : Int), .slice ao xs.length cap] 38)).alloc (.cells #[.int .i64 0, .slice none 0 0] 38))) := two_below _ _ _
  clear hz hr hv hok hsv
  go_enter Try.func31, Try.ntmps31
  go_wp2_with (first
    | (go_at_call 56; refine (HC.out _ R2.out).mono ?_; rintro e w1 ⟨rfl, hb1⟩; (have u0 := (X0.out.keep hb1).cell 0); (have u1 := (X0.out.keep hb1).cell 1); simp at u0 u1)
    | (go_at_call 57; refine (HG.out _ (R2.out.keep hb1)).mono ?_; rintro e w2 ⟨⟨R, cs, rfl, hring, hH⟩, hb2⟩)
    | (go_at_call 65; refine (tick_any _ R b cs xs _ hbb hnn HSV.out hring hH).mono ?_; rintro e w3 ⟨⟨a2, c2, cs3, rfl, ho3, hring3, hH3⟩, hg3⟩)
    | (go_at_call 59; refine (send_any _ R b cs3 _ _ hbb (by rw [tkn_length]; exact hnn) hring3 hH3).mono ?_; rintro e w4 ⟨⟨a1, c1, rfl, ho4⟩, hb4⟩; (have X4 := (((X1.out.keep hb1).keep hb2).kept hg3 (by intro e; have h1 := (X1.out.keep hb1).lt; have h2 := hring.lt.1; injection e; omega)).keep hb4); (have y0 := X4.cell 0); (have y1 := X4.cell 1); (have z0 := X4.frozen 0); (have z1 := X4.frozen 1); simp at y0 y1))
  have s1 := hb1.size
  have s2 := hb2.size
  have s3 := hg3.size
  simp only [World.size_alloc] at s1
  have B2 := kb (kb BB.out hb1 (Nat.le_refl _)) hb2 (Nat.le_refl _)
  have B3 : Below w.heap.size w w3 := B2.grown hg3 B2.size (fun k hk => by cases hk; have := hring.lt; omega)
  have B4 := kb B3 hb4 (Nat.le_refl _)
  have P4 := ownsRow_setCell_below (ownsRow_setCell_below ho4 (a := ⟨w.heap.size + 1, 0, none⟩) (by show w.heap.size + 1 < _; omega) (.int .i64 (b : Int))) (a := ⟨w.heap.size + 1, 1, none⟩) (by show w.heap.size + 1 < _; omega) (.slice a1 (tkn (min 8 xs.length) xs).length c1)
  have P3 := ownsRow_setCell_below (ownsRow_setCell_below (owns_keep ho3 hb4) (a := ⟨w.heap.size + 1, 0, none⟩) (by show w.heap.size + 1 < _; omega) (.int .i64 (b : Int))) (a := ⟨w.heap.size + 1, 1, none⟩) (by show w.heap.size + 1 < _; omega) (.slice a1 (tkn (min 8 xs.length) xs).length c1)
  refine bodyPost_ret (v := .tuple #[.agg #[.int .i64 (b : Int), .slice a1 (tkn (min 8 xs.length) xs).length c1], .slice a2 (snt b xs (min 8 xs.length)).length c2]) (by simp [results, Try.results31, go_sem, y0, y1]) rfl ?_
  unfold TickPost
  rw [T0.out]
  exact ⟨⟨a1, c1, a2, c2, rfl, owns_mono P4 (by omega), owns_mono P3 (by omega)⟩, (B4.setCell (p := ⟨w.heap.size + 1, 0, none⟩) (by simp) _).setCell (p := ⟨w.heap.size + 1, 1, none⟩) (by simp) _⟩
theorem implTick_any (b : Int) (ao : Option Addr) (cap : Nat) (xs : List It) (w : World) (hm : xs.length ≤ 1048576) (hz : ∀ i (h : i < xs.length), xs[i].text.size ≤ 1048576) (hr : Rs w ao xs.length (is xs)) :
    Calls Try.prog 31 #[.agg #[.int .i64 b, .slice ao xs.length cap]] w fun e w' => TickPost w b xs e w' := by
  cases hv : sdOk b xs
  · exact implTick_no b ao cap xs w hm hz hr hv
  · obtain ⟨n, rfl⟩ : ∃ n : Nat, b = (n : Int) := ⟨b.toNat, by have := (sdOk_of hv).1; unfold HdOk at this; omega⟩
    exact implTick_yes n ao cap xs w hm hz hr hv
end Go.Proofs.Yteceaadmgpjmcaa.mk

/-
  MARKS OF NEW WORLDS.
-/
import Derived.Test.YtmliinglojmojaaNwB
import Derived.Test.YtmliinglojmojaaLawW
namespace Go.Proofs.Ytmliinglojmojaa.mk
open Go.RowKit
set_option linter.unusedVariables false

set_option maxHeartbeats 1000000 in
theorem markWorld_nil (base n : Nat) (K : ByteArray) (W : Int) (v : Value) (xs : List Value) (w : World) (hn : n ≤ 1000000) (hown : w.ownsRow base 49 12 v n xs) (hN : NilC n xs) (M : Nat) (hM : M = 1 + n * 9) :
    Calls Try.prog 12 #[.agg #[.string K, .int .i64 W, v, .slice none 0 0, .string ⟨#[]⟩, .slice none 0 0, .slice none 0 0], .int .i64 1] w fun e w' => e = .returned (.int .i64 (M : Int)) ∧ (∃ cs, w'.ownsRow base 49 12 v n cs ∧ Me 1 n cs) ∧ w.grownBy w' v.ownBlock := by
  have X0 : Hid (Bx (w.alloc (.cells #[.string K, .int .i64 W, v, .slice none 0 0, .string ⟨#[]⟩, .slice none 0 0, .slice none 0 0] 26)) w.heap.size 26 #[.string K, .int .i64 W, v, .slice none 0 0, .string ⟨#[]⟩, .slice none 0 0, .slice none 0 0]) := Bx.new w _ _
  have HC : Hid (∀ u : World, u.ownsRow base 49 12 v n xs → Calls Try.prog 39 #[v, .int .i64 1] u fun e w' => e = .returned (.int .i64 (M : Int)) ∧ (∃ cs, w'.ownsRow base 49 12 v n cs ∧ Me 1 n cs) ∧ u.grownBy w' v.ownBlock) := fun u h => by rw [hM]; exact markEndS_nil base v n 1 xs u hn (by omega) (by omega) h hN
  have HO : Hid ((w.alloc (.cells #[.string K, .int .i64 W, v, .slice none 0 0, .string ⟨#[]⟩, .slice none 0 0, .slice none 0 0] 26)).ownsRow base 49 12 v n xs) := hown.alloc _
  have HNE : Hid (some w.heap.size ≠ v.ownBlock) := fun e => by have := (hown.lt _ e.symm).2; omega
  clear hown hM
  go_enter Try.func12, Try.ntmps12
  go_wp2_with (first
    | (go_at_call 39; refine (HC.out _ HO.out).mono ?_; rintro e w1 ⟨rfl, ⟨cs, ho1, hM1⟩, hg1⟩; (have X1 := X0.out.kept hg1 HNE.out); (have x0 := X1.cell 0); (have x1 := X1.cell 1); (have x2 := X1.cell 2); (have x3 := X1.cell 3); (have x4 := X1.cell 4); (have x5 := X1.cell 5); (have x6 := X1.cell 6); simp at x0 x1 x2 x3 x4 x5 x6)
    | (go_at_call 40; refine (markParcelS_nil _ _).mono ?_; rintro e w2 ⟨rfl, hb2⟩; (have X2 := X1.keep hb2); clear x0 x1 x2 x3 x4 x5 x6; (have x0 := X2.cell 0); (have x1 := X2.cell 1); (have x2 := X2.cell 2); (have x3 := X2.cell 3); (have x4 := X2.cell 4); (have x5 := X2.cell 5); (have x6 := X2.cell 6); simp at x0 x1 x2 x3 x4 x5 x6)
    | fail)
  go_wp2_with (first
    | (go_at_call 41; refine (markRecordS_nil _ _).mono ?_; rintro e w3 ⟨rfl, hb3⟩; (have X3 := X2.keep hb3); clear x0 x1 x2 x3 x4 x5 x6; (have x0 := X3.cell 0); (have x1 := X3.cell 1); (have x2 := X3.cell 2); (have x3 := X3.cell 3); (have x4 := X3.cell 4); (have x5 := X3.cell 5); (have x6 := X3.cell 6); simp at x0 x1 x2 x3 x4 x5 x6)
    | fail)
  go_wp2_with (first
    | (go_at_call 41; refine (markRecordS_nil _ _).mono ?_; rintro e w4 ⟨rfl, hb4⟩)
    | fail)
  go_ret
  exact ⟨rfl, ⟨cs, owns_keep (owns_keep (owns_keep ho1 hb2) hb3) hb4, hM1⟩, ((((World.grownBy_alloc w _ _).trans hg1).trans (grow_below _ hb2)).trans (grow_below _ hb3)).trans (grow_below _ hb4)⟩
set_option maxHeartbeats 1000000 in
theorem heldWorld_nil (base n : Nat) (K : ByteArray) (W : Int) (v : Value) (xs : List Value) (w : World) (hn : n ≤ 1000000) (hown : w.ownsRow base 49 12 v n xs) (hN : Me 1 n xs) (M : Nat) (hM : M = 1 + n * 9) :
    Calls Try.prog 13 #[.agg #[.string K, .int .i64 W, v, .slice none 0 0, .string ⟨#[]⟩, .slice none 0 0, .slice none 0 0], .int .i64 1] w fun e w' => e = .returned (.int .i64 (M : Int)) ∧ Below w.heap.size w w' := by
  have X0 : Hid (Bx (w.alloc (.cells #[.string K, .int .i64 W, v, .slice none 0 0, .string ⟨#[]⟩, .slice none 0 0, .slice none 0 0] 26)) w.heap.size 26 #[.string K, .int .i64 W, v, .slice none 0 0, .string ⟨#[]⟩, .slice none 0 0, .slice none 0 0]) := Bx.new w _ _
  have B0 : Hid (Below w.heap.size w (w.alloc (.cells #[.string K, .int .i64 W, v, .slice none 0 0, .string ⟨#[]⟩, .slice none 0 0, .slice none 0 0] 26))) := (Below.refl _ _).alloc (Nat.le_refl _) _
  have HC : Hid (∀ u : World, u.ownsRow base 49 12 v n xs → Calls Try.prog 42 #[v, .int .i64 1] u fun e w' => e = .returned (.int .i64 (M : Int)) ∧ Below u.heap.size u w') := fun u h => by rw [hM]; exact heldEndS_nil base v n 1 xs u hn (by omega) (by omega) h hN
  have HO : Hid ((w.alloc (.cells #[.string K, .int .i64 W, v, .slice none 0 0, .string ⟨#[]⟩, .slice none 0 0, .slice none 0 0] 26)).ownsRow base 49 12 v n xs) := hown.alloc _
  have hM0 : (0 : Int) ≤ (M : Int) := Int.natCast_nonneg M
  clear hown hM
  go_enter Try.func13, Try.ntmps13
  go_wp2_with (first
    | (go_at_call 42; refine (HC.out _ HO.out).mono ?_; rintro e w1 ⟨rfl, hb1⟩; (have X1 := X0.out.keep hb1); (have x0 := X1.cell 0); (have x1 := X1.cell 1); (have x2 := X1.cell 2); (have x3 := X1.cell 3); (have x4 := X1.cell 4); (have x5 := X1.cell 5); (have x6 := X1.cell 6); simp at x0 x1 x2 x3 x4 x5 x6)
    | (go_at_call 43; refine (heldParcelS_nil _ _).mono ?_; rintro e w2 ⟨rfl, hb2⟩; (have X2 := X1.keep hb2); clear x0 x1 x2 x3 x4 x5 x6; (have x0 := X2.cell 0); (have x1 := X2.cell 1); (have x2 := X2.cell 2); (have x3 := X2.cell 3); (have x4 := X2.cell 4); (have x5 := X2.cell 5); (have x6 := X2.cell 6); simp at x0 x1 x2 x3 x4 x5 x6)
    | fail)
  go_wp2_with (first
    | (go_at_call 44; refine (heldRecordS_nil _ _).mono ?_; rintro e w3 ⟨rfl, hb3⟩; (have X3 := X2.keep hb3); clear x0 x1 x2 x3 x4 x5 x6; (have x0 := X3.cell 0); (have x1 := X3.cell 1); (have x2 := X3.cell 2); (have x3 := X3.cell 3); (have x4 := X3.cell 4); (have x5 := X3.cell 5); (have x6 := X3.cell 6); simp at x0 x1 x2 x3 x4 x5 x6)
    | fail)
  go_wp2_with (first
    | (go_at_call 44; refine (heldRecordS_nil _ _).mono ?_; rintro e w4 ⟨rfl, hb4⟩)
    | fail)
  go_ret
  exact ⟨rfl, kb (kb (kb (kb B0.out hb1 (Nat.le_refl _)) hb2 (Nat.le_refl _)) hb3 (Nat.le_refl _)) hb4 (Nat.le_refl _)⟩
/-- new worlds as data: all rows of their ends are nil -/
structure NewW (es : List Ev) : Prop where
  len : es.length ≤ 2
  nil : NilC es.length (evs es)
  no : ∀ i (h : i < es.length), es[i].e.xs = [] ∧ es[i].e.hs = [] ∧ es[i].e.rs = [] ∧ es[i].e.o = ⟨#[]⟩
theorem newOf_is (key : ByteArray) (width : Int) : NewW (newOf key width).2.2 := by
  unfold newOf
  split
  · refine ⟨by simp, ?_, ?_⟩
    · intro i hi
      simp at hi
      rcases (show i = 0 ∨ i = 1 by omega) with rfl | rfl <;> exact ⟨rfl, rfl, rfl⟩
    · intro i hi
      simp at hi
      rcases (show i = 0 ∨ i = 1 by omega) with rfl | rfl <;> exact ⟨rfl, rfl, rfl, rfl⟩
  · exact ⟨by simp, fun i h => absurd h (by simp), fun i h => absurd h (by simp)⟩
theorem NewW.res {u : World} {ao : Option Addr} {es : List Ev} (h : NewW es) (hr : Rs u ao es.length (evs es)) : Rwo u ao es none [] none [] none [] :=
  ⟨⟨hr, fun i hi => by obtain ⟨a, b, c, _⟩ := h.no i hi; exact ⟨⟨.inl (by rw [a]; rfl)⟩, ⟨.inl (by rw [b]; rfl)⟩, ⟨.inl (by rw [c]; rfl)⟩⟩⟩, ⟨.inl rfl⟩, ⟨.inl rfl⟩, ⟨.inl rfl⟩⟩
theorem NewW.sw {key : ByteArray} {es : List Ev} (h : NewW es) (hk : key.size ≤ 2000000) : Sw 2000000 key es [] ⟨#[]⟩ [] [] :=
  ⟨hk, by have := h.len; omega, fun i hi => by obtain ⟨a, b, c, d⟩ := h.no i hi; exact ⟨by rw [a]; simp, fun j hj => by rw [a] at hj; simp at hj, ⟨by rw [b]; simp, fun j hj => by rw [b] at hj; simp at hj, by rw [d]; exact Nat.zero_le _, by rw [c]; simp, fun j hj => by rw [c] at hj; simp at hj⟩⟩, Nat.zero_le _, fun i hi => absurd hi (by simp), Nat.zero_le _, Nat.zero_le _, fun i hi => absurd hi (by simp), Nat.zero_le _, fun i hi => absurd hi (by simp)⟩
theorem eqWorld_new (K : ByteArray) (W : Int) (es : List Ev) (a b : Option Addr) (c d : Nat) (w : World) (hk : K.size ≤ 2000000) (h : NewW es) (ha : Rs w a es.length (evs es)) (hb : Rs w b es.length (evs es)) :
    Calls Try.prog 11 #[.agg #[.string K, .int .i64 W, .slice a es.length c, .slice none 0 0, .string ⟨#[]⟩, .slice none 0 0, .slice none 0 0], .agg #[.string K, .int .i64 W, .slice b es.length d, .slice none 0 0, .string ⟨#[]⟩, .slice none 0 0, .slice none 0 0]] w fun e w' => e = .returned (.bool true) ∧ Below w.heap.size w w' :=
  eqWorld_same K W a c es none 0 [] ⟨#[]⟩ none 0 [] none 0 [] b d es none 0 none 0 none 0 w (h.sw hk) (Same.refl _) (h.res ha) (h.res hb)
end Go.Proofs.Ytmliinglojmojaa.mk

/-
  NEW WORLDS: spec.NewWorld, impl.NewWorld; marks of them.
-/
import Derived.Test.YtmliinglojmojaaNwA
import Derived.Test.YtmliinglojmojaaValA
import Derived.Test.YtmliinglojmojaaWoA
import Derived.Test.YtmliinglojmojaaCloneW
import Derived.Test.YtmliinglojmojaaTagW
namespace Go.Proofs.Ytmliinglojmojaa.mk
open Go.RowKit
set_option linter.unusedVariables false

theorem neEnd_yes (n : Int) (w : World) (h : n = 1 ∨ n = 2) : Calls Try.prog 53 #[.int .i64 n] w fun e w' => e = .returned (.bool true) ∧ w = w' := by
  rcases h with rfl | rfl
  · go_enter Try.func53, Try.ntmps53
    go_wp2
    go_ret
    exact ⟨rfl, rfl⟩
  · go_enter Try.func53, Try.ntmps53
    go_wp2
    go_ret
    exact ⟨rfl, rfl⟩
theorem neEnd_no (n : Int) (w : World) (h1 : ¬ n = 1) (h2 : ¬ n = 2) : Calls Try.prog 53 #[.int .i64 n] w fun e w' => e = .returned (.bool false) ∧ w = w' := by
  go_enter Try.func53, Try.ntmps53
  go_wp2
  go_ret
  exact ⟨mk.ret_b (by simp [h1, h2]), rfl⟩
theorem specNew_yes (n : Int) (w : World) (h : n = 1 ∨ n = 2) : Calls Try.prog 32 #[.int .i64 n] w fun e w' => e = .returned (.agg #[.int .i64 n, .bool true, .int .i64 1, .int .i64 0, .int .i64 0, .bool false, .int .i64 0, .slice none 0 0, .int .i64 0, .slice none 0 0, .string ⟨#[]⟩, .slice none 0 0]) ∧ Below w.heap.size w w' := by
  have HH : Hid (n = 1 ∨ n = 2) := h
  have HC : Hid (∀ u : World, Calls Try.prog 31 #[.int .i64 n, .int .i64 1, .int .i64 2] u fun e w' => e = .returned (.bool true) ∧ u = w') := fun u => mk.l1In_true n 1 2 u (by omega) (by omega)
  clear h HH
  go_enter Try.func32, Try.ntmps32
  go_wp2_with (go_at_call 31; refine (HC.out _).mono ?_; rintro e w1 ⟨rfl, rfl⟩)
  exact bodyPost_ret (v := .agg #[.int .i64 n, .bool true, .int .i64 1, .int .i64 0, .int .i64 0, .bool false, .int .i64 0, .slice none 0 0, .int .i64 0, .slice none 0 0, .string ⟨#[]⟩, .slice none 0 0]) (by simp [results, Try.results32, go_sem]) rfl ⟨rfl, (Below.refl _ _).alloc (Nat.le_refl _) _⟩
theorem specNew_no (n : Int) (w : World) (h : ¬ (n = 1 ∨ n = 2)) : Calls Try.prog 32 #[.int .i64 n] w fun e w' => e = .returned (.agg #[.int .i64 0, .bool false, .int .i64 0, .int .i64 0, .int .i64 0, .bool false, .int .i64 0, .slice none 0 0, .int .i64 0, .slice none 0 0, .string ⟨#[]⟩, .slice none 0 0]) ∧ Below w.heap.size w w' := by
  have HC : Hid (∀ u : World, Calls Try.prog 31 #[.int .i64 n, .int .i64 1, .int .i64 2] u fun e w' => e = .returned (.bool false) ∧ u = w') := fun u => mk.l1In_false n 1 2 u (by omega)
  clear h
  go_enter Try.func32, Try.ntmps32
  go_wp2_with (go_at_call 31; refine (HC.out _).mono ?_; rintro e w1 ⟨rfl, rfl⟩)
  exact bodyPost_ret (v := .agg #[.int .i64 0, .bool false, .int .i64 0, .int .i64 0, .int .i64 0, .bool false, .int .i64 0, .slice none 0 0, .int .i64 0, .slice none 0 0, .string ⟨#[]⟩, .slice none 0 0]) (by simp [results, Try.results32, go_sem]) rfl ⟨rfl, (Below.refl _ _).alloc (Nat.le_refl _) _⟩
theorem implNew_yes (n : Int) (w : World) (h : n = 1 ∨ n = 2) : Calls Try.prog 35 #[.int .i64 n] w fun e w' => e = .returned (.agg #[.int .i64 n, .bool true, .int .i64 1, .int .i64 0, .int .i64 0, .bool false, .int .i64 0, .slice none 0 0, .int .i64 0, .slice none 0 0, .string ⟨#[]⟩, .slice none 0 0]) ∧ Below w.heap.size w w' := by
  have HH : Hid (n = 1 ∨ n = 2) := h
  have HC : Hid (∀ u : World, Calls Try.prog 53 #[.int .i64 n] u fun e w' => e = .returned (.bool true) ∧ u = w') := fun u => neEnd_yes n u h
  clear h HH
  go_enter Try.func35, Try.ntmps35
  go_wp2_with (go_at_call 53; refine (HC.out _).mono ?_; rintro e w1 ⟨rfl, rfl⟩)
  exact bodyPost_ret (v := .agg #[.int .i64 n, .bool true, .int .i64 1, .int .i64 0, .int .i64 0, .bool false, .int .i64 0, .slice none 0 0, .int .i64 0, .slice none 0 0, .string ⟨#[]⟩, .slice none 0 0]) (by simp [results, Try.results35, go_sem]) rfl ⟨rfl, (Below.refl _ _).alloc (Nat.le_refl _) _⟩
theorem implNew_no (n : Int) (w : World) (h : ¬ (n = 1 ∨ n = 2)) : Calls Try.prog 35 #[.int .i64 n] w fun e w' => e = .returned (.agg #[.int .i64 0, .bool false, .int .i64 0, .int .i64 0, .int .i64 0, .bool false, .int .i64 0, .slice none 0 0, .int .i64 0, .slice none 0 0, .string ⟨#[]⟩, .slice none 0 0]) ∧ Below w.heap.size w w' := by
  have HC : Hid (∀ u : World, Calls Try.prog 53 #[.int .i64 n] u fun e w' => e = .returned (.bool false) ∧ u = w') := fun u => neEnd_no n u (by omega) (by omega)
  clear h
  go_enter Try.func35, Try.ntmps35
  go_wp2_with (go_at_call 53; refine (HC.out _).mono ?_; rintro e w1 ⟨rfl, rfl⟩)
  exact bodyPost_ret (v := .agg #[.int .i64 0, .bool false, .int .i64 0, .int .i64 0, .int .i64 0, .bool false, .int .i64 0, .slice none 0 0, .int .i64 0, .slice none 0 0, .string ⟨#[]⟩, .slice none 0 0]) (by simp [results, Try.results35, go_sem]) rfl ⟨rfl, (Below.refl _ _).alloc (Nat.le_refl _) _⟩
def newEv (n : Int) : Ev := ⟨⟨n, true, 1, 0, 0, false, 0, [], 0, [], ⟨#[]⟩, []⟩, none, 0, none, 0, none, 0⟩
/-- two new ends in a block of their own -/
theorem two_new (u : World) (base : Nat) (hb : base ≤ u.heap.size) : (u.alloc (.cells #[.int .i64 1, .bool true, .int .i64 1, .int .i64 0, .int .i64 0, .bool false, .int .i64 0, .slice none 0 0, .int .i64 0, .slice none 0 0, .string ⟨#[]⟩, .slice none 0 0, .int .i64 2, .bool true, .int .i64 1, .int .i64 0, .int .i64 0, .bool false, .int .i64 0, .slice none 0 0, .int .i64 0, .slice none 0 0, .string ⟨#[]⟩, .slice none 0 0] 49)).ownsRow base 49 12 (.slice (some ⟨u.heap.size, 0, none⟩) 2 2) 2 (evs [newEv 1, newEv 2]) :=
  ⟨by rw [evs_length]; rfl, .inr ⟨u.heap.size, 2, _, rfl, hb, heap_alloc_new u _, Nat.le_refl _, by unfold maxLen; omega, by rfl, by rfl⟩⟩
theorem two_new' (u : World) (B base : Nat) (h : u.heap.size = B) (hb : base ≤ B) : (u.alloc (.cells #[.int .i64 1, .bool true, .int .i64 1, .int .i64 0, .int .i64 0, .bool false, .int .i64 0, .slice none 0 0, .int .i64 0, .slice none 0 0, .string ⟨#[]⟩, .slice none 0 0, .int .i64 2, .bool true, .int .i64 1, .int .i64 0, .int .i64 0, .bool false, .int .i64 0, .slice none 0 0, .int .i64 0, .slice none 0 0, .string ⟨#[]⟩, .slice none 0 0] 49)).ownsRow base 49 12 (.slice (some ⟨B, 0, none⟩) 2 2) 2 (evs [newEv 1, newEv 2]) := by
  subst h
  exact two_new u base hb
def newPost (E : ByteArray × Int × List Ev) (w : World) (x : Ending) (w' : World) : Prop := (∃ ao c, x = .returned (.agg #[.string E.1, .int .i64 E.2.1, .slice ao E.2.2.length c, .slice none 0 0, .string ⟨#[]⟩, .slice none 0 0, .slice none 0 0]) ∧ w'.ownsRow w.heap.size 49 12 (.slice ao E.2.2.length c) E.2.2.length (evs E.2.2)) ∧ Below w.heap.size w w'
def newOf (key : ByteArray) (width : Int) : ByteArray × Int × List Ev := if tag.sealOk key.size width then (key, width, [newEv 1, newEv 2]) else (⟨#[]⟩, 0, [])
set_option maxHeartbeats 1000000 in
theorem specNewWorld_yes (key : ByteArray) (width : Int) (w : World) (xs : List Value) (hxs : ∀ (u : World) (B base : Nat), u.heap.size = B → base ≤ B → (u.alloc (.cells #[.int .i64 1, .bool true, .int .i64 1, .int .i64 0, .int .i64 0, .bool false, .int .i64 0, .slice none 0 0, .int .i64 0, .slice none 0 0, .string ⟨#[]⟩, .slice none 0 0, .int .i64 2, .bool true, .int .i64 1, .int .i64 0, .int .i64 0, .bool false, .int .i64 0, .slice none 0 0, .int .i64 0, .slice none 0 0, .string ⟨#[]⟩, .slice none 0 0] 49)).ownsRow base 49 12 (.slice (some ⟨B, 0, none⟩) 2 2) 2 xs) (hk : key.size ≤ 30) (h1 : 1 ≤ width) (h2 : width ≤ 8) :
    Calls Try.prog 9 #[.string key, .int .i64 width] w fun e w' => (∃ g, e = .returned (.agg #[.string key, .int .i64 width, .slice (some ⟨g, 0, none⟩) 2 2, .slice none 0 0, .string ⟨#[]⟩, .slice none 0 0, .slice none 0 0]) ∧ w'.ownsRow w.heap.size 49 12 (.slice (some ⟨g, 0, none⟩) 2 2) 2 xs) ∧ Below w.heap.size w w' := by
  have HXS : Hid (∀ (u : World) (B base : Nat), u.heap.size = B → base ≤ B → (u.alloc (.cells #[.int .i64 1, .bool true, .int .i64 1, .int .i64 0, .int .i64 0, .bool false, .int .i64 0, .slice none 0 0, .int .i64 0, .slice none 0 0, .string ⟨#[]⟩, .slice none 0 0, .int .i64 2, .bool true, .int .i64 1, .int .i64 0, .int .i64 0, .bool false, .int .i64 0, .slice none 0 0, .int .i64 0, .slice none 0 0, .string ⟨#[]⟩, .slice none 0 0] 49)).ownsRow base 49 12 (.slice (some ⟨B, 0, none⟩) 2 2) 2 xs) := hxs
  clear hxs
  have HC : Hid (∀ u : World, Calls Try.prog 31 #[.int .i64 width, .int .i64 1, .int .i64 8] u fun e w' => e = .returned (.bool true) ∧ u = w') := fun u => l1In_true width 1 8 u h1 h2
  have N1 : Hid (∀ u : World, Calls Try.prog 32 #[.int .i64 1] u fun e w' => e = .returned (.agg #[.int .i64 1, .bool true, .int .i64 1, .int .i64 0, .int .i64 0, .bool false, .int .i64 0, .slice none 0 0, .int .i64 0, .slice none 0 0, .string ⟨#[]⟩, .slice none 0 0]) ∧ Below u.heap.size u w') := fun u => specNew_yes 1 u (.inl rfl)
  have N2 : Hid (∀ u : World, Calls Try.prog 32 #[.int .i64 2] u fun e w' => e = .returned (.agg #[.int .i64 2, .bool true, .int .i64 1, .int .i64 0, .int .i64 0, .bool false, .int .i64 0, .slice none 0 0, .int .i64 0, .slice none 0 0, .string ⟨#[]⟩, .slice none 0 0]) ∧ Below u.heap.size u w') := fun u => specNew_yes 2 u (.inr rfl)
  have Z0 : Hid (Bx (w.alloc (.cells #[.string ⟨#[]⟩, .int .i64 0, .slice none 0 0, .slice none 0 0, .string ⟨#[]⟩, .slice none 0 0, .slice none 0 0] 26)) w.heap.size 26 #[.string ⟨#[]⟩, .int .i64 0, .slice none 0 0, .slice none 0 0, .string ⟨#[]⟩, .slice none 0 0, .slice none 0 0]) := Bx.new w _ _
  have B0 : Hid (Below w.heap.size w (w.alloc (.cells #[.string ⟨#[]⟩, .int .i64 0, .slice none 0 0, .slice none 0 0, .string ⟨#[]⟩, .slice none 0 0, .slice none 0 0] 26))) := (Below.refl _ _).alloc (Nat.le_refl _) _
  go_enter Try.func9, Try.ntmps9
  go_wp2_with (first
    | (go_at_call 31; refine (HC.out _).mono ?_; rintro e w' ⟨rfl, rfl⟩)
    | (go_at_call_of 32 (Value.int IntKind.i64 1); refine (N1.out _).mono ?_; rintro e w1 ⟨rfl, hb1⟩)
    | (go_at_call_of 32 (Value.int IntKind.i64 2); refine (N2.out _).mono ?_; rintro e w2 ⟨rfl, hb2⟩; (have Z2 := ((Z0.out).keep hb1).keep hb2); (have lz := Z2.lt); (have y0 := Z2.cell 0); (have y1 := Z2.cell 1); (have y2 := Z2.cell 2); (have y3 := Z2.cell 3); (have y4 := Z2.cell 4); (have y5 := Z2.cell 5); (have y6 := Z2.cell 6); simp at y0 y1 y2 y3 y4 y5 y6; (have u0 := Z2.frozen 0); (have u1 := Z2.frozen 1); (have u2 := Z2.frozen 2); (have u3 := Z2.frozen 3); (have u4 := Z2.frozen 4); (have u5 := Z2.frozen 5); (have u6 := Z2.frozen 6))
    | fail)
  have B2 := kb (kb B0.out hb1 (Nat.le_refl _)) hb2 (Nat.le_refl _)
  have hw : w.heap.size ≤ w2.heap.size := B2.size
  have B3 := (((((((B2.setCell (p := ⟨w.heap.size, 0, none⟩) (Nat.le_refl _) (.string key)).setCell (p := ⟨w.heap.size, 1, none⟩) (Nat.le_refl _) (.int .i64 width)).setCell (p := ⟨w.heap.size, 2, none⟩) (Nat.le_refl _) (.slice (some ⟨w2.heap.size, 0, none⟩) 2 2)).setCell (p := ⟨w.heap.size, 3, none⟩) (Nat.le_refl _) (.slice none 0 0)).setCell (p := ⟨w.heap.size, 4, none⟩) (Nat.le_refl _) (.string ⟨#[]⟩)).setCell (p := ⟨w.heap.size, 5, none⟩) (Nat.le_refl _) (.slice none 0 0)).setCell (p := ⟨w.heap.size, 6, none⟩) (Nat.le_refl _) (.slice none 0 0))
  exact bodyPost_ret (v := .agg #[.string key, .int .i64 width, .slice (some ⟨w2.heap.size, 0, none⟩) 2 2, .slice none 0 0, .string ⟨#[]⟩, .slice none 0 0, .slice none 0 0]) (by simp [results, Try.results9, go_sem, lz, y0, y1, y2, y3, y4, y5, y6]) rfl ⟨⟨w2.heap.size, rfl, HXS.out _ w2.heap.size w.heap.size (by simp) hw⟩, B3.alloc (by simp; omega) _⟩
set_option maxHeartbeats 1000000 in
theorem specNewWorld_no (key : ByteArray) (width : Int) (w : World) (hz : key.size ≤ 1048576) (hs : ¬ (key.size ≤ 30 ∧ 1 ≤ width ∧ width ≤ 8)) :
    Calls Try.prog 9 #[.string key, .int .i64 width] w fun e w' => newPost (⟨#[]⟩, 0, []) w e w' := by
  have B0 : Hid (Below w.heap.size w (w.alloc (.cells #[.string ⟨#[]⟩, .int .i64 0, .slice none 0 0, .slice none 0 0, .string ⟨#[]⟩, .slice none 0 0, .slice none 0 0] 26))) := (Below.refl _ _).alloc (Nat.le_refl _) _
  unfold newPost
  by_cases h1 : 1 ≤ width ∧ width ≤ 8
  · have HC : Hid (∀ u : World, Calls Try.prog 31 #[.int .i64 width, .int .i64 1, .int .i64 8] u fun e w' => e = .returned (.bool true) ∧ u = w') := fun u => l1In_true width 1 8 u h1.1 h1.2
    have h2 : 30 < key.size := by omega
    clear hs
    go_enter Try.func9, Try.ntmps9
    go_wp2_with (first | (go_at_call 31; refine (HC.out _).mono ?_; rintro e w' ⟨rfl, rfl⟩) | fail)
    exact bodyPost_ret (v := .agg #[.string ⟨#[]⟩, .int .i64 0, .slice none 0 0, .slice none 0 0, .string ⟨#[]⟩, .slice none 0 0, .slice none 0 0]) (by simp [results, Try.results9, go_sem]) rfl ⟨⟨none, 0, rfl, World.ownsRow_nil _ _ _ _⟩, B0.out⟩
  · have HC : Hid (∀ u : World, Calls Try.prog 31 #[.int .i64 width, .int .i64 1, .int .i64 8] u fun e w' => e = .returned (.bool false) ∧ u = w') := fun u => l1In_false width 1 8 u (by omega)
    clear hs
    go_enter Try.func9, Try.ntmps9
    go_wp2_with (first | (go_at_call 31; refine (HC.out _).mono ?_; rintro e w' ⟨rfl, rfl⟩) | fail)
    exact bodyPost_ret (v := .agg #[.string ⟨#[]⟩, .int .i64 0, .slice none 0 0, .slice none 0 0, .string ⟨#[]⟩, .slice none 0 0, .slice none 0 0]) (by simp [results, Try.results9, go_sem]) rfl ⟨⟨none, 0, rfl, World.ownsRow_nil _ _ _ _⟩, B0.out⟩
theorem specNewWorld_any (key : ByteArray) (width : Int) (w : World) (hz : key.size ≤ 1048576) :
    Calls Try.prog 9 #[.string key, .int .i64 width] w fun e w' => newPost (newOf key width) w e w' := by
  unfold newOf
  by_cases h : key.size ≤ 30 ∧ 1 ≤ width ∧ width ≤ 8
  · rw [tag.sealOk_mk h]
    refine (specNewWorld_yes key width w _ two_new' h.1 h.2.1 h.2.2).mono ?_
    rintro e w' ⟨⟨g, rfl, ho⟩, hb⟩
    exact ⟨⟨some ⟨g, 0, none⟩, 2, rfl, ho⟩, hb⟩
  · rw [tag.sealOk_no h]
    exact specNewWorld_no key width w hz h
set_option maxHeartbeats 1000000 in
theorem implNewWorld_yes (key : ByteArray) (width : Int) (w : World) (xs : List Value) (hxs : ∀ (u : World) (B base : Nat), u.heap.size = B → base ≤ B → (u.alloc (.cells #[.int .i64 1, .bool true, .int .i64 1, .int .i64 0, .int .i64 0, .bool false, .int .i64 0, .slice none 0 0, .int .i64 0, .slice none 0 0, .string ⟨#[]⟩, .slice none 0 0, .int .i64 2, .bool true, .int .i64 1, .int .i64 0, .int .i64 0, .bool false, .int .i64 0, .slice none 0 0, .int .i64 0, .slice none 0 0, .string ⟨#[]⟩, .slice none 0 0] 49)).ownsRow base 49 12 (.slice (some ⟨B, 0, none⟩) 2 2) 2 xs) (hk : key.size ≤ 30) (h1 : 1 ≤ width) (h2 : width ≤ 8) :
    Calls Try.prog 10 #[.string key, .int .i64 width] w fun e w' => (∃ g, e = .returned (.agg #[.string key, .int .i64 width, .slice (some ⟨g, 0, none⟩) 2 2, .slice none 0 0, .string ⟨#[]⟩, .slice none 0 0, .slice none 0 0]) ∧ w'.ownsRow w.heap.size 49 12 (.slice (some ⟨g, 0, none⟩) 2 2) 2 xs) ∧ Below w.heap.size w w' := by
  have HXS : Hid (∀ (u : World) (B base : Nat), u.heap.size = B → base ≤ B → (u.alloc (.cells #[.int .i64 1, .bool true, .int .i64 1, .int .i64 0, .int .i64 0, .bool false, .int .i64 0, .slice none 0 0, .int .i64 0, .slice none 0 0, .string ⟨#[]⟩, .slice none 0 0, .int .i64 2, .bool true, .int .i64 1, .int .i64 0, .int .i64 0, .bool false, .int .i64 0, .slice none 0 0, .int .i64 0, .slice none 0 0, .string ⟨#[]⟩, .slice none 0 0] 49)).ownsRow base 49 12 (.slice (some ⟨B, 0, none⟩) 2 2) 2 xs) := hxs
  clear hxs
  have HC : Hid (∀ u : World, Calls Try.prog 33 #[.string key, .int .i64 width] u fun e w' => e = .returned (.bool true) ∧ u = w') := fun u => by have := tag.isSeal_any key width u; rw [tag.sealOk_mk ⟨hk, h1, h2⟩] at this; exact this
  have N1 : Hid (∀ u : World, Calls Try.prog 35 #[.int .i64 1] u fun e w' => e = .returned (.agg #[.int .i64 1, .bool true, .int .i64 1, .int .i64 0, .int .i64 0, .bool false, .int .i64 0, .slice none 0 0, .int .i64 0, .slice none 0 0, .string ⟨#[]⟩, .slice none 0 0]) ∧ Below u.heap.size u w') := fun u => implNew_yes 1 u (.inl rfl)
  have N2 : Hid (∀ u : World, Calls Try.prog 35 #[.int .i64 2] u fun e w' => e = .returned (.agg #[.int .i64 2, .bool true, .int .i64 1, .int .i64 0, .int .i64 0, .bool false, .int .i64 0, .slice none 0 0, .int .i64 0, .slice none 0 0, .string ⟨#[]⟩, .slice none 0 0]) ∧ Below u.heap.size u w') := fun u => implNew_yes 2 u (.inr rfl)
  have Z0 : Hid (Bx (w.alloc (.cells #[.string ⟨#[]⟩, .int .i64 0, .slice none 0 0, .slice none 0 0, .string ⟨#[]⟩, .slice none 0 0, .slice none 0 0] 26)) w.heap.size 26 #[.string ⟨#[]⟩, .int .i64 0, .slice none 0 0, .slice none 0 0, .string ⟨#[]⟩, .slice none 0 0, .slice none 0 0]) := Bx.new w _ _
  have B0 : Hid (Below w.heap.size w (w.alloc (.cells #[.string ⟨#[]⟩, .int .i64 0, .slice none 0 0, .slice none 0 0, .string ⟨#[]⟩, .slice none 0 0, .slice none 0 0] 26))) := (Below.refl _ _).alloc (Nat.le_refl _) _
  go_enter Try.func10, Try.ntmps10
  go_wp2_with (first
    | (go_at_call 33; refine (HC.out _).mono ?_; rintro e w' ⟨rfl, rfl⟩)
    | (go_at_call 34; refine (clone_any key _ (by omega)).mono ?_; rintro e w0 ⟨rfl, hb0⟩)
    | (go_at_call_of 35 (Value.int IntKind.i64 1); refine (N1.out _).mono ?_; rintro e w1 ⟨rfl, hb1⟩)
    | (go_at_call_of 35 (Value.int IntKind.i64 2); refine (N2.out _).mono ?_; rintro e w2 ⟨rfl, hb2⟩; (have Z2 := ((Z0.out.keep hb0).keep hb1).keep hb2); (have lz := Z2.lt); (have y0 := Z2.cell 0); (have y1 := Z2.cell 1); (have y2 := Z2.cell 2); (have y3 := Z2.cell 3); (have y4 := Z2.cell 4); (have y5 := Z2.cell 5); (have y6 := Z2.cell 6); simp at y0 y1 y2 y3 y4 y5 y6; (have u0 := Z2.frozen 0); (have u1 := Z2.frozen 1); (have u2 := Z2.frozen 2); (have u3 := Z2.frozen 3); (have u4 := Z2.frozen 4); (have u5 := Z2.frozen 5); (have u6 := Z2.frozen 6))
    | fail)
  have B2 := kb (kb (kb B0.out hb0 (Nat.le_refl _)) hb1 (Nat.le_refl _)) hb2 (Nat.le_refl _)
  have hw : w.heap.size ≤ w2.heap.size := B2.size
  have B3 := (((((((B2.setCell (p := ⟨w.heap.size, 0, none⟩) (Nat.le_refl _) (.string key)).setCell (p := ⟨w.heap.size, 1, none⟩) (Nat.le_refl _) (.int .i64 width)).setCell (p := ⟨w.heap.size, 2, none⟩) (Nat.le_refl _) (.slice (some ⟨w2.heap.size, 0, none⟩) 2 2)).setCell (p := ⟨w.heap.size, 3, none⟩) (Nat.le_refl _) (.slice none 0 0)).setCell (p := ⟨w.heap.size, 4, none⟩) (Nat.le_refl _) (.string ⟨#[]⟩)).setCell (p := ⟨w.heap.size, 5, none⟩) (Nat.le_refl _) (.slice none 0 0)).setCell (p := ⟨w.heap.size, 6, none⟩) (Nat.le_refl _) (.slice none 0 0))
  exact bodyPost_ret (v := .agg #[.string key, .int .i64 width, .slice (some ⟨w2.heap.size, 0, none⟩) 2 2, .slice none 0 0, .string ⟨#[]⟩, .slice none 0 0, .slice none 0 0]) (by simp [results, Try.results10, go_sem, lz, y0, y1, y2, y3, y4, y5, y6]) rfl ⟨⟨w2.heap.size, rfl, HXS.out _ w2.heap.size w.heap.size (by simp) hw⟩, B3.alloc (by simp; omega) _⟩
set_option maxHeartbeats 1000000 in
theorem implNewWorld_no (key : ByteArray) (width : Int) (w : World) (hz : key.size ≤ 1048576) (hs : ¬ (key.size ≤ 30 ∧ 1 ≤ width ∧ width ≤ 8)) :
    Calls Try.prog 10 #[.string key, .int .i64 width] w fun e w' => newPost (⟨#[]⟩, 0, []) w e w' := by
  have B0 : Hid (Below w.heap.size w (w.alloc (.cells #[.string ⟨#[]⟩, .int .i64 0, .slice none 0 0, .slice none 0 0, .string ⟨#[]⟩, .slice none 0 0, .slice none 0 0] 26))) := (Below.refl _ _).alloc (Nat.le_refl _) _
  unfold newPost
  have HC : Hid (∀ u : World, Calls Try.prog 33 #[.string key, .int .i64 width] u fun e w' => e = .returned (.bool false) ∧ u = w') := fun u => by have := tag.isSeal_any key width u; rw [tag.sealOk_no (by omega)] at this; exact this
  clear hs
  go_enter Try.func10, Try.ntmps10
  go_wp2_with (first | (go_at_call 33; refine (HC.out _).mono ?_; rintro e w' ⟨rfl, rfl⟩) | fail)
  exact bodyPost_ret (v := .agg #[.string ⟨#[]⟩, .int .i64 0, .slice none 0 0, .slice none 0 0, .string ⟨#[]⟩, .slice none 0 0, .slice none 0 0]) (by simp [results, Try.results10, go_sem]) rfl ⟨⟨none, 0, rfl, World.ownsRow_nil _ _ _ _⟩, B0.out⟩
theorem implNewWorld_any (key : ByteArray) (width : Int) (w : World) (hz : key.size ≤ 1048576) :
    Calls Try.prog 10 #[.string key, .int .i64 width] w fun e w' => newPost (newOf key width) w e w' := by
  unfold newOf
  by_cases h : key.size ≤ 30 ∧ 1 ≤ width ∧ width ≤ 8
  · rw [tag.sealOk_mk h]
    refine (implNewWorld_yes key width w _ two_new' h.1 h.2.1 h.2.2).mono ?_
    rintro e w' ⟨⟨g, rfl, ho⟩, hb⟩
    exact ⟨⟨some ⟨g, 0, none⟩, 2, rfl, ho⟩, hb⟩
  · rw [tag.sealOk_no h]
    exact implNewWorld_no key width w hz h
end Go.Proofs.Ytmliinglojmojaa.mk

/-
  VALID TAKES: what is said of one held part; the small functions.
-/
import Derived.Test.YtmliinglojmojabValA
import Derived.Test.YtmliinglojmojabBase
namespace Go.Proofs.Ytmliinglojmojab.mk
open Go.RowKit
set_option linter.unusedVariables false

/-- can a part be taken in -/
def CanIn (o : ByteArray) (nr : Nat) (s : ByteArray) (l : Bool) : Prop := o.size + s.size ≤ 200 ∧ (l = false ∨ nr < 4)
instance (o : ByteArray) (nr : Nat) (s : ByteArray) (l : Bool) : Decidable (CanIn o nr s l) := by unfold CanIn; infer_instance
def NearIn (nx q : Int) : Prop := nx ≤ q ∧ q < nx + 8 ∧ q < 1000000
instance (nx q : Int) : Decidable (NearIn nx q) := by unfold NearIn; infer_instance
theorem canBeTakenIn_any (s : ByteArray) (l : Bool) (o : ByteArray) (ro : Option Addr) (nr cap : Nat) (w : World) (hs : s.size ≤ 1048576) (ho : o.size ≤ 1048576) (hn : nr ≤ 1048576) :
    Calls Try.prog 81 #[.agg #[.string s, .bool l], .string o, .slice ro nr cap] w fun e w' => e = .returned (.bool (decide (CanIn o nr s l))) ∧ Below w.heap.size w w' := by
  obtain ⟨D, hD⟩ : ∃ D, D = decide (CanIn o nr s l) := ⟨_, rfl⟩
  rw [← hD]
  have HD : Hid (D = decide (CanIn o nr s l)) := hD
  clear hD
  by_cases h1 : 200 < o.size + s.size
  · go_enter Try.func81, Try.ntmps81
    go_wp2
    go_ret
    exact ⟨ret_b (by rw [HD.out, decide_eq_false (show ¬ CanIn o nr s l from fun h => by have := h.1; omega)]), (Below.refl _ _).alloc (Nat.le_refl _) _⟩
  · cases l
    · go_enter Try.func81, Try.ntmps81
      go_wp2
      go_ret
      exact ⟨ret_b (by rw [HD.out, decide_eq_true (show CanIn o nr s false from ⟨by omega, .inl rfl⟩)]), (Below.refl _ _).alloc (Nat.le_refl _) _⟩
    · by_cases h2 : nr < 4
      · go_enter Try.func81, Try.ntmps81
        go_wp2
        go_ret
        exact ⟨ret_b (by rw [HD.out, decide_eq_true (show CanIn o nr s true from ⟨by omega, .inr h2⟩)]; simp <;> omega), (Below.refl _ _).alloc (Nat.le_refl _) _⟩
      · go_enter Try.func81, Try.ntmps81
        go_wp2
        go_ret
        exact ⟨ret_b (by rw [HD.out, decide_eq_false (show ¬ CanIn o nr s true from fun h => by rcases h.2 with e | e; cases e; omega)]; simp <;> omega), (Below.refl _ _).alloc (Nat.le_refl _) _⟩
theorem l5Can_any (nx : Int) (ao ro : Option Addr) (n ca nr cr : Nat) (o s : ByteArray) (l : Bool) (w : World) (hs : s.size ≤ 1048576) (ho : o.size ≤ 1048576) (hn : nr ≤ 1048576) :
    Calls Try.prog 56 #[.agg #[.int .i64 nx, .slice ao n ca, .string o, .slice ro nr cr], .agg #[.string s, .bool l]] w fun e w' => e = .returned (.bool (decide (CanIn o nr s l))) ∧ Below w.heap.size w w' := by
  obtain ⟨D, hD⟩ : ∃ D, D = decide (CanIn o nr s l) := ⟨_, rfl⟩
  rw [← hD]
  have HD : Hid (D = decide (CanIn o nr s l)) := hD
  clear hD
  by_cases h1 : o.size + s.size ≤ 200
  · cases l
    · go_enter Try.func56, Try.ntmps56
      go_wp2
      go_ret
      exact ⟨ret_b (by rw [HD.out, decide_eq_true (show CanIn o nr s false from ⟨by omega, .inl rfl⟩)]), ((Below.refl _ _).alloc (Nat.le_refl _) _).alloc (by simp) _⟩
    · by_cases h2 : nr < 4
      · go_enter Try.func56, Try.ntmps56
        go_wp2
        go_ret
        exact ⟨ret_b (by rw [HD.out, decide_eq_true (show CanIn o nr s true from ⟨by omega, .inr h2⟩)]; simp <;> omega), ((Below.refl _ _).alloc (Nat.le_refl _) _).alloc (by simp) _⟩
      · go_enter Try.func56, Try.ntmps56
        go_wp2
        go_ret
        exact ⟨ret_b (by rw [HD.out, decide_eq_false (show ¬ CanIn o nr s true from fun h => by rcases h.2 with e | e; cases e; omega)]; simp <;> omega), ((Below.refl _ _).alloc (Nat.le_refl _) _).alloc (by simp) _⟩
  · go_enter Try.func56, Try.ntmps56
    go_wp2
    go_ret
    exact ⟨ret_b (by rw [HD.out, decide_eq_false (show ¬ CanIn o nr s l from fun h => by have := h.1; omega)]), ((Below.refl _ _).alloc (Nat.le_refl _) _).alloc (by simp) _⟩
theorem l5Near_any (nx : Int) (ao ro : Option Addr) (n ca nr cr : Nat) (o : ByteArray) (q : Int) (w : World) (h0 : 0 ≤ nx) (h1 : nx ≤ 1000000) :
    Calls Try.prog 55 #[.agg #[.int .i64 nx, .slice ao n ca, .string o, .slice ro nr cr], .int .i64 q] w fun e w' => e = .returned (.bool (decide (NearIn nx q))) ∧ Below w.heap.size w w' := by
  obtain ⟨D, hD⟩ : ∃ D, D = decide (NearIn nx q) := ⟨_, rfl⟩
  rw [← hD]
  have HD : Hid (D = decide (NearIn nx q)) := hD
  clear hD
  by_cases h2 : nx ≤ q ∧ q ≤ nx + 7
  · go_enter Try.func55, Try.ntmps55
    go_wp2_with (go_at_call 24; first | (refine (l1In_true _ _ _ _ (by omega) (by omega)).mono ?_; rintro e w' ⟨rfl, rfl⟩) | (refine (l1In_false _ _ _ _ (by omega)).mono ?_; rintro e w' ⟨rfl, rfl⟩))
    go_ret
    exact ⟨ret_b (by rw [HD.out]; exact decide_eq_decide.2 (show _ ↔ NearIn nx q from by unfold NearIn; omega)), (Below.refl _ _).alloc (Nat.le_refl _) _⟩
  · go_enter Try.func55, Try.ntmps55
    go_wp2_with (go_at_call 24; first | (refine (l1In_true _ _ _ _ (by omega) (by omega)).mono ?_; rintro e w' ⟨rfl, rfl⟩) | (refine (l1In_false _ _ _ _ (by omega)).mono ?_; rintro e w' ⟨rfl, rfl⟩))
    go_ret
    exact ⟨ret_b (by rw [HD.out, decide_eq_false (show ¬ NearIn nx q from fun h => by unfold NearIn at h; omega)]), (Below.refl _ _).alloc (Nat.le_refl _) _⟩
theorem lastSeq_any (n : Int) (w : World) (h0 : 0 ≤ n) (h1 : n ≤ 1000000) :
    Calls Try.prog 80 #[.int .i64 n] w fun e w' => e = .returned (.int .i64 (min (n + 8) 1000000 - 1)) ∧ w = w' := by
  go_enter Try.func80, Try.ntmps80
  go_wp2
  all_goals go_ret
  · exact ⟨by rw [show min (n + 8) 1000000 - 1 = 999999 by omega]; rfl, rfl⟩
  · exact ⟨by rw [show min (n + 8) 1000000 = n + 8 by omega]; rfl, rfl⟩
end Go.Proofs.Ytmliinglojmojab.mk

/-
  THE WALKS of FormPacket, second part: the specification's.
-/
import Derived.Test.YtdmlhfbnhhafmabDoorFormA
import Derived.WalkKit
import Derived.WalkSpells
import Derived.WalkLawsBesides
import Derived.Laws.StructEq
import Derived.Laws.ResultCell
import Derived.Deep.RegionHeld3
import Derived.Outline
namespace Go.Proofs.YtdmlhfbnhhafmabDoor.tag
open Go.RowKit


theorem isEmpty_size (p : ByteArray) : p.toList.isEmpty = decide (p.size = 0) := by
  rw [ByteArray.toList_eq]
  obtain ⟨⟨l⟩⟩ := p
  cases l with
  | nil => rfl
  | cons x l => rfl
theorem l2Ok_head (k f m y nx mk sq : Int) (l : Bool) (p : ByteArray) (h : ¬ ((1 ≤ f ∧ f ≤ 2) ∧ (1 ≤ m ∧ m ≤ 1000) ∧ 0 ≤ y ∧ y ≤ 1000)) : ∀ w : World, Calls Tryd.prog 12 #[.agg #[.int .i64 k, .int .i64 f, .int .i64 m, .int .i64 y, .int .i64 nx, .int .i64 mk, .int .i64 sq, .bool l, .string p]] w fun e w' => e = .returned (.bool (pkOk k f m y nx mk sq l p)) ∧ Below w.heap.size w w' := by
  intro w
  rw [pkOk_nohead h]
  by_cases h1 : 1 ≤ f ∧ f ≤ 2
  · by_cases h2 : 1 ≤ m ∧ m ≤ 1000
    · have h3 : y < 0 ∨ 1000 < y := by omega
      clear h
      go_enter Tryd.func12, Tryd.ntmps12
      go_wp2_with (go_at_call 7; first | (refine (l1In_yes _ _ _ _ (by omega) (by omega)).mono ?_; rintro e w' ⟨rfl, rfl⟩) | (refine (l1In_no _ _ _ _ (by omega)).mono ?_; rintro e w' ⟨rfl, rfl⟩))
      go_ret
      exact ⟨rfl, (Below.refl _ _).alloc (Nat.le_refl _) _⟩
    · clear h
      go_enter Tryd.func12, Tryd.ntmps12
      go_wp2_with (go_at_call 7; first | (refine (l1In_yes _ _ _ _ (by omega) (by omega)).mono ?_; rintro e w' ⟨rfl, rfl⟩) | (refine (l1In_no _ _ _ _ (by omega)).mono ?_; rintro e w' ⟨rfl, rfl⟩))
      go_ret
      exact ⟨rfl, (Below.refl _ _).alloc (Nat.le_refl _) _⟩
  · clear h
    go_enter Tryd.func12, Tryd.ntmps12
    go_wp2_with (go_at_call 7; first | (refine (l1In_yes _ _ _ _ (by omega) (by omega)).mono ?_; rintro e w' ⟨rfl, rfl⟩) | (refine (l1In_no _ _ _ _ (by omega)).mono ?_; rintro e w' ⟨rfl, rfl⟩))
    go_ret
    exact ⟨rfl, (Below.refl _ _).alloc (Nat.le_refl _) _⟩
theorem l2Ok_word (f m y nx mk sq : Int) (l : Bool) (p : ByteArray) (h : ((1 ≤ f ∧ f ≤ 2) ∧ (1 ≤ m ∧ m ≤ 1000) ∧ 0 ≤ y ∧ y ≤ 1000)) (w : World) : Calls Tryd.prog 12 #[.agg #[.int .i64 1, .int .i64 f, .int .i64 m, .int .i64 y, .int .i64 nx, .int .i64 mk, .int .i64 sq, .bool l, .string p]] w fun e w' => e = .returned (.bool (pkOk 1 f m y nx mk sq l p)) ∧ Below w.heap.size w w' := by
  have hp := isEmpty_size p
  by_cases h1 : 0 ≤ nx ∧ nx ≤ 1000000
  · by_cases h2 : 0 ≤ mk ∧ mk ≤ 255
    · go_enter Tryd.func12, Tryd.ntmps12
      go_wp2_with (go_at_call 7; first | (refine (l1In_yes _ _ _ _ (by omega) (by omega)).mono ?_; rintro e w' ⟨rfl, rfl⟩) | (refine (l1In_no _ _ _ _ (by omega)).mono ?_; rintro e w' ⟨rfl, rfl⟩))
      all_goals go_ret; all_goals refine ⟨ret_bool ?_, (Below.refl _ _).alloc (Nat.le_refl _) _⟩
      all_goals simp [pkOk, wordOk_mk h h1 h2, *]
    · have hw := wordOk_no (f := f) (m := m) (y := y) (nx := nx) (mk := mk) (fun x => h2 x.2.2)
      go_enter Tryd.func12, Tryd.ntmps12
      go_wp2_with (go_at_call 7; first | (refine (l1In_yes _ _ _ _ (by omega) (by omega)).mono ?_; rintro e w' ⟨rfl, rfl⟩) | (refine (l1In_no _ _ _ _ (by omega)).mono ?_; rintro e w' ⟨rfl, rfl⟩))
      all_goals go_ret; all_goals refine ⟨ret_bool ?_, (Below.refl _ _).alloc (Nat.le_refl _) _⟩
      all_goals simp [pkOk, hw]
  · have hw := wordOk_no (f := f) (m := m) (y := y) (nx := nx) (mk := mk) (fun x => h1 x.2.1)
    go_enter Tryd.func12, Tryd.ntmps12
    go_wp2_with (go_at_call 7; first | (refine (l1In_yes _ _ _ _ (by omega) (by omega)).mono ?_; rintro e w' ⟨rfl, rfl⟩) | (refine (l1In_no _ _ _ _ (by omega)).mono ?_; rintro e w' ⟨rfl, rfl⟩))
    all_goals go_ret; all_goals refine ⟨ret_bool ?_, (Below.refl _ _).alloc (Nat.le_refl _) _⟩
    all_goals simp [pkOk, hw]
theorem l2Ok_data (f m y nx mk sq : Int) (l : Bool) (p : ByteArray) (h : ((1 ≤ f ∧ f ≤ 2) ∧ (1 ≤ m ∧ m ≤ 1000) ∧ 0 ≤ y ∧ y ≤ 1000)) (w : World) : Calls Tryd.prog 12 #[.agg #[.int .i64 2, .int .i64 f, .int .i64 m, .int .i64 y, .int .i64 nx, .int .i64 mk, .int .i64 sq, .bool l, .string p]] w fun e w' => e = .returned (.bool (pkOk 2 f m y nx mk sq l p)) ∧ Below w.heap.size w w' := by
  by_cases h1 : 0 ≤ sq ∧ sq ≤ 999999
  · by_cases h2 : (p.size : Int) ≤ 20
    · go_enter Tryd.func12, Tryd.ntmps12
      go_wp2_with (go_at_call 7; first | (refine (l1In_yes _ _ _ _ (by omega) (by omega)).mono ?_; rintro e w' ⟨rfl, rfl⟩) | (refine (l1In_no _ _ _ _ (by omega)).mono ?_; rintro e w' ⟨rfl, rfl⟩))
      all_goals go_ret; all_goals refine ⟨ret_bool ?_, (Below.refl _ _).alloc (Nat.le_refl _) _⟩
      all_goals simp [pkOk, dataOk_mk h h1 (show p.size ≤ 20 by omega), *]
    · have hw := dataOk_no (f := f) (m := m) (y := y) (sq := sq) (ps := p.size) (by omega)
      go_enter Tryd.func12, Tryd.ntmps12
      go_wp2_with (go_at_call 7; first | (refine (l1In_yes _ _ _ _ (by omega) (by omega)).mono ?_; rintro e w' ⟨rfl, rfl⟩) | (refine (l1In_no _ _ _ _ (by omega)).mono ?_; rintro e w' ⟨rfl, rfl⟩))
      all_goals go_ret; all_goals refine ⟨ret_bool ?_, (Below.refl _ _).alloc (Nat.le_refl _) _⟩
      all_goals simp [pkOk, hw]
      all_goals omega
  · have hw := dataOk_no (f := f) (m := m) (y := y) (sq := sq) (ps := p.size) (fun x => h1 x.2.1)
    go_enter Tryd.func12, Tryd.ntmps12
    go_wp2_with (go_at_call 7; first | (refine (l1In_yes _ _ _ _ (by omega) (by omega)).mono ?_; rintro e w' ⟨rfl, rfl⟩) | (refine (l1In_no _ _ _ _ (by omega)).mono ?_; rintro e w' ⟨rfl, rfl⟩))
    all_goals go_ret; all_goals refine ⟨ret_bool ?_, (Below.refl _ _).alloc (Nat.le_refl _) _⟩
    all_goals simp [pkOk, hw]
theorem l2Ok_any (k f m y nx mk sq : Int) (l : Bool) (p : ByteArray) : ∀ w : World, Calls Tryd.prog 12 #[.agg #[.int .i64 k, .int .i64 f, .int .i64 m, .int .i64 y, .int .i64 nx, .int .i64 mk, .int .i64 sq, .bool l, .string p]] w fun e w' => e = .returned (.bool (pkOk k f m y nx mk sq l p)) ∧ Below w.heap.size w w' := by
  by_cases h : ((1 ≤ f ∧ f ≤ 2) ∧ (1 ≤ m ∧ m ≤ 1000) ∧ 0 ≤ y ∧ y ≤ 1000)
  · by_cases h1 : k = 1
    · subst h1; exact l2Ok_word f m y nx mk sq l p h
    · by_cases h2 : k = 2
      · subst h2; exact l2Ok_data f m y nx mk sq l p h
      · intro w
        rw [pkOk_other h1 h2]
        have h1' : (k == 1) = false := by simpa using h1
        have h2' : (k == 2) = false := by simpa using h2
        clear h1 h2
        go_enter Tryd.func12, Tryd.ntmps12
        go_wp2_with (go_at_call 7; first | (refine (l1In_yes _ _ _ _ (by omega) (by omega)).mono ?_; rintro e w' ⟨rfl, rfl⟩) | (refine (l1In_no _ _ _ _ (by omega)).mono ?_; rintro e w' ⟨rfl, rfl⟩))
        go_ret
        exact ⟨rfl, (Below.refl _ _).alloc (Nat.le_refl _) _⟩
  · exact l2Ok_head k f m y nx mk sq l p h

end Go.Proofs.YtdmlhfbnhhafmabDoor.tag

/-
  THE WALKS of FormPacket, third part: the specification's body and form.
-/
import Derived.Test.YtdmlhfbnhhafmabDoorFormB
import Derived.WalkKit
import Derived.WalkSpells
import Derived.WalkLawsBesides
import Derived.Laws.StructEq
import Derived.Laws.ResultCell
import Derived.Deep.RegionHeld3
import Derived.Outline
namespace Go.Proofs.YtdmlhfbnhhafmabDoor.tag
open Go.RowKit


theorem l2Body_word (f m y nx mk sq : Int) (l : Bool) (p : ByteArray) (w : World) (h : wordOk f m y nx mk = true) :
    Calls Tryd.prog 14 #[.agg #[.int .i64 1, .int .i64 f, .int .i64 m, .int .i64 y, .int .i64 nx, .int .i64 mk, .int .i64 sq, .bool l, .string p]] w fun e w' => e = .returned (.string (wordStr f m y nx mk)) ∧ Below w.heap.size w w' := by
  have hh := wordOk_yes h
  have hns := numStr_size
  go_enter Tryd.func14, Tryd.ntmps14
  go_wp2
  go_region_held3 (fun w' => w'.cell? ⟨w.heap.size, 0, none⟩ = some (.int .i64 1) ∧ w'.cell? ⟨w.heap.size, 1, none⟩ = some (.int .i64 f) ∧ w'.cell? ⟨w.heap.size, 2, none⟩ = some (.int .i64 m) ∧ w'.cell? ⟨w.heap.size, 3, none⟩ = some (.int .i64 y) ∧ w'.cell? ⟨w.heap.size, 4, none⟩ = some (.int .i64 nx) ∧ w'.cell? ⟨w.heap.size, 5, none⟩ = some (.int .i64 mk) ∧ Below w.heap.size w w' ∧ w.heap.size < w'.heap.size)
    (first | assumption | ((repeat' apply And.intro) <;> first | (simp; done) | exact ((Below.refl _ _).alloc (Nat.le_refl _) _).drew) | (go_split_ands; (repeat' apply And.intro) <;> first | exact keep_cell hb2 (by assumption) (by assumption) | exact keep_below hb2 (by assumption) (by assumption) | exact keep_size hb2 (by assumption)) | (go_split_ands; (repeat' apply And.intro) <;> first | assumption | exact Below.drew (by assumption)))
    (first | (go_at_call_of 18 (Value.int IntKind.i64 1); refine (l1Number_any _ 1 _ (by omega) (by omega)).mono ?_; rintro e w2 ⟨rfl, hb2⟩) | (go_at_call_of 18 (Value.int IntKind.i64 2); refine (l1Number_any _ 2 _ (by omega) (by omega)).mono ?_; rintro e w2 ⟨rfl, hb2⟩) | (go_at_call_of 18 (Value.int IntKind.i64 4); refine (l1Number_any _ 4 _ (by omega) (by omega)).mono ?_; rintro e w2 ⟨rfl, hb2⟩))
  have hS : Hid ((fun w' => w'.cell? ⟨w.heap.size, 0, none⟩ = some (.int .i64 1) ∧ w'.cell? ⟨w.heap.size, 1, none⟩ = some (.int .i64 f) ∧ w'.cell? ⟨w.heap.size, 2, none⟩ = some (.int .i64 m) ∧ w'.cell? ⟨w.heap.size, 3, none⟩ = some (.int .i64 y) ∧ w'.cell? ⟨w.heap.size, 4, none⟩ = some (.int .i64 nx) ∧ w'.cell? ⟨w.heap.size, 5, none⟩ = some (.int .i64 mk) ∧ Below w.heap.size w w' ∧ w.heap.size < w'.heap.size) w2) := by dsimp only [Hid]; assumption
  have hc0 : w2.cell? ⟨w.heap.size, 0, none⟩ = some (.int .i64 1) := hS.out.1
  go_wp2
  go_region_held3 (fun w' => w'.cell? ⟨w.heap.size, 0, none⟩ = some (.int .i64 1) ∧ w'.cell? ⟨w.heap.size, 1, none⟩ = some (.int .i64 f) ∧ w'.cell? ⟨w.heap.size, 2, none⟩ = some (.int .i64 m) ∧ w'.cell? ⟨w.heap.size, 3, none⟩ = some (.int .i64 y) ∧ w'.cell? ⟨w.heap.size, 4, none⟩ = some (.int .i64 nx) ∧ w'.cell? ⟨w.heap.size, 5, none⟩ = some (.int .i64 mk) ∧ Below w.heap.size w w' ∧ w.heap.size < w'.heap.size)
    (first | exact ⟨hS.out.1, hS.out.2.1, hS.out.2.2.1, hS.out.2.2.2.1, hS.out.2.2.2.2.1, hS.out.2.2.2.2.2.1, hS.out.2.2.2.2.2.2.1.drew, hS.out.2.2.2.2.2.2.2⟩ | (first | assumption | ((repeat' apply And.intro) <;> first | (simp; done) | exact ((Below.refl _ _).alloc (Nat.le_refl _) _).drew) | (go_split_ands; (repeat' apply And.intro) <;> first | exact keep_cell hb2 (by assumption) (by assumption) | exact keep_below hb2 (by assumption) (by assumption) | exact keep_size hb2 (by assumption)) | (go_split_ands; (repeat' apply And.intro) <;> first | assumption | exact Below.drew (by assumption))))
    (first | (go_at_call_of 18 (Value.int IntKind.i64 1); refine (l1Number_any _ 1 _ (by omega) (by omega)).mono ?_; rintro e w2 ⟨rfl, hb2⟩) | (go_at_call_of 18 (Value.int IntKind.i64 2); refine (l1Number_any _ 2 _ (by omega) (by omega)).mono ?_; rintro e w2 ⟨rfl, hb2⟩) | (go_at_call_of 18 (Value.int IntKind.i64 4); refine (l1Number_any _ 4 _ (by omega) (by omega)).mono ?_; rintro e w2 ⟨rfl, hb2⟩))
  have hbl : Below w.heap.size w w2 := by go_split_ands; assumption
  go_wp2
  go_ret
  exact ⟨rfl, hbl⟩

theorem l2Body_data_true (f m y nx mk sq : Int) (p : ByteArray) (w : World) (h : dataOk f m y sq p.size = true) :
    Calls Tryd.prog 14 #[.agg #[.int .i64 2, .int .i64 f, .int .i64 m, .int .i64 y, .int .i64 nx, .int .i64 mk, .int .i64 sq, .bool true, .string p]] w fun e w' => e = .returned (.string (dataStr f m y sq true p)) ∧ Below w.heap.size w w' := by
  have hh := dataOk_yes h
  have hns := numStr_size
  have hsmall : ¬ (9223372036854775807 < 1 + 1 + 2 + 2 + 4 + 1 + p.size) := by omega
  go_enter Tryd.func14, Tryd.ntmps14
  go_wp2
  go_region_held3 (fun w' => w'.cell? ⟨w.heap.size, 0, none⟩ = some (.int .i64 2) ∧ w'.cell? ⟨w.heap.size, 1, none⟩ = some (.int .i64 f) ∧ w'.cell? ⟨w.heap.size, 2, none⟩ = some (.int .i64 m) ∧ w'.cell? ⟨w.heap.size, 3, none⟩ = some (.int .i64 y) ∧ w'.cell? ⟨w.heap.size, 6, none⟩ = some (.int .i64 sq) ∧ w'.cell? ⟨w.heap.size, 7, none⟩ = some (.bool true) ∧ w'.cell? ⟨w.heap.size, 8, none⟩ = some (.string p) ∧ Below w.heap.size w w' ∧ w.heap.size < w'.heap.size)
    (first | assumption | ((repeat' apply And.intro) <;> first | (simp; done) | exact ((Below.refl _ _).alloc (Nat.le_refl _) _).drew) | (go_split_ands; (repeat' apply And.intro) <;> first | exact keep_cell hb2 (by assumption) (by assumption) | exact keep_below hb2 (by assumption) (by assumption) | exact keep_size hb2 (by assumption)) | (go_split_ands; (repeat' apply And.intro) <;> first | assumption | exact Below.drew (by assumption)))
    (first | (go_at_call_of 18 (Value.int IntKind.i64 1); refine (l1Number_any _ 1 _ (by omega) (by omega)).mono ?_; rintro e w2 ⟨rfl, hb2⟩) | (go_at_call_of 18 (Value.int IntKind.i64 2); refine (l1Number_any _ 2 _ (by omega) (by omega)).mono ?_; rintro e w2 ⟨rfl, hb2⟩) | (go_at_call_of 18 (Value.int IntKind.i64 4); refine (l1Number_any _ 4 _ (by omega) (by omega)).mono ?_; rintro e w2 ⟨rfl, hb2⟩))
  have hS : Hid ((fun w' => w'.cell? ⟨w.heap.size, 0, none⟩ = some (.int .i64 2) ∧ w'.cell? ⟨w.heap.size, 1, none⟩ = some (.int .i64 f) ∧ w'.cell? ⟨w.heap.size, 2, none⟩ = some (.int .i64 m) ∧ w'.cell? ⟨w.heap.size, 3, none⟩ = some (.int .i64 y) ∧ w'.cell? ⟨w.heap.size, 6, none⟩ = some (.int .i64 sq) ∧ w'.cell? ⟨w.heap.size, 7, none⟩ = some (.bool true) ∧ w'.cell? ⟨w.heap.size, 8, none⟩ = some (.string p) ∧ Below w.heap.size w w' ∧ w.heap.size < w'.heap.size) w2) := by dsimp only [Hid]; assumption
  have hc0 : w2.cell? ⟨w.heap.size, 0, none⟩ = some (.int .i64 2) := hS.out.1
  have hc7 := hS.out.2.2.2.2.2.1
  go_wp2
  go_region_held3 (fun w' => w'.cell? ⟨w.heap.size, 0, none⟩ = some (.int .i64 2) ∧ w'.cell? ⟨w.heap.size, 1, none⟩ = some (.int .i64 f) ∧ w'.cell? ⟨w.heap.size, 2, none⟩ = some (.int .i64 m) ∧ w'.cell? ⟨w.heap.size, 3, none⟩ = some (.int .i64 y) ∧ w'.cell? ⟨w.heap.size, 6, none⟩ = some (.int .i64 sq) ∧ w'.cell? ⟨w.heap.size, 7, none⟩ = some (.bool true) ∧ w'.cell? ⟨w.heap.size, 8, none⟩ = some (.string p) ∧ Below w.heap.size w w' ∧ w.heap.size < w'.heap.size)
    (first | exact ⟨hS.out.1, hS.out.2.1, hS.out.2.2.1, hS.out.2.2.2.1, hS.out.2.2.2.2.1, hS.out.2.2.2.2.2.1, hS.out.2.2.2.2.2.2.1, hS.out.2.2.2.2.2.2.2.1.drew, hS.out.2.2.2.2.2.2.2.2⟩ | (first | assumption | ((repeat' apply And.intro) <;> first | (simp; done) | exact ((Below.refl _ _).alloc (Nat.le_refl _) _).drew) | (go_split_ands; (repeat' apply And.intro) <;> first | exact keep_cell hb2 (by assumption) (by assumption) | exact keep_below hb2 (by assumption) (by assumption) | exact keep_size hb2 (by assumption)) | (go_split_ands; (repeat' apply And.intro) <;> first | assumption | exact Below.drew (by assumption))))
    (first | (go_at_call_of 18 (Value.int IntKind.i64 1); refine (l1Number_any _ 1 _ (by omega) (by omega)).mono ?_; rintro e w2 ⟨rfl, hb2⟩) | (go_at_call_of 18 (Value.int IntKind.i64 2); refine (l1Number_any _ 2 _ (by omega) (by omega)).mono ?_; rintro e w2 ⟨rfl, hb2⟩) | (go_at_call_of 18 (Value.int IntKind.i64 4); refine (l1Number_any _ 4 _ (by omega) (by omega)).mono ?_; rintro e w2 ⟨rfl, hb2⟩))
  have hbl : Below w.heap.size w w2 := by go_split_ands; assumption
  go_wp2
  go_ret
  exact ⟨rfl, hbl⟩
theorem l2Body_data_false (f m y nx mk sq : Int) (p : ByteArray) (w : World) (h : dataOk f m y sq p.size = true) :
    Calls Tryd.prog 14 #[.agg #[.int .i64 2, .int .i64 f, .int .i64 m, .int .i64 y, .int .i64 nx, .int .i64 mk, .int .i64 sq, .bool false, .string p]] w fun e w' => e = .returned (.string (dataStr f m y sq false p)) ∧ Below w.heap.size w w' := by
  have hh := dataOk_yes h
  have hns := numStr_size
  have hsmall : ¬ (9223372036854775807 < 1 + 1 + 2 + 2 + 4 + 1 + p.size) := by omega
  go_enter Tryd.func14, Tryd.ntmps14
  go_wp2
  go_region_held3 (fun w' => w'.cell? ⟨w.heap.size, 0, none⟩ = some (.int .i64 2) ∧ w'.cell? ⟨w.heap.size, 1, none⟩ = some (.int .i64 f) ∧ w'.cell? ⟨w.heap.size, 2, none⟩ = some (.int .i64 m) ∧ w'.cell? ⟨w.heap.size, 3, none⟩ = some (.int .i64 y) ∧ w'.cell? ⟨w.heap.size, 6, none⟩ = some (.int .i64 sq) ∧ w'.cell? ⟨w.heap.size, 7, none⟩ = some (.bool false) ∧ w'.cell? ⟨w.heap.size, 8, none⟩ = some (.string p) ∧ Below w.heap.size w w' ∧ w.heap.size < w'.heap.size)
    (first | assumption | ((repeat' apply And.intro) <;> first | (simp; done) | exact ((Below.refl _ _).alloc (Nat.le_refl _) _).drew) | (go_split_ands; (repeat' apply And.intro) <;> first | exact keep_cell hb2 (by assumption) (by assumption) | exact keep_below hb2 (by assumption) (by assumption) | exact keep_size hb2 (by assumption)) | (go_split_ands; (repeat' apply And.intro) <;> first | assumption | exact Below.drew (by assumption)))
    (first | (go_at_call_of 18 (Value.int IntKind.i64 1); refine (l1Number_any _ 1 _ (by omega) (by omega)).mono ?_; rintro e w2 ⟨rfl, hb2⟩) | (go_at_call_of 18 (Value.int IntKind.i64 2); refine (l1Number_any _ 2 _ (by omega) (by omega)).mono ?_; rintro e w2 ⟨rfl, hb2⟩) | (go_at_call_of 18 (Value.int IntKind.i64 4); refine (l1Number_any _ 4 _ (by omega) (by omega)).mono ?_; rintro e w2 ⟨rfl, hb2⟩))
  have hS : Hid ((fun w' => w'.cell? ⟨w.heap.size, 0, none⟩ = some (.int .i64 2) ∧ w'.cell? ⟨w.heap.size, 1, none⟩ = some (.int .i64 f) ∧ w'.cell? ⟨w.heap.size, 2, none⟩ = some (.int .i64 m) ∧ w'.cell? ⟨w.heap.size, 3, none⟩ = some (.int .i64 y) ∧ w'.cell? ⟨w.heap.size, 6, none⟩ = some (.int .i64 sq) ∧ w'.cell? ⟨w.heap.size, 7, none⟩ = some (.bool false) ∧ w'.cell? ⟨w.heap.size, 8, none⟩ = some (.string p) ∧ Below w.heap.size w w' ∧ w.heap.size < w'.heap.size) w2) := by dsimp only [Hid]; assumption
  have hc0 : w2.cell? ⟨w.heap.size, 0, none⟩ = some (.int .i64 2) := hS.out.1
  have hc7 := hS.out.2.2.2.2.2.1
  go_wp2
  go_region_held3 (fun w' => w'.cell? ⟨w.heap.size, 0, none⟩ = some (.int .i64 2) ∧ w'.cell? ⟨w.heap.size, 1, none⟩ = some (.int .i64 f) ∧ w'.cell? ⟨w.heap.size, 2, none⟩ = some (.int .i64 m) ∧ w'.cell? ⟨w.heap.size, 3, none⟩ = some (.int .i64 y) ∧ w'.cell? ⟨w.heap.size, 6, none⟩ = some (.int .i64 sq) ∧ w'.cell? ⟨w.heap.size, 7, none⟩ = some (.bool false) ∧ w'.cell? ⟨w.heap.size, 8, none⟩ = some (.string p) ∧ Below w.heap.size w w' ∧ w.heap.size < w'.heap.size)
    (first | exact ⟨hS.out.1, hS.out.2.1, hS.out.2.2.1, hS.out.2.2.2.1, hS.out.2.2.2.2.1, hS.out.2.2.2.2.2.1, hS.out.2.2.2.2.2.2.1, hS.out.2.2.2.2.2.2.2.1.drew, hS.out.2.2.2.2.2.2.2.2⟩ | (first | assumption | ((repeat' apply And.intro) <;> first | (simp; done) | exact ((Below.refl _ _).alloc (Nat.le_refl _) _).drew) | (go_split_ands; (repeat' apply And.intro) <;> first | exact keep_cell hb2 (by assumption) (by assumption) | exact keep_below hb2 (by assumption) (by assumption) | exact keep_size hb2 (by assumption)) | (go_split_ands; (repeat' apply And.intro) <;> first | assumption | exact Below.drew (by assumption))))
    (first | (go_at_call_of 18 (Value.int IntKind.i64 1); refine (l1Number_any _ 1 _ (by omega) (by omega)).mono ?_; rintro e w2 ⟨rfl, hb2⟩) | (go_at_call_of 18 (Value.int IntKind.i64 2); refine (l1Number_any _ 2 _ (by omega) (by omega)).mono ?_; rintro e w2 ⟨rfl, hb2⟩) | (go_at_call_of 18 (Value.int IntKind.i64 4); refine (l1Number_any _ 4 _ (by omega) (by omega)).mono ?_; rintro e w2 ⟨rfl, hb2⟩))
  have hbl : Below w.heap.size w w2 := by go_split_ands; assumption
  go_wp2
  go_ret
  exact ⟨rfl, hbl⟩
theorem l2Body_data (f m y nx mk sq : Int) (l : Bool) (p : ByteArray) (w : World) (h : dataOk f m y sq p.size = true) :
    Calls Tryd.prog 14 #[.agg #[.int .i64 2, .int .i64 f, .int .i64 m, .int .i64 y, .int .i64 nx, .int .i64 mk, .int .i64 sq, .bool l, .string p]] w fun e w' => e = .returned (.string (dataStr f m y sq l p)) ∧ Below w.heap.size w w' := by
  cases l
  · exact l2Body_data_false f m y nx mk sq p w h
  · exact l2Body_data_true f m y nx mk sq p w h
theorem l2Body_any (k f m y nx mk sq : Int) (l : Bool) (p : ByteArray) (w : World) (h : pkOk k f m y nx mk sq l p = true) :
    Calls Tryd.prog 14 #[.agg #[.int .i64 k, .int .i64 f, .int .i64 m, .int .i64 y, .int .i64 nx, .int .i64 mk, .int .i64 sq, .bool l, .string p]] w fun e w' => e = .returned (.string (bodyStr k f m y nx mk sq l p)) ∧ Below w.heap.size w w' := by
  by_cases h1 : k = 1
  · subst h1; exact l2Body_word f m y nx mk sq l p w (pkOk_word h).1
  · by_cases h2 : k = 2
    · subst h2; exact l2Body_data f m y nx mk sq l p w (pkOk_data h).1
    · rw [pkOk_other h1 h2] at h; cases h

theorem held9 {k f m y nx mk sq : Int} {l : Bool} {p : ByteArray} {T : TypeId} {w w1 : World} (hb : Below (w.alloc (.cells #[.int .i64 k, .int .i64 f, .int .i64 m, .int .i64 y, .int .i64 nx, .int .i64 mk, .int .i64 sq, .bool l, .string p] T)).heap.size (w.alloc (.cells #[.int .i64 k, .int .i64 f, .int .i64 m, .int .i64 y, .int .i64 nx, .int .i64 mk, .int .i64 sq, .bool l, .string p] T)) w1) : (fun w' => w'.cell? ⟨w.heap.size, 0, none⟩ = some (.int .i64 k) ∧ w'.cell? ⟨w.heap.size, 1, none⟩ = some (.int .i64 f) ∧ w'.cell? ⟨w.heap.size, 2, none⟩ = some (.int .i64 m) ∧ w'.cell? ⟨w.heap.size, 3, none⟩ = some (.int .i64 y) ∧ w'.cell? ⟨w.heap.size, 4, none⟩ = some (.int .i64 nx) ∧ w'.cell? ⟨w.heap.size, 5, none⟩ = some (.int .i64 mk) ∧ w'.cell? ⟨w.heap.size, 6, none⟩ = some (.int .i64 sq) ∧ w'.cell? ⟨w.heap.size, 7, none⟩ = some (.bool l) ∧ w'.cell? ⟨w.heap.size, 8, none⟩ = some (.string p) ∧ Below w.heap.size w w' ∧ w.heap.size < w'.heap.size) w1 := by
  have hz := hb.size
  have hs : w.heap.size < (w.alloc (.cells #[.int .i64 k, .int .i64 f, .int .i64 m, .int .i64 y, .int .i64 nx, .int .i64 mk, .int .i64 sq, .bool l, .string p] T)).heap.size := by simp
  refine ⟨?_, ?_, ?_, ?_, ?_, ?_, ?_, ?_, ?_, below_box hb, Nat.lt_of_lt_of_le hs hz⟩
  all_goals exact (hb.cell (p := ⟨w.heap.size, _, none⟩) hs).trans (World.cell?_alloc_at (hn := rfl) ..)

theorem specForm_any (k f m y nx mk sq : Int) (l : Bool) (p key : ByteArray) (n : Int) (w : World) (hkey : key.size ≤ 1048576) :
    Calls Tryd.prog 9 #[.agg #[.int .i64 k, .int .i64 f, .int .i64 m, .int .i64 y, .int .i64 nx, .int .i64 mk, .int .i64 sq, .bool l, .string p], .string key, .int .i64 n] w fun e w' => e = .returned (.string (formStr k f m y nx mk sq l p key n)) ∧ Below w.heap.size w w' := by
  cases hok : pkOk k f m y nx mk sq l p
  · rw [formStr_nopk hok]
    go_enter Tryd.func9, Tryd.ntmps9
    go_wp2_with (first | (go_at_call 12; refine (l2Ok_any k f m y nx mk sq l p _).mono ?_; rintro e w1 ⟨rfl, hb1⟩) | (go_at_call 7; first | (refine (l1In_yes _ _ _ _ (by omega) (by omega)).mono ?_; rintro e w' ⟨rfl, rfl⟩) | (refine (l1In_no _ _ _ _ (by omega)).mono ?_; rintro e w' ⟨rfl, rfl⟩)))
    go_ret
    exact ⟨rfl, below_box hb1⟩
  · by_cases h1 : 1 ≤ n ∧ n ≤ 8
    · by_cases h2 : (key.size : Int) ≤ 30
      · have hs := sealOk_mk (k := key.size) (n := n) ⟨by omega, h1.1, h1.2⟩
        rw [formStr_yes hok hs]
        have hbz := bodyStr_size hok
        have HB : Hid (∀ w : World, Calls Tryd.prog 14 #[.agg #[.int .i64 k, .int .i64 f, .int .i64 m, .int .i64 y, .int .i64 nx, .int .i64 mk, .int .i64 sq, .bool l, .string p]] w fun e w' => e = .returned (.string (bodyStr k f m y nx mk sq l p)) ∧ Below w.heap.size w w') := fun w => l2Body_any k f m y nx mk sq l p w hok
        obtain ⟨B, hB⟩ : ∃ B, B = bodyStr k f m y nx mk sq l p := ⟨_, rfl⟩
        rw [← hB] at hbz HB ⊢
        clear hB
        have HT : Hid (∀ w : World, Calls Tryd.prog 13 #[.string B, .string key, .int .i64 n] w fun e w' => e = .returned (.string (tagOf B key n)) ∧ Below w.heap.size w w') := fun w => specTag_any B key n w (by omega) hkey
        have htz := tagOf_size B key n
        obtain ⟨T, hT⟩ : ∃ T, T = tagOf B key n := ⟨_, rfl⟩
        rw [← hT] at htz HT ⊢
        clear hT
        have hsmall : ¬ (9223372036854775807 < T.size + B.size) := by omega
        go_enter Tryd.func9, Tryd.ntmps9
        go_wp2_with (first | (go_at_call 12; refine (l2Ok_any k f m y nx mk sq l p _).mono ?_; rintro e w1 ⟨rfl, hb1⟩) | (go_at_call 7; first | (refine (l1In_yes _ _ _ _ (by omega) (by omega)).mono ?_; rintro e w' ⟨rfl, rfl⟩) | (refine (l1In_no _ _ _ _ (by omega)).mono ?_; rintro e w' ⟨rfl, rfl⟩)))
        have hS : Hid ((fun w' => w'.cell? ⟨w.heap.size, 0, none⟩ = some (.int .i64 k) ∧ w'.cell? ⟨w.heap.size, 1, none⟩ = some (.int .i64 f) ∧ w'.cell? ⟨w.heap.size, 2, none⟩ = some (.int .i64 m) ∧ w'.cell? ⟨w.heap.size, 3, none⟩ = some (.int .i64 y) ∧ w'.cell? ⟨w.heap.size, 4, none⟩ = some (.int .i64 nx) ∧ w'.cell? ⟨w.heap.size, 5, none⟩ = some (.int .i64 mk) ∧ w'.cell? ⟨w.heap.size, 6, none⟩ = some (.int .i64 sq) ∧ w'.cell? ⟨w.heap.size, 7, none⟩ = some (.bool l) ∧ w'.cell? ⟨w.heap.size, 8, none⟩ = some (.string p) ∧ Below w.heap.size w w' ∧ w.heap.size < w'.heap.size) w1) := held9 hb1
        clear hb1
        go_region_held3 (fun w' => w'.cell? ⟨w.heap.size, 0, none⟩ = some (.int .i64 k) ∧ w'.cell? ⟨w.heap.size, 1, none⟩ = some (.int .i64 f) ∧ w'.cell? ⟨w.heap.size, 2, none⟩ = some (.int .i64 m) ∧ w'.cell? ⟨w.heap.size, 3, none⟩ = some (.int .i64 y) ∧ w'.cell? ⟨w.heap.size, 4, none⟩ = some (.int .i64 nx) ∧ w'.cell? ⟨w.heap.size, 5, none⟩ = some (.int .i64 mk) ∧ w'.cell? ⟨w.heap.size, 6, none⟩ = some (.int .i64 sq) ∧ w'.cell? ⟨w.heap.size, 7, none⟩ = some (.bool l) ∧ w'.cell? ⟨w.heap.size, 8, none⟩ = some (.string p) ∧ Below w.heap.size w w' ∧ w.heap.size < w'.heap.size)
          (first | exact ⟨hS.out.1, hS.out.2.1, hS.out.2.2.1, hS.out.2.2.2.1, hS.out.2.2.2.2.1, hS.out.2.2.2.2.2.1, hS.out.2.2.2.2.2.2.1, hS.out.2.2.2.2.2.2.2.1, hS.out.2.2.2.2.2.2.2.2.1, hS.out.2.2.2.2.2.2.2.2.2.1.drew, hS.out.2.2.2.2.2.2.2.2.2.2⟩ | (first | assumption | ((repeat' apply And.intro) <;> first | (simp; done) | exact ((Below.refl _ _).alloc (Nat.le_refl _) _).drew) | (go_split_ands; (repeat' apply And.intro) <;> first | exact keep_cell hb2 (by assumption) (by assumption) | exact keep_below hb2 (by assumption) (by assumption) | exact keep_size hb2 (by assumption)) | (go_split_ands; (repeat' apply And.intro) <;> first | assumption | exact Below.drew (by assumption))))
          (first | (go_at_call 14; refine (HB.out _).mono ?_; rintro e w2 ⟨rfl, hb2⟩) | (go_at_call 13; refine (HT.out _).mono ?_; rintro e w2 ⟨rfl, hb2⟩))
        have hbl : Below w.heap.size w w2 := by go_split_ands; assumption
        go_wp2
        go_ret
        exact ⟨rfl, hbl⟩
      · have hs := sealOk_no (k := key.size) (n := n) (by omega)
        rw [formStr_noseal hs]
        go_enter Tryd.func9, Tryd.ntmps9
        go_wp2_with (first | (go_at_call 12; refine (l2Ok_any k f m y nx mk sq l p _).mono ?_; rintro e w1 ⟨rfl, hb1⟩) | (go_at_call 7; first | (refine (l1In_yes _ _ _ _ (by omega) (by omega)).mono ?_; rintro e w' ⟨rfl, rfl⟩) | (refine (l1In_no _ _ _ _ (by omega)).mono ?_; rintro e w' ⟨rfl, rfl⟩)))
        go_ret
        exact ⟨rfl, below_box hb1⟩
    · have hs := sealOk_no (k := key.size) (n := n) (by omega)
      rw [formStr_noseal hs]
      go_enter Tryd.func9, Tryd.ntmps9
      go_wp2_with (first | (go_at_call 12; refine (l2Ok_any k f m y nx mk sq l p _).mono ?_; rintro e w1 ⟨rfl, hb1⟩) | (go_at_call 7; first | (refine (l1In_yes _ _ _ _ (by omega) (by omega)).mono ?_; rintro e w' ⟨rfl, rfl⟩) | (refine (l1In_no _ _ _ _ (by omega)).mono ?_; rintro e w' ⟨rfl, rfl⟩)))
      go_ret
      exact ⟨rfl, below_box hb1⟩

end Go.Proofs.YtdmlhfbnhhafmabDoor.tag

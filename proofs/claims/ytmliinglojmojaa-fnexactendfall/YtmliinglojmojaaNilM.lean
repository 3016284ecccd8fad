/-
  MARKS OF NOTHING: an end that has no rows.
-/
import Derived.Test.YtmliinglojmojaaProg
import Derived.Test.YtmliinglojmojaaBase
namespace Go.Proofs.Ytmliinglojmojaa.mk
open Go.RowKit
set_option linter.unusedVariables false

theorem markItemS_nil (k : Int) (w : World) : Calls Try.prog 83 #[.slice none 0 0, .int .i64 k] w fun e w' => e = .returned (.int .i64 k) ∧ Below w.heap.size w w' := by
  go_enter Try.func83, Try.ntmps83
  go_wp2
  go_loopw [1, 5] (fun q i wr => i = .int .i64 0 ∧ q = .int .i64 k ∧ Below w.heap.size w wr) (fun _ _ _ => 0)
  case atStart => exact ⟨rfl, rfl, Below.refl _ _⟩
  case round =>
    obtain ⟨rfl, rfl, hbel⟩ := hrel
    go_wp2
    go_ret
    exact ⟨rfl, hbel⟩
theorem heldItemS_nil (k : Int) (w : World) : Calls Try.prog 87 #[.slice none 0 0, .int .i64 k] w fun e w' => e = .returned (.int .i64 k) ∧ Below w.heap.size w w' := by
  go_enter Try.func87, Try.ntmps87
  go_wp2
  go_loopw [1, 5] (fun q i wr => i = .int .i64 0 ∧ q = .int .i64 k ∧ Below w.heap.size w wr) (fun _ _ _ => 0)
  case atStart => exact ⟨rfl, rfl, Below.refl _ _⟩
  case round =>
    obtain ⟨rfl, rfl, hbel⟩ := hrel
    go_wp2
    go_ret
    exact ⟨rfl, hbel⟩
theorem markHeldS_nil (k : Int) (w : World) : Calls Try.prog 84 #[.slice none 0 0, .int .i64 k] w fun e w' => e = .returned (.int .i64 k) ∧ Below w.heap.size w w' := by
  go_enter Try.func84, Try.ntmps84
  go_wp2
  go_loopw [1, 5] (fun q i wr => i = .int .i64 0 ∧ q = .int .i64 k ∧ Below w.heap.size w wr) (fun _ _ _ => 0)
  case atStart => exact ⟨rfl, rfl, Below.refl _ _⟩
  case round =>
    obtain ⟨rfl, rfl, hbel⟩ := hrel
    go_wp2
    go_ret
    exact ⟨rfl, hbel⟩
theorem heldHeldS_nil (k : Int) (w : World) : Calls Try.prog 88 #[.slice none 0 0, .int .i64 k] w fun e w' => e = .returned (.int .i64 k) ∧ Below w.heap.size w w' := by
  go_enter Try.func88, Try.ntmps88
  go_wp2
  go_loopw [1, 5] (fun q i wr => i = .int .i64 0 ∧ q = .int .i64 k ∧ Below w.heap.size w wr) (fun _ _ _ => 0)
  case atStart => exact ⟨rfl, rfl, Below.refl _ _⟩
  case round =>
    obtain ⟨rfl, rfl, hbel⟩ := hrel
    go_wp2
    go_ret
    exact ⟨rfl, hbel⟩
theorem markStringS_nil (k : Int) (w : World) : Calls Try.prog 86 #[.slice none 0 0, .int .i64 k] w fun e w' => e = .returned (.int .i64 k) ∧ Below w.heap.size w w' := by
  go_enter Try.func86, Try.ntmps86
  go_wp2
  go_loopw [1, 5] (fun q i wr => i = .int .i64 0 ∧ q = .int .i64 k ∧ Below w.heap.size w wr) (fun _ _ _ => 0)
  case atStart => exact ⟨rfl, rfl, Below.refl _ _⟩
  case round =>
    obtain ⟨rfl, rfl, hbel⟩ := hrel
    go_wp2
    go_ret
    exact ⟨rfl, hbel⟩
theorem heldStringS_nil (k : Int) (w : World) : Calls Try.prog 89 #[.slice none 0 0, .int .i64 k] w fun e w' => e = .returned (.int .i64 k) ∧ Below w.heap.size w w' := by
  go_enter Try.func89, Try.ntmps89
  go_wp2
  go_loopw [1, 5] (fun q i wr => i = .int .i64 0 ∧ q = .int .i64 k ∧ Below w.heap.size w wr) (fun _ _ _ => 0)
  case atStart => exact ⟨rfl, rfl, Below.refl _ _⟩
  case round =>
    obtain ⟨rfl, rfl, hbel⟩ := hrel
    go_wp2
    go_ret
    exact ⟨rfl, hbel⟩
theorem markSend_nil (z k : Int) (w : World) (hk : 0 ≤ k) : Calls Try.prog 61 #[.agg #[.int .i64 z, .slice none 0 0], .int .i64 k] w fun e w' => e = .returned (.int .i64 k) ∧ Below w.heap.size w w' := by
  go_enter Try.func61, Try.ntmps61
  go_wp2_with (go_at_call 83; refine (markItemS_nil k _).mono ?_; rintro e w1 ⟨rfl, hb1⟩)
  go_ret
  exact ⟨rfl, ((Below.refl _ _).alloc (Nat.le_refl _) _).trans (hb1.mono (by simp))⟩
theorem heldSend_nil (z k : Int) (w : World) (hk : 0 ≤ k) : Calls Try.prog 63 #[.agg #[.int .i64 z, .slice none 0 0], .int .i64 k] w fun e w' => e = .returned (.int .i64 k) ∧ Below w.heap.size w w' := by
  go_enter Try.func63, Try.ntmps63
  go_wp2_with (go_at_call 87; refine (heldItemS_nil k _).mono ?_; rintro e w1 ⟨rfl, hb1⟩)
  go_ret
  exact ⟨rfl, ((Below.refl _ _).alloc (Nat.le_refl _) _).trans (hb1.mono (by simp))⟩
theorem markTake_nil (z k : Int) (o : ByteArray) (w : World) (hk : 0 ≤ k) : Calls Try.prog 62 #[.agg #[.int .i64 z, .slice none 0 0, .string o, .slice none 0 0], .int .i64 k] w fun e w' => e = .returned (.int .i64 k) ∧ Below w.heap.size w w' := by
  have HB0 : Hid (∀ o' : Obj, Below w.heap.size w (w.alloc o')) := fun o' => (Below.refl _ _).alloc (Nat.le_refl _) _
  go_enter Try.func62, Try.ntmps62
  go_wp2_with (first
    | (go_at_call 84; refine (markHeldS_nil k _).mono ?_; rintro e w1 ⟨rfl, hb1⟩; (have c3 := hb1.cell (p := ⟨w.heap.size, 3, none⟩) (by simp)); simp [go_sem] at c3)
    | (go_at_call 86; refine (markStringS_nil k _).mono ?_; rintro e w2 ⟨rfl, hb2⟩)
    | fail)
  go_ret
  exact ⟨rfl, kb (kb (HB0.out _) hb1 (Nat.le_refl _)) hb2 (Nat.le_refl _)⟩
theorem heldTake_nil (z k : Int) (o : ByteArray) (w : World) (hk : 0 ≤ k) : Calls Try.prog 64 #[.agg #[.int .i64 z, .slice none 0 0, .string o, .slice none 0 0], .int .i64 k] w fun e w' => e = .returned (.int .i64 k) ∧ Below w.heap.size w w' := by
  have HB0 : Hid (∀ o' : Obj, Below w.heap.size w (w.alloc o')) := fun o' => (Below.refl _ _).alloc (Nat.le_refl _) _
  go_enter Try.func64, Try.ntmps64
  go_wp2_with (first
    | (go_at_call 88; refine (heldHeldS_nil k _).mono ?_; rintro e w1 ⟨rfl, hb1⟩; (have c3 := hb1.cell (p := ⟨w.heap.size, 3, none⟩) (by simp)); simp [go_sem] at c3)
    | (go_at_call 89; refine (heldStringS_nil k _).mono ?_; rintro e w2 ⟨rfl, hb2⟩)
    | fail)
  go_ret
  exact ⟨rfl, kb (kb (HB0.out _) hb1 (Nat.le_refl _)) hb2 (Nat.le_refl _)⟩
theorem markEnd_nil (num : Int) (up : Bool) (life peer since : Int) (owes : Bool) (b nx : Int) (o : ByteArray) (k : Int) (w : World) (hk : 0 ≤ k) : Calls Try.prog 21 #[.agg #[.int .i64 num, .bool up, .int .i64 life, .int .i64 peer, .int .i64 since, .bool owes, .int .i64 b, .slice none 0 0, .int .i64 nx, .slice none 0 0, .string o, .slice none 0 0], .int .i64 k] w fun e w' => e = .returned (.int .i64 k) ∧ Below w.heap.size w w' := by
  have HB0 : Hid (∀ o' : Obj, Below w.heap.size w (w.alloc o')) := fun o' => (Below.refl _ _).alloc (Nat.le_refl _) _
  go_enter Try.func21, Try.ntmps21
  go_wp2_with (first
    | (go_at_call 61; refine (markSend_nil b k _ hk).mono ?_; rintro e w1 ⟨rfl, hb1⟩; (have c8 := hb1.cell (p := ⟨w.heap.size, 8, none⟩) (by simp)); (have c9 := hb1.cell (p := ⟨w.heap.size, 9, none⟩) (by simp)); (have c10 := hb1.cell (p := ⟨w.heap.size, 10, none⟩) (by simp)); (have c11 := hb1.cell (p := ⟨w.heap.size, 11, none⟩) (by simp)); simp [go_sem] at c8 c9 c10 c11)
    | (go_at_call 62; refine (markTake_nil nx k o _ hk).mono ?_; rintro e w2 ⟨rfl, hb2⟩)
    | fail)
  go_ret
  exact ⟨rfl, kb (kb (HB0.out _) hb1 (Nat.le_refl _)) hb2 (Nat.le_refl _)⟩
theorem heldEnd_nil (num : Int) (up : Bool) (life peer since : Int) (owes : Bool) (b nx : Int) (o : ByteArray) (k : Int) (w : World) (hk : 0 ≤ k) : Calls Try.prog 22 #[.agg #[.int .i64 num, .bool up, .int .i64 life, .int .i64 peer, .int .i64 since, .bool owes, .int .i64 b, .slice none 0 0, .int .i64 nx, .slice none 0 0, .string o, .slice none 0 0], .int .i64 k] w fun e w' => e = .returned (.int .i64 k) ∧ Below w.heap.size w w' := by
  have HB0 : Hid (∀ o' : Obj, Below w.heap.size w (w.alloc o')) := fun o' => (Below.refl _ _).alloc (Nat.le_refl _) _
  go_enter Try.func22, Try.ntmps22
  go_wp2_with (first
    | (go_at_call 63; refine (heldSend_nil b k _ hk).mono ?_; rintro e w1 ⟨rfl, hb1⟩; (have c8 := hb1.cell (p := ⟨w.heap.size, 8, none⟩) (by simp)); (have c9 := hb1.cell (p := ⟨w.heap.size, 9, none⟩) (by simp)); (have c10 := hb1.cell (p := ⟨w.heap.size, 10, none⟩) (by simp)); (have c11 := hb1.cell (p := ⟨w.heap.size, 11, none⟩) (by simp)); simp [go_sem] at c8 c9 c10 c11)
    | (go_at_call 64; refine (heldTake_nil nx k o _ hk).mono ?_; rintro e w2 ⟨rfl, hb2⟩)
    | fail)
  go_ret
  exact ⟨rfl, kb (kb (HB0.out _) hb1 (Nat.le_refl _)) hb2 (Nat.le_refl _)⟩
end Go.Proofs.Ytmliinglojmojaa.mk

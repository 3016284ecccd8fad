/-
  THE WALKS of FormPacket, first part: the texts of words and data.
-/
import Derived.Test.YtdmlhfbnhhafmabDoorTagW
import Derived.Test.YtdmlhfbnhhafmabDoorPkPlain
import Derived.WalkKit
import Derived.WalkSpells
import Derived.WalkLawsBesides
import Derived.Laws.StructEq
import Derived.Laws.ResultCell
import Derived.Deep.RegionHeld3
import Derived.Outline
namespace Go.Proofs.YtdmlhfbnhhafmabDoor.tag
open Go.RowKit

theorem within_yes (n lo hi : Int) (w : World) (h1 : lo ≤ n) (h2 : n ≤ hi) :
    Calls Tryd.prog 34 #[.int .i64 n, .int .i64 lo, .int .i64 hi] w fun e w' => e = .returned (.bool true) ∧ w = w' := by
  go_enter Tryd.func34, Tryd.ntmps34
  go_wp2
  go_ret
  exact ⟨ret_bool (by simp), rfl⟩

theorem within_no (n lo hi : Int) (w : World) (h : n < lo ∨ hi < n) :
    Calls Tryd.prog 34 #[.int .i64 n, .int .i64 lo, .int .i64 hi] w fun e w' => e = .returned (.bool false) ∧ w = w' := by
  by_cases h1 : lo ≤ n
  · have h2 : hi < n := by omega
    clear h
    go_enter Tryd.func34, Tryd.ntmps34
    go_wp2
    go_ret
    exact ⟨ret_bool (by simp; omega), rfl⟩
  · clear h
    go_enter Tryd.func34, Tryd.ntmps34
    go_wp2
    go_ret
    exact ⟨ret_bool rfl, rfl⟩

theorem isEnd_yes (n : Int) (w : World) (h1 : 1 ≤ n) (h2 : n ≤ 2) :
    Calls Tryd.prog 39 #[.int .i64 n] w fun e w' => e = .returned (.bool true) ∧ w = w' := by
  by_cases h : n = 1
  · subst h
    go_enter Tryd.func39, Tryd.ntmps39
    go_wp2
    go_ret
    exact ⟨rfl, rfl⟩
  · obtain rfl : n = 2 := by omega
    go_enter Tryd.func39, Tryd.ntmps39
    go_wp2
    go_ret
    exact ⟨rfl, rfl⟩

theorem isEnd_no (n : Int) (w : World) (h : n < 1 ∨ 2 < n) :
    Calls Tryd.prog 39 #[.int .i64 n] w fun e w' => e = .returned (.bool false) ∧ w = w' := by
  have h1 : (n == 1) = false := by simp; omega
  have h2 : (n == 2) = false := by simp; omega
  clear h
  go_enter Tryd.func39, Tryd.ntmps39
  go_wp2
  go_ret
  exact ⟨rfl, rfl⟩

theorem headValid_any (f m y : Int) (w : World) :
    Calls Tryd.prog 33 #[.agg #[.int .i64 f, .int .i64 m, .int .i64 y]] w fun e w' => e = .returned (.bool (headOk f m y)) ∧ Below w.heap.size w w' := by
  by_cases h1 : 1 ≤ f ∧ f ≤ 2
  · by_cases h2 : 1 ≤ m ∧ m ≤ 1000
    · by_cases h3 : 0 ≤ y ∧ y ≤ 1000
      · rw [headOk_mk ⟨h1, h2, h3⟩]
        go_enter Tryd.func33, Tryd.ntmps33
        go_wp2_with (first | (go_at_call 39; first | (refine (isEnd_yes _ _ (by omega) (by omega)).mono ?_; rintro e w' ⟨rfl, rfl⟩) | (refine (isEnd_no _ _ (by omega)).mono ?_; rintro e w' ⟨rfl, rfl⟩)) | (go_at_call 34; first | (refine (within_yes _ _ _ _ (by omega) (by omega)).mono ?_; rintro e w' ⟨rfl, rfl⟩) | (refine (within_no _ _ _ _ (by omega)).mono ?_; rintro e w' ⟨rfl, rfl⟩)))
        go_ret
        exact ⟨rfl, (Below.refl _ _).alloc (Nat.le_refl _) _⟩
      · rw [headOk_no (fun h => h3 h.2.2)]
        go_enter Tryd.func33, Tryd.ntmps33
        go_wp2_with (first | (go_at_call 39; first | (refine (isEnd_yes _ _ (by omega) (by omega)).mono ?_; rintro e w' ⟨rfl, rfl⟩) | (refine (isEnd_no _ _ (by omega)).mono ?_; rintro e w' ⟨rfl, rfl⟩)) | (go_at_call 34; first | (refine (within_yes _ _ _ _ (by omega) (by omega)).mono ?_; rintro e w' ⟨rfl, rfl⟩) | (refine (within_no _ _ _ _ (by omega)).mono ?_; rintro e w' ⟨rfl, rfl⟩)))
        go_ret
        exact ⟨rfl, (Below.refl _ _).alloc (Nat.le_refl _) _⟩
    · rw [headOk_no (fun h => h2 h.2.1)]
      go_enter Tryd.func33, Tryd.ntmps33
      go_wp2_with (first | (go_at_call 39; first | (refine (isEnd_yes _ _ (by omega) (by omega)).mono ?_; rintro e w' ⟨rfl, rfl⟩) | (refine (isEnd_no _ _ (by omega)).mono ?_; rintro e w' ⟨rfl, rfl⟩)) | (go_at_call 34; first | (refine (within_yes _ _ _ _ (by omega) (by omega)).mono ?_; rintro e w' ⟨rfl, rfl⟩) | (refine (within_no _ _ _ _ (by omega)).mono ?_; rintro e w' ⟨rfl, rfl⟩)))
      go_ret
      exact ⟨rfl, (Below.refl _ _).alloc (Nat.le_refl _) _⟩
  · rw [headOk_no (fun h => h1 h.1)]
    go_enter Tryd.func33, Tryd.ntmps33
    go_wp2_with (first | (go_at_call 39; first | (refine (isEnd_yes _ _ (by omega) (by omega)).mono ?_; rintro e w' ⟨rfl, rfl⟩) | (refine (isEnd_no _ _ (by omega)).mono ?_; rintro e w' ⟨rfl, rfl⟩)) | (go_at_call 34; first | (refine (within_yes _ _ _ _ (by omega) (by omega)).mono ?_; rintro e w' ⟨rfl, rfl⟩) | (refine (within_no _ _ _ _ (by omega)).mono ?_; rintro e w' ⟨rfl, rfl⟩)))
    go_ret
    exact ⟨rfl, (Below.refl _ _).alloc (Nat.le_refl _) _⟩

theorem bcell {W w1 : World} (hb : Below W.heap.size W w1) : (∀ b o, b < W.heap.size → w1.cell? ⟨b, o, none⟩ = W.cell? ⟨b, o, none⟩) ∧ (∀ b o, b < W.heap.size → w1.frozen? ⟨b, o, none⟩ = W.frozen? ⟨b, o, none⟩) :=
  ⟨fun b o h => hb.cell (p := ⟨b, o, none⟩) h, fun b o h => hb.frozen (p := ⟨b, o, none⟩) h⟩
theorem keep_cell {W w2 : World} {b o : Nat} {v : Value} (hb : Below W.heap.size W w2) (hs : b < W.heap.size) (h : W.cell? ⟨b, o, none⟩ = some v) : w2.cell? ⟨b, o, none⟩ = some v :=
  (hb.cell (p := ⟨b, o, none⟩) hs).trans h
theorem keep_below {w W w2 : World} (hb : Below W.heap.size W w2) (hs : w.heap.size < W.heap.size) (h : Below w.heap.size w W) : Below w.heap.size w w2 :=
  h.trans (hb.mono (Nat.le_of_lt hs))
theorem keep_size {W w2 : World} {n : Nat} (hb : Below W.heap.size W w2) (hs : n < W.heap.size) : n < w2.heap.size := Nat.lt_of_lt_of_le hs hb.size
theorem below_box {w w1 : World} {o : Obj} (hb : Below (w.alloc o).heap.size (w.alloc o) w1) : Below w.heap.size w w1 :=
  ((Below.refl _ _).alloc (Nat.le_refl _) _).trans (hb.mono (by simp))
theorem wordValid_any (f m y nx mk : Int) (w : World) :
    Calls Tryd.prog 26 #[.agg #[.int .i64 f, .int .i64 m, .int .i64 y, .int .i64 nx, .int .i64 mk]] w fun e w' => e = .returned (.bool (wordOk f m y nx mk)) ∧ Below w.heap.size w w' := by
  by_cases hh : headOk f m y = true
  · by_cases h2 : 0 ≤ nx ∧ nx ≤ 1000000
    · by_cases h3 : 0 ≤ mk ∧ mk ≤ 255
      · go_enter Tryd.func26, Tryd.ntmps26
        go_wp2_with (first | (go_at_call 33; refine (headValid_any _ _ _ _).mono ?_; rintro e w1 ⟨rfl, hb1⟩; (obtain ⟨hc1, hf1⟩ := bcell hb1); (have hz1 := hb1.size); (simp at hz1); simp only [hh]) | (go_at_call 34; first | (refine (within_yes _ _ _ _ (by omega) (by omega)).mono ?_; rintro e w' ⟨rfl, rfl⟩) | (refine (within_no _ _ _ _ (by omega)).mono ?_; rintro e w' ⟨rfl, rfl⟩)))
        go_ret
        exact ⟨ret_bool (by rw [wordOk_mk (headOk_yes hh) h2 h3]), below_box hb1⟩
      · go_enter Tryd.func26, Tryd.ntmps26
        go_wp2_with (first | (go_at_call 33; refine (headValid_any _ _ _ _).mono ?_; rintro e w1 ⟨rfl, hb1⟩; (obtain ⟨hc1, hf1⟩ := bcell hb1); (have hz1 := hb1.size); (simp at hz1); simp only [hh]) | (go_at_call 34; first | (refine (within_yes _ _ _ _ (by omega) (by omega)).mono ?_; rintro e w' ⟨rfl, rfl⟩) | (refine (within_no _ _ _ _ (by omega)).mono ?_; rintro e w' ⟨rfl, rfl⟩)))
        go_ret
        exact ⟨ret_bool (by rw [wordOk_no (fun h => h3 h.2.2)]), below_box hb1⟩
    · go_enter Tryd.func26, Tryd.ntmps26
      go_wp2_with (first | (go_at_call 33; refine (headValid_any _ _ _ _).mono ?_; rintro e w1 ⟨rfl, hb1⟩; (obtain ⟨hc1, hf1⟩ := bcell hb1); (have hz1 := hb1.size); (simp at hz1); simp only [hh]) | (go_at_call 34; first | (refine (within_yes _ _ _ _ (by omega) (by omega)).mono ?_; rintro e w' ⟨rfl, rfl⟩) | (refine (within_no _ _ _ _ (by omega)).mono ?_; rintro e w' ⟨rfl, rfl⟩)))
      go_ret
      exact ⟨ret_bool (by rw [wordOk_no (fun h => h2 h.2.1)]), below_box hb1⟩
  · have hn : wordOk f m y nx mk = false := wordOk_no (fun h => hh (headOk_mk h.1))
    have hh : headOk f m y = false := by simpa using hh
    go_enter Tryd.func26, Tryd.ntmps26
    go_wp2_with (first | (go_at_call 33; refine (headValid_any _ _ _ _).mono ?_; rintro e w1 ⟨rfl, hb1⟩; (obtain ⟨hc1, hf1⟩ := bcell hb1); (have hz1 := hb1.size); (simp at hz1); simp only [hh]) | (go_at_call 34; first | (refine (within_yes _ _ _ _ (by omega) (by omega)).mono ?_; rintro e w' ⟨rfl, rfl⟩) | (refine (within_no _ _ _ _ (by omega)).mono ?_; rintro e w' ⟨rfl, rfl⟩)))
    go_ret
    exact ⟨ret_bool (by rw [hn]), below_box hb1⟩

theorem dataValid_any (f m y sq : Int) (l : Bool) (p : ByteArray) (w : World) :
    Calls Tryd.prog 31 #[.agg #[.int .i64 f, .int .i64 m, .int .i64 y, .int .i64 sq, .bool l, .string p]] w fun e w' => e = .returned (.bool (dataOk f m y sq p.size)) ∧ Below w.heap.size w w' := by
  by_cases hh : headOk f m y = true
  · by_cases h2 : 0 ≤ sq ∧ sq ≤ 999999
    · by_cases h3 : (p.size : Int) ≤ 20
      · go_enter Tryd.func31, Tryd.ntmps31
        go_wp2_with (first | (go_at_call 33; refine (headValid_any _ _ _ _).mono ?_; rintro e w1 ⟨rfl, hb1⟩; (obtain ⟨hc1, hf1⟩ := bcell hb1); (have hz1 := hb1.size); (simp at hz1); simp only [hh]) | (go_at_call 34; first | (refine (within_yes _ _ _ _ (by omega) (by omega)).mono ?_; rintro e w' ⟨rfl, rfl⟩) | (refine (within_no _ _ _ _ (by omega)).mono ?_; rintro e w' ⟨rfl, rfl⟩)))
        go_ret
        exact ⟨ret_bool (by rw [dataOk_mk (headOk_yes hh) h2 (by omega)]), below_box hb1⟩
      · go_enter Tryd.func31, Tryd.ntmps31
        go_wp2_with (first | (go_at_call 33; refine (headValid_any _ _ _ _).mono ?_; rintro e w1 ⟨rfl, hb1⟩; (obtain ⟨hc1, hf1⟩ := bcell hb1); (have hz1 := hb1.size); (simp at hz1); simp only [hh]) | (go_at_call 34; first | (refine (within_yes _ _ _ _ (by omega) (by omega)).mono ?_; rintro e w' ⟨rfl, rfl⟩) | (refine (within_no _ _ _ _ (by omega)).mono ?_; rintro e w' ⟨rfl, rfl⟩)))
        go_ret
        exact ⟨ret_bool (by rw [dataOk_no (by omega)]; simp; omega), below_box hb1⟩
    · go_enter Tryd.func31, Tryd.ntmps31
      go_wp2_with (first | (go_at_call 33; refine (headValid_any _ _ _ _).mono ?_; rintro e w1 ⟨rfl, hb1⟩; (obtain ⟨hc1, hf1⟩ := bcell hb1); (have hz1 := hb1.size); (simp at hz1); simp only [hh]) | (go_at_call 34; first | (refine (within_yes _ _ _ _ (by omega) (by omega)).mono ?_; rintro e w' ⟨rfl, rfl⟩) | (refine (within_no _ _ _ _ (by omega)).mono ?_; rintro e w' ⟨rfl, rfl⟩)))
      go_ret
      exact ⟨ret_bool (by rw [dataOk_no (fun h => h2 h.2.1)]), below_box hb1⟩
  · have hn : dataOk f m y sq p.size = false := dataOk_no (fun h => hh (headOk_mk h.1))
    have hh : headOk f m y = false := by simpa using hh
    go_enter Tryd.func31, Tryd.ntmps31
    go_wp2_with (first | (go_at_call 33; refine (headValid_any _ _ _ _).mono ?_; rintro e w1 ⟨rfl, hb1⟩; (obtain ⟨hc1, hf1⟩ := bcell hb1); (have hz1 := hb1.size); (simp at hz1); simp only [hh]) | (go_at_call 34; first | (refine (within_yes _ _ _ _ (by omega) (by omega)).mono ?_; rintro e w' ⟨rfl, rfl⟩) | (refine (within_no _ _ _ _ (by omega)).mono ?_; rintro e w' ⟨rfl, rfl⟩)))
    go_ret
    exact ⟨ret_bool (by rw [hn]), below_box hb1⟩

theorem l1Number_any (v : Int) (n : Nat) (w : World) (hv : 0 ≤ v ∧ v ≤ 9223372036854775807) (hn : n ≤ 8) :
    Calls Tryd.prog 18 #[.int .i64 v, .int .i64 n] w fun e w' => e = .returned (.string (numStr v n)) ∧ Below w.heap.size w w' := by
  have hcv := conv_one
  have hs1 := strOne_size
  go_enter Tryd.func18, Tryd.ntmps18
  go_wp2
  go_loopw [0, 5, 6] (fun y o i wr => ∃ k : Nat, k ≤ n ∧ i = .int .i64 k ∧ y = .int .i64 (shr8 v k) ∧ o = .string (numStr v k) ∧ Below w.heap.size w wr) (fun _ _ i _ => n - (intOf i).toNat)
  case atStart => exact ⟨0, Nat.zero_le _, rfl, by rw [shr8_zero], rfl, Below.refl _ _⟩
  case round =>
    obtain ⟨k, hkk, rfl, rfl, rfl, hbel⟩ := hrel
    have hxb := shr8_bd63 v k hv
    have hns := numStr_size v k
    by_cases hlt : (k : Int) < n
    · go_wp2
      go_roundw
      case rel => exact ⟨k + 1, by omega, by go_num, by rw [shr8_succ], by rw [numStr_succ], hbel.alloc hbel.size _⟩
      case measure => simp [intOf]; omega
    · go_wp2
      go_ret
      exact ⟨ret_str (by rw [show n = k by omega]), hbel⟩

end Go.Proofs.YtdmlhfbnhhafmabDoor.tag

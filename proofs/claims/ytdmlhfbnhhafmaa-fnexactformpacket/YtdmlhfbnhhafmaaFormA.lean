/-
  THE WALKS of FormPacket, first part: the texts of words and data.
-/
import Derived.Test.YtdmlhfbnhhafmaaTagW
import Derived.Test.YtdmlhfbnhhafmaaPkPlain
import Derived.WalkKit
import Derived.WalkSpells
import Derived.WalkLawsBesides
import Derived.Laws.StructEq
import Derived.Laws.ResultCell
import Derived.Deep.RegionHeld3
import Derived.Outline
namespace Go.Proofs.Ytdmlhfbnhhafmaa.tag
open Go.RowKit

theorem within_yes (n lo hi : Int) (w : World) (h1 : lo ≤ n) (h2 : n ≤ hi) :
    Calls Try.prog 53 #[.int .i64 n, .int .i64 lo, .int .i64 hi] w fun e w' => e = .returned (.bool true) ∧ w = w' := by
  go_enter Try.func53, Try.ntmps53
  go_wp2
  go_ret
  exact ⟨ret_bool (by simp), rfl⟩

theorem within_no (n lo hi : Int) (w : World) (h : n < lo ∨ hi < n) :
    Calls Try.prog 53 #[.int .i64 n, .int .i64 lo, .int .i64 hi] w fun e w' => e = .returned (.bool false) ∧ w = w' := by
  by_cases h1 : lo ≤ n
  · have h2 : hi < n := by omega
    clear h
    go_enter Try.func53, Try.ntmps53
    go_wp2
    go_ret
    exact ⟨ret_bool (by simp; omega), rfl⟩
  · clear h
    go_enter Try.func53, Try.ntmps53
    go_wp2
    go_ret
    exact ⟨ret_bool rfl, rfl⟩

theorem isEnd_yes (n : Int) (w : World) (h1 : 1 ≤ n) (h2 : n ≤ 2) :
    Calls Try.prog 82 #[.int .i64 n] w fun e w' => e = .returned (.bool true) ∧ w = w' := by
  by_cases h : n = 1
  · subst h
    go_enter Try.func82, Try.ntmps82
    go_wp2
    go_ret
    exact ⟨rfl, rfl⟩
  · obtain rfl : n = 2 := by omega
    go_enter Try.func82, Try.ntmps82
    go_wp2
    go_ret
    exact ⟨rfl, rfl⟩

theorem isEnd_no (n : Int) (w : World) (h : n < 1 ∨ 2 < n) :
    Calls Try.prog 82 #[.int .i64 n] w fun e w' => e = .returned (.bool false) ∧ w = w' := by
  have h1 : (n == 1) = false := by simp; omega
  have h2 : (n == 2) = false := by simp; omega
  clear h
  go_enter Try.func82, Try.ntmps82
  go_wp2
  go_ret
  exact ⟨rfl, rfl⟩

theorem headValid_any (f m y : Int) (w : World) :
    Calls Try.prog 81 #[.agg #[.int .i64 f, .int .i64 m, .int .i64 y]] w fun e w' => e = .returned (.bool (headOk f m y)) ∧ Below w.heap.size w w' := by
  by_cases h1 : 1 ≤ f ∧ f ≤ 2
  · by_cases h2 : 1 ≤ m ∧ m ≤ 1000
    · by_cases h3 : 0 ≤ y ∧ y ≤ 1000
      · rw [headOk_mk ⟨h1, h2, h3⟩]
        go_enter Try.func81, Try.ntmps81
        go_wp2_with (first | (go_at_call 82; first | (refine (isEnd_yes _ _ (by omega) (by omega)).mono ?_; rintro e w' ⟨rfl, rfl⟩) | (refine (isEnd_no _ _ (by omega)).mono ?_; rintro e w' ⟨rfl, rfl⟩)) | (go_at_call 53; first | (refine (within_yes _ _ _ _ (by omega) (by omega)).mono ?_; rintro e w' ⟨rfl, rfl⟩) | (refine (within_no _ _ _ _ (by omega)).mono ?_; rintro e w' ⟨rfl, rfl⟩)))
        go_ret
        exact ⟨rfl, (Below.refl _ _).alloc (Nat.le_refl _) _⟩
      · rw [headOk_no (fun h => h3 h.2.2)]
        go_enter Try.func81, Try.ntmps81
        go_wp2_with (first | (go_at_call 82; first | (refine (isEnd_yes _ _ (by omega) (by omega)).mono ?_; rintro e w' ⟨rfl, rfl⟩) | (refine (isEnd_no _ _ (by omega)).mono ?_; rintro e w' ⟨rfl, rfl⟩)) | (go_at_call 53; first | (refine (within_yes _ _ _ _ (by omega) (by omega)).mono ?_; rintro e w' ⟨rfl, rfl⟩) | (refine (within_no _ _ _ _ (by omega)).mono ?_; rintro e w' ⟨rfl, rfl⟩)))
        go_ret
        exact ⟨rfl, (Below.refl _ _).alloc (Nat.le_refl _) _⟩
    · rw [headOk_no (fun h => h2 h.2.1)]
      go_enter Try.func81, Try.ntmps81
      go_wp2_with (first | (go_at_call 82; first | (refine (isEnd_yes _ _ (by omega) (by omega)).mono ?_; rintro e w' ⟨rfl, rfl⟩) | (refine (isEnd_no _ _ (by omega)).mono ?_; rintro e w' ⟨rfl, rfl⟩)) | (go_at_call 53; first | (refine (within_yes _ _ _ _ (by omega) (by omega)).mono ?_; rintro e w' ⟨rfl, rfl⟩) | (refine (within_no _ _ _ _ (by omega)).mono ?_; rintro e w' ⟨rfl, rfl⟩)))
      go_ret
      exact ⟨rfl, (Below.refl _ _).alloc (Nat.le_refl _) _⟩
  · rw [headOk_no (fun h => h1 h.1)]
    go_enter Try.func81, Try.ntmps81
    go_wp2_with (first | (go_at_call 82; first | (refine (isEnd_yes _ _ (by omega) (by omega)).mono ?_; rintro e w' ⟨rfl, rfl⟩) | (refine (isEnd_no _ _ (by omega)).mono ?_; rintro e w' ⟨rfl, rfl⟩)) | (go_at_call 53; first | (refine (within_yes _ _ _ _ (by omega) (by omega)).mono ?_; rintro e w' ⟨rfl, rfl⟩) | (refine (within_no _ _ _ _ (by omega)).mono ?_; rintro e w' ⟨rfl, rfl⟩)))
    go_ret
    exact ⟨rfl, (Below.refl _ _).alloc (Nat.le_refl _) _⟩

theorem bcell {W w1 : World} (hb : Below W.heap.size W w1) : (∀ b o, b < W.heap.size → w1.cell? ⟨b, o, none⟩ = W.cell? ⟨b, o, none⟩) ∧ (∀ b o, b < W.heap.size → w1.frozen? ⟨b, o, none⟩ = W.frozen? ⟨b, o, none⟩) :=
  ⟨fun b o h => hb.cell (p := ⟨b, o, none⟩) h, fun b o h => hb.frozen (p := ⟨b, o, none⟩) h⟩
theorem keep_cell {W w2 : World} {b o : Nat} {v : Value} (hb : Below W.heap.size W w2) (hs : b < W.heap.size) (h : W.cell? ⟨b, o, none⟩ = some v) : w2.cell? ⟨b, o, none⟩ = some v :=
  (hb.cell (p := ⟨b, o, none⟩) hs).trans h
theorem keep_below {w W w2 : World} (hb : Below W.heap.size W w2) (hs : w.heap.size < W.heap.size) (h : Below w.heap.size w W) : Below w.heap.size w w2 :=
  h.trans (hb.mono (Nat.le_of_lt hs))
theorem keep_size {W w2 : World} {n : Nat} (hb : Below W.heap.size W w2) (hs : n < W.heap.size) : n < w2.heap.size := Nat.lt_of_lt_of_le hs hb.size
theorem below_box {w w1 : World} {o : Obj} (hb : Below (w.alloc o).heap.size (w.alloc o) w1) : Below w.heap.size w w1 :=
  ((Below.refl _ _).alloc (Nat.le_refl _) _).trans (hb.mono (by simp))
theorem wordValid_any (f m y nx mk : Int) (w : World) :
    Calls Try.prog 84 #[.agg #[.int .i64 f, .int .i64 m, .int .i64 y, .int .i64 nx, .int .i64 mk]] w fun e w' => e = .returned (.bool (wordOk f m y nx mk)) ∧ Below w.heap.size w w' := by
  by_cases hh : headOk f m y = true
  · by_cases h2 : 0 ≤ nx ∧ nx ≤ 1000000
    · by_cases h3 : 0 ≤ mk ∧ mk ≤ 255
      · go_enter Try.func84, Try.ntmps84
        go_wp2_with (first | (go_at_call 81; refine (headValid_any _ _ _ _).mono ?_; rintro e w1 ⟨rfl, hb1⟩; (obtain ⟨hc1, hf1⟩ := bcell hb1); (have hz1 := hb1.size); (simp at hz1); simp only [hh]) | (go_at_call 53; first | (refine (within_yes _ _ _ _ (by omega) (by omega)).mono ?_; rintro e w' ⟨rfl, rfl⟩) | (refine (within_no _ _ _ _ (by omega)).mono ?_; rintro e w' ⟨rfl, rfl⟩)))
        go_ret
        exact ⟨ret_bool (by rw [wordOk_mk (headOk_yes hh) h2 h3]), below_box hb1⟩
      · go_enter Try.func84, Try.ntmps84
        go_wp2_with (first | (go_at_call 81; refine (headValid_any _ _ _ _).mono ?_; rintro e w1 ⟨rfl, hb1⟩; (obtain ⟨hc1, hf1⟩ := bcell hb1); (have hz1 := hb1.size); (simp at hz1); simp only [hh]) | (go_at_call 53; first | (refine (within_yes _ _ _ _ (by omega) (by omega)).mono ?_; rintro e w' ⟨rfl, rfl⟩) | (refine (within_no _ _ _ _ (by omega)).mono ?_; rintro e w' ⟨rfl, rfl⟩)))
        go_ret
        exact ⟨ret_bool (by rw [wordOk_no (fun h => h3 h.2.2)]), below_box hb1⟩
    · go_enter Try.func84, Try.ntmps84
      go_wp2_with (first | (go_at_call 81; refine (headValid_any _ _ _ _).mono ?_; rintro e w1 ⟨rfl, hb1⟩; (obtain ⟨hc1, hf1⟩ := bcell hb1); (have hz1 := hb1.size); (simp at hz1); simp only [hh]) | (go_at_call 53; first | (refine (within_yes _ _ _ _ (by omega) (by omega)).mono ?_; rintro e w' ⟨rfl, rfl⟩) | (refine (within_no _ _ _ _ (by omega)).mono ?_; rintro e w' ⟨rfl, rfl⟩)))
      go_ret
      exact ⟨ret_bool (by rw [wordOk_no (fun h => h2 h.2.1)]), below_box hb1⟩
  · have hn : wordOk f m y nx mk = false := wordOk_no (fun h => hh (headOk_mk h.1))
    have hh : headOk f m y = false := by simpa using hh
    go_enter Try.func84, Try.ntmps84
    go_wp2_with (first | (go_at_call 81; refine (headValid_any _ _ _ _).mono ?_; rintro e w1 ⟨rfl, hb1⟩; (obtain ⟨hc1, hf1⟩ := bcell hb1); (have hz1 := hb1.size); (simp at hz1); simp only [hh]) | (go_at_call 53; first | (refine (within_yes _ _ _ _ (by omega) (by omega)).mono ?_; rintro e w' ⟨rfl, rfl⟩) | (refine (within_no _ _ _ _ (by omega)).mono ?_; rintro e w' ⟨rfl, rfl⟩)))
    go_ret
    exact ⟨ret_bool (by rw [hn]), below_box hb1⟩

theorem dataValid_any (f m y sq : Int) (l : Bool) (p : ByteArray) (w : World) :
    Calls Try.prog 88 #[.agg #[.int .i64 f, .int .i64 m, .int .i64 y, .int .i64 sq, .bool l, .string p]] w fun e w' => e = .returned (.bool (dataOk f m y sq p.size)) ∧ Below w.heap.size w w' := by
  by_cases hh : headOk f m y = true
  · by_cases h2 : 0 ≤ sq ∧ sq ≤ 999999
    · by_cases h3 : (p.size : Int) ≤ 20
      · go_enter Try.func88, Try.ntmps88
        go_wp2_with (first | (go_at_call 81; refine (headValid_any _ _ _ _).mono ?_; rintro e w1 ⟨rfl, hb1⟩; (obtain ⟨hc1, hf1⟩ := bcell hb1); (have hz1 := hb1.size); (simp at hz1); simp only [hh]) | (go_at_call 53; first | (refine (within_yes _ _ _ _ (by omega) (by omega)).mono ?_; rintro e w' ⟨rfl, rfl⟩) | (refine (within_no _ _ _ _ (by omega)).mono ?_; rintro e w' ⟨rfl, rfl⟩)))
        go_ret
        exact ⟨ret_bool (by rw [dataOk_mk (headOk_yes hh) h2 (by omega)]), below_box hb1⟩
      · go_enter Try.func88, Try.ntmps88
        go_wp2_with (first | (go_at_call 81; refine (headValid_any _ _ _ _).mono ?_; rintro e w1 ⟨rfl, hb1⟩; (obtain ⟨hc1, hf1⟩ := bcell hb1); (have hz1 := hb1.size); (simp at hz1); simp only [hh]) | (go_at_call 53; first | (refine (within_yes _ _ _ _ (by omega) (by omega)).mono ?_; rintro e w' ⟨rfl, rfl⟩) | (refine (within_no _ _ _ _ (by omega)).mono ?_; rintro e w' ⟨rfl, rfl⟩)))
        go_ret
        exact ⟨ret_bool (by rw [dataOk_no (by omega)]; simp; omega), below_box hb1⟩
    · go_enter Try.func88, Try.ntmps88
      go_wp2_with (first | (go_at_call 81; refine (headValid_any _ _ _ _).mono ?_; rintro e w1 ⟨rfl, hb1⟩; (obtain ⟨hc1, hf1⟩ := bcell hb1); (have hz1 := hb1.size); (simp at hz1); simp only [hh]) | (go_at_call 53; first | (refine (within_yes _ _ _ _ (by omega) (by omega)).mono ?_; rintro e w' ⟨rfl, rfl⟩) | (refine (within_no _ _ _ _ (by omega)).mono ?_; rintro e w' ⟨rfl, rfl⟩)))
      go_ret
      exact ⟨ret_bool (by rw [dataOk_no (fun h => h2 h.2.1)]), below_box hb1⟩
  · have hn : dataOk f m y sq p.size = false := dataOk_no (fun h => hh (headOk_mk h.1))
    have hh : headOk f m y = false := by simpa using hh
    go_enter Try.func88, Try.ntmps88
    go_wp2_with (first | (go_at_call 81; refine (headValid_any _ _ _ _).mono ?_; rintro e w1 ⟨rfl, hb1⟩; (obtain ⟨hc1, hf1⟩ := bcell hb1); (have hz1 := hb1.size); (simp at hz1); simp only [hh]) | (go_at_call 53; first | (refine (within_yes _ _ _ _ (by omega) (by omega)).mono ?_; rintro e w' ⟨rfl, rfl⟩) | (refine (within_no _ _ _ _ (by omega)).mono ?_; rintro e w' ⟨rfl, rfl⟩)))
    go_ret
    exact ⟨ret_bool (by rw [hn]), below_box hb1⟩

theorem l1Number_any (v : Int) (n : Nat) (w : World) (hv : 0 ≤ v ∧ v ≤ 9223372036854775807) (hn : n ≤ 8) :
    Calls Try.prog 58 #[.int .i64 v, .int .i64 n] w fun e w' => e = .returned (.string (numStr v n)) ∧ Below w.heap.size w w' := by
  have hcv := conv_one
  have hs1 := strOne_size
  go_enter Try.func58, Try.ntmps58
  go_wp2
  go_loopw [0, 5, 6] (fun y o i wr => ∃ k : Nat, k ≤ n ∧ i = .int .i64 k ∧ y = .int .i64 (shr8 v k) ∧ o = .string (numStr v k) ∧ Below w.heap.size w wr) (fun _ _ i _ => n - (intOf i).toNat)
  case atStart => exact ⟨0, Nat.zero_le _, rfl, by rw [shr8_zero], rfl, Below.refl _ _⟩
  case round =>
    obtain ⟨k, hkk, rfl, rfl, rfl, hbel⟩ := hrel
    have hxb := shr8_bd63 v k hv
    have hns := numStr_size v k
    by_cases hlt : (k : Int) < n
    · go_wp2
      go_roundw
      case rel => exact ⟨k + 1, by omega, by go_num, by rw [shr8_succ], by rw [numStr_succ], hbel.alloc hbel.size _⟩
      case measure => simp [intOf]; omega
    · go_wp2
      go_ret
      exact ⟨ret_str (by rw [show n = k by omega]), hbel⟩

theorem byteText_any (v : Int) (w : World) (hv : 0 ≤ v ∧ v ≤ 9223372036854775807) :
    Calls Try.prog 86 #[.int .i64 v] w fun e w' => e = .returned (.string (numStr v 1)) ∧ Below w.heap.size w w' := by
  go_enter Try.func86, Try.ntmps86
  go_wp2_with (go_at_call 37; refine (numberText_any v 1 _ (by omega) (by omega)).mono ?_; rintro e w2 ⟨rfl, hb2⟩)
  go_ret
  exact ⟨rfl, hb2⟩

theorem toPacket_any (k f m y nx mk sq : Int) (l : Bool) (p : ByteArray) (w : World) :
    Calls Try.prog 28 #[.agg #[.int .i64 k, .int .i64 f, .int .i64 m, .int .i64 y, .int .i64 nx, .int .i64 mk, .int .i64 sq, .bool l, .string p]] w fun e w' =>
      e = .returned (.agg #[.int .i64 k, .int .i64 f, .int .i64 m, .int .i64 y, .int .i64 nx, .int .i64 mk, .int .i64 sq, .bool l, .string p]) ∧ Below w.heap.size w w' := by
  go_enter Try.func28, Try.ntmps28
  go_wp2
  exact bodyPost_ret (v := .agg #[.int .i64 k, .int .i64 f, .int .i64 m, .int .i64 y, .int .i64 nx, .int .i64 mk, .int .i64 sq, .bool l, .string p]) (by simp [results, Try.results28, go_sem]) rfl
    ⟨rfl, (((Below.refl _ _).alloc (Nat.le_refl _) _).alloc (by simp) _).alloc (by simp; omega) _⟩

theorem headText_any (k f m y : Int) (w : World) (hk : 0 ≤ k ∧ k ≤ 9) (h : headOk f m y = true) :
    Calls Try.prog 85 #[.agg #[.int .i64 f, .int .i64 m, .int .i64 y], .int .i64 k] w fun e w' => e = .returned (.string (headStr k f m y)) ∧ Below w.heap.size w w' := by
  have hh := headOk_yes h
  have hns := numStr_size
  have hwm := wrapu (v := m) (by omega)
  have hwy := wrapu (v := y) (by omega)
  go_enter Try.func85, Try.ntmps85
  go_wp2
  go_region_held3 (fun w' => w'.cell? ⟨w.heap.size, 0, none⟩ = some (.int .i64 f) ∧ w'.cell? ⟨w.heap.size, 1, none⟩ = some (.int .i64 m) ∧ w'.cell? ⟨w.heap.size, 2, none⟩ = some (.int .i64 y) ∧ Below w.heap.size w w' ∧ w.heap.size < w'.heap.size)
    (first | assumption | ((repeat' apply And.intro) <;> first | (simp; done) | exact ((Below.refl _ _).alloc (Nat.le_refl _) _).drew) | (go_split_ands; (repeat' apply And.intro) <;> first | exact keep_cell hb2 (by assumption) (by assumption) | exact keep_below hb2 (by assumption) (by assumption) | exact keep_size hb2 (by assumption)))
    (first | (go_at_call 86; refine (byteText_any _ _ (by omega)).mono ?_; rintro e w2 ⟨rfl, hb2⟩) | (go_at_call 37; refine (numberText_any _ 2 _ (by omega) (by omega)).mono ?_; rintro e w2 ⟨rfl, hb2⟩))
  have hbl : Below w.heap.size w w2 := by go_split_ands; assumption
  go_wp2
  go_ret
  exact ⟨rfl, hbl⟩

theorem wordBody_any (f m y nx mk : Int) (w : World) (h : wordOk f m y nx mk = true) :
    Calls Try.prog 83 #[.agg #[.int .i64 f, .int .i64 m, .int .i64 y, .int .i64 nx, .int .i64 mk]] w fun e w' => e = .returned (.string (wordStr f m y nx mk)) ∧ Below w.heap.size w w' := by
  have hh := wordOk_yes h
  have hho := headOk_mk hh.1
  have hns := numStr_size
  have hhs := headStr_size
  have hwm := wrapu (v := nx) (by omega)
  go_enter Try.func83, Try.ntmps83
  go_wp2
  go_region_held3 (fun w' => w'.cell? ⟨w.heap.size, 0, none⟩ = some (.int .i64 f) ∧ w'.cell? ⟨w.heap.size, 1, none⟩ = some (.int .i64 m) ∧ w'.cell? ⟨w.heap.size, 2, none⟩ = some (.int .i64 y) ∧ w'.cell? ⟨w.heap.size, 3, none⟩ = some (.int .i64 nx) ∧ w'.cell? ⟨w.heap.size, 4, none⟩ = some (.int .i64 mk) ∧ Below w.heap.size w w' ∧ w.heap.size < w'.heap.size)
    (first | assumption | ((repeat' apply And.intro) <;> first | (simp; done) | exact ((Below.refl _ _).alloc (Nat.le_refl _) _).drew) | (go_split_ands; (repeat' apply And.intro) <;> first | exact keep_cell hb2 (by assumption) (by assumption) | exact keep_below hb2 (by assumption) (by assumption) | exact keep_size hb2 (by assumption)))
    (first | (go_at_call 86; refine (byteText_any _ _ (by omega)).mono ?_; rintro e w2 ⟨rfl, hb2⟩) | (go_at_call 37; refine (numberText_any _ 4 _ (by omega) (by omega)).mono ?_; rintro e w2 ⟨rfl, hb2⟩) | (go_at_call 85; refine (headText_any _ _ _ _ _ (by omega) hho).mono ?_; rintro e w2 ⟨rfl, hb2⟩))
  have hbl : Below w.heap.size w w2 := by go_split_ands; assumption
  go_wp2
  go_ret
  exact ⟨rfl, hbl⟩

theorem dataBody_any (f m y sq : Int) (l : Bool) (p : ByteArray) (w : World) (h : dataOk f m y sq p.size = true) :
    Calls Try.prog 87 #[.agg #[.int .i64 f, .int .i64 m, .int .i64 y, .int .i64 sq, .bool l, .string p]] w fun e w' => e = .returned (.string (dataStr f m y sq l p)) ∧ Below w.heap.size w w' := by
  have hh := dataOk_yes h
  have hho := headOk_mk hh.1
  have hns := numStr_size
  have hhs := headStr_size
  have hwm := wrapu (v := sq) (by omega)
  have hsmall : ¬ (9223372036854775807 < 6 + 4 + 1 + p.size) := by omega
  cases l
  all_goals
    go_enter Try.func87, Try.ntmps87
    go_wp2
    go_region_held3 (fun w' => w'.cell? ⟨w.heap.size, 0, none⟩ = some (.int .i64 f) ∧ w'.cell? ⟨w.heap.size, 1, none⟩ = some (.int .i64 m) ∧ w'.cell? ⟨w.heap.size, 2, none⟩ = some (.int .i64 y) ∧ w'.cell? ⟨w.heap.size, 3, none⟩ = some (.int .i64 sq) ∧ w'.cell? ⟨w.heap.size, 5, none⟩ = some (.string p) ∧ Below w.heap.size w w' ∧ w.heap.size < w'.heap.size)
      (first | assumption | ((repeat' apply And.intro) <;> first | (simp; done) | exact ((Below.refl _ _).alloc (Nat.le_refl _) _).drew) | (go_split_ands; (repeat' apply And.intro) <;> first | exact keep_cell hb2 (by assumption) (by assumption) | exact keep_below hb2 (by assumption) (by assumption) | exact keep_size hb2 (by assumption)))
      (first | (go_at_call 86; refine (byteText_any _ _ (by omega)).mono ?_; rintro e w2 ⟨rfl, hb2⟩) | (go_at_call 37; refine (numberText_any _ 4 _ (by omega) (by omega)).mono ?_; rintro e w2 ⟨rfl, hb2⟩) | (go_at_call 85; refine (headText_any _ _ _ _ _ (by omega) hho).mono ?_; rintro e w2 ⟨rfl, hb2⟩))
    have hbl : Below w.heap.size w w2 := by go_split_ands; assumption
    go_wp2
    go_ret
    exact ⟨rfl, hbl⟩

end Go.Proofs.Ytdmlhfbnhhafmaa.tag

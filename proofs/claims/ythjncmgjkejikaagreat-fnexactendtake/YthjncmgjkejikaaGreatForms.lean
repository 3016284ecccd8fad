import Derived.Test.YthjncmgjkejikaaGreatProg
import Derived.Test.YthjncmgjkejikaaGreatBase
import Derived.WalkKit
import Derived.WalkSpells
import Derived.WalkLawsBesides
import Derived.Outline
import Derived.Laws.StructEq
import Derived.Laws.ResultCell
import Derived.Deep.RegionHeld3
import Derived.Laws.Tables
import Derived.Deep.MidRow
/-
  THE WALKS of the tags: spec.Tag, impl.Tag and what they call.
-/
namespace Go.Proofs.YthjncmgjkejikaaGreat.tag
open Go.RowKit

theorem l1In_yes (n lo hi : Int) (w : World) (h1 : lo ≤ n) (h2 : n ≤ hi) :
    Calls Tryz.prog 45 #[.int .i64 n, .int .i64 lo, .int .i64 hi] w fun e w' => e = .returned (.bool true) ∧ w = w' := by
  go_enter Tryz.func45, Tryz.ntmps45
  go_wp2
  go_ret
  exact ⟨ret_bool (by simp), rfl⟩

theorem l1In_no (n lo hi : Int) (w : World) (h : n < lo ∨ hi < n) :
    Calls Tryz.prog 45 #[.int .i64 n, .int .i64 lo, .int .i64 hi] w fun e w' => e = .returned (.bool false) ∧ w = w' := by
  by_cases h1 : lo ≤ n
  · have h2 : hi < n := by omega
    clear h
    go_enter Tryz.func45, Tryz.ntmps45
    go_wp2
    go_ret
    exact ⟨ret_bool (by simp; omega), rfl⟩
  · clear h
    go_enter Tryz.func45, Tryz.ntmps45
    go_wp2
    go_ret
    exact ⟨ret_bool rfl, rfl⟩

/-- 'string([]byte{z})': the one byte that was just laid -/
theorem conv_one (u : World) (z : Int) :
    (convert 153 9 (.slice (some ⟨u.heap.size, 0, none⟩) 1 1)).run Tryz.prog (u.alloc (.cells #[.int .u8 z] 5)) = .ok (.string (strOfNums [z])) (u.alloc (.cells #[.int .u8 z] 5)) :=
  run_convert_bytes_arg (P := Tryz.prog) _ 153 5 Tryz.underlying153 Tryz.underlying5 u.heap.size 0 1 1 [z] rfl
    (fun i hi => by
      obtain rfl : i = 0 := by omega
      rw [World.cell?_alloc_at (hn := rfl)]; rfl) 9 Tryz.underlying9

end Go.Proofs.YthjncmgjkejikaaGreat.tag
/-
  PLAIN MATHEMATICS for the packets.
-/
namespace Go.Proofs.YthjncmgjkejikaaGreat.tag
open Go.RowKit

def headOk (f m y : Int) : Bool := decide ((1 ≤ f ∧ f ≤ 2) ∧ (1 ≤ m ∧ m ≤ 1000) ∧ 0 ≤ y ∧ y ≤ 1000)
def wordOk (f m y nx mk : Int) : Bool := decide (((1 ≤ f ∧ f ≤ 2) ∧ (1 ≤ m ∧ m ≤ 1000) ∧ 0 ≤ y ∧ y ≤ 1000) ∧ (0 ≤ nx ∧ nx ≤ 1000000) ∧ 0 ≤ mk ∧ mk ≤ 255)
def dataOk (f m y sq : Int) (ps : Nat) : Bool := decide (((1 ≤ f ∧ f ≤ 2) ∧ (1 ≤ m ∧ m ≤ 1000) ∧ 0 ≤ y ∧ y ≤ 1000) ∧ (0 ≤ sq ∧ sq ≤ 999999) ∧ ps ≤ 20)
/-- a packet is valid -/
def pkOk (k f m y nx mk sq : Int) (l : Bool) (p : ByteArray) : Bool :=
  if k = 1 then wordOk f m y nx mk && decide (sq = 0 ∧ l = false ∧ p.size = 0)
  else if k = 2 then dataOk f m y sq p.size && decide (nx = 0 ∧ mk = 0) else false
theorem headOk_yes {f m y : Int} (h : headOk f m y = true) : (1 ≤ f ∧ f ≤ 2) ∧ (1 ≤ m ∧ m ≤ 1000) ∧ 0 ≤ y ∧ y ≤ 1000 := of_decide_eq_true h
theorem headOk_mk {f m y : Int} (h : (1 ≤ f ∧ f ≤ 2) ∧ (1 ≤ m ∧ m ≤ 1000) ∧ 0 ≤ y ∧ y ≤ 1000) : headOk f m y = true := decide_eq_true h
theorem headOk_no {f m y : Int} (h : ¬ ((1 ≤ f ∧ f ≤ 2) ∧ (1 ≤ m ∧ m ≤ 1000) ∧ 0 ≤ y ∧ y ≤ 1000)) : headOk f m y = false := decide_eq_false h
theorem wordOk_mk {f m y nx mk : Int} (h1 : (1 ≤ f ∧ f ≤ 2) ∧ (1 ≤ m ∧ m ≤ 1000) ∧ 0 ≤ y ∧ y ≤ 1000) (h2 : 0 ≤ nx ∧ nx ≤ 1000000) (h3 : 0 ≤ mk ∧ mk ≤ 255) : wordOk f m y nx mk = true := decide_eq_true ⟨h1, h2, h3⟩
theorem dataOk_mk {f m y sq : Int} {ps : Nat} (h1 : (1 ≤ f ∧ f ≤ 2) ∧ (1 ≤ m ∧ m ≤ 1000) ∧ 0 ≤ y ∧ y ≤ 1000) (h2 : 0 ≤ sq ∧ sq ≤ 999999) (h3 : ps ≤ 20) : dataOk f m y sq ps = true := decide_eq_true ⟨h1, h2, h3⟩
theorem wordOk_no {f m y nx mk : Int} (h : ¬ (((1 ≤ f ∧ f ≤ 2) ∧ (1 ≤ m ∧ m ≤ 1000) ∧ 0 ≤ y ∧ y ≤ 1000) ∧ (0 ≤ nx ∧ nx ≤ 1000000) ∧ 0 ≤ mk ∧ mk ≤ 255)) : wordOk f m y nx mk = false := decide_eq_false h
theorem dataOk_no {f m y sq : Int} {ps : Nat} (h : ¬ (((1 ≤ f ∧ f ≤ 2) ∧ (1 ≤ m ∧ m ≤ 1000) ∧ 0 ≤ y ∧ y ≤ 1000) ∧ (0 ≤ sq ∧ sq ≤ 999999) ∧ ps ≤ 20)) : dataOk f m y sq ps = false := decide_eq_false h
theorem pkOk_other {k f m y nx mk sq : Int} {l : Bool} {p : ByteArray} (h1 : k ≠ 1) (h2 : k ≠ 2) : pkOk k f m y nx mk sq l p = false := by simp [pkOk, h1, h2]
theorem pkOk_word {f m y nx mk sq : Int} {l : Bool} {p : ByteArray} (h : pkOk 1 f m y nx mk sq l p = true) : wordOk f m y nx mk = true ∧ sq = 0 ∧ l = false ∧ p = ⟨#[]⟩ := by
  simp [pkOk] at h
  exact ⟨h.1, h.2.1, h.2.2.1, h.2.2.2.trans rfl⟩
theorem pkOk_data {f m y nx mk sq : Int} {l : Bool} {p : ByteArray} (h : pkOk 2 f m y nx mk sq l p = true) : dataOk f m y sq p.size = true ∧ nx = 0 ∧ mk = 0 := by
  simpa [pkOk] using h

theorem shr8_bd63 (v : Int) (k : Nat) (h : 0 ≤ v ∧ v ≤ 9223372036854775807) : 0 ≤ shr8 v k ∧ shr8 v k ≤ 9223372036854775807 := by
  induction k with
  | zero => rw [shr8_zero]; exact h
  | succ k ih => rw [← shr8_succ]; omega

theorem pkOk_nohead {k f m y nx mk sq : Int} {l : Bool} {p : ByteArray} (h : ¬ ((1 ≤ f ∧ f ≤ 2) ∧ (1 ≤ m ∧ m ≤ 1000) ∧ 0 ≤ y ∧ y ≤ 1000)) : pkOk k f m y nx mk sq l p = false := by
  unfold pkOk
  rw [wordOk_no (fun x => h x.1), dataOk_no (fun x => h x.1)]
  simp

end Go.Proofs.YthjncmgjkejikaaGreat.tag
/-
  THE WALKS of FormPacket, first part: the texts of words and data.
-/
namespace Go.Proofs.YthjncmgjkejikaaGreat.tag
open Go.RowKit

theorem within_yes (n lo hi : Int) (w : World) (h1 : lo ≤ n) (h2 : n ≤ hi) :
    Calls Tryz.prog 56 #[.int .i64 n, .int .i64 lo, .int .i64 hi] w fun e w' => e = .returned (.bool true) ∧ w = w' := by
  go_enter Tryz.func56, Tryz.ntmps56
  go_wp2
  go_ret
  exact ⟨ret_bool (by simp), rfl⟩

theorem within_no (n lo hi : Int) (w : World) (h : n < lo ∨ hi < n) :
    Calls Tryz.prog 56 #[.int .i64 n, .int .i64 lo, .int .i64 hi] w fun e w' => e = .returned (.bool false) ∧ w = w' := by
  by_cases h1 : lo ≤ n
  · have h2 : hi < n := by omega
    clear h
    go_enter Tryz.func56, Tryz.ntmps56
    go_wp2
    go_ret
    exact ⟨ret_bool (by simp; omega), rfl⟩
  · clear h
    go_enter Tryz.func56, Tryz.ntmps56
    go_wp2
    go_ret
    exact ⟨ret_bool rfl, rfl⟩

theorem isEnd_yes (n : Int) (w : World) (h1 : 1 ≤ n) (h2 : n ≤ 2) :
    Calls Tryz.prog 55 #[.int .i64 n] w fun e w' => e = .returned (.bool true) ∧ w = w' := by
  by_cases h : n = 1
  · subst h
    go_enter Tryz.func55, Tryz.ntmps55
    go_wp2
    go_ret
    exact ⟨rfl, rfl⟩
  · obtain rfl : n = 2 := by omega
    go_enter Tryz.func55, Tryz.ntmps55
    go_wp2
    go_ret
    exact ⟨rfl, rfl⟩

theorem isEnd_no (n : Int) (w : World) (h : n < 1 ∨ 2 < n) :
    Calls Tryz.prog 55 #[.int .i64 n] w fun e w' => e = .returned (.bool false) ∧ w = w' := by
  have h1 : (n == 1) = false := by simp; omega
  have h2 : (n == 2) = false := by simp; omega
  clear h
  go_enter Tryz.func55, Tryz.ntmps55
  go_wp2
  go_ret
  exact ⟨rfl, rfl⟩

theorem headValid_any (f m y : Int) (w : World) :
    Calls Tryz.prog 139 #[.agg #[.int .i64 f, .int .i64 m, .int .i64 y]] w fun e w' => e = .returned (.bool (headOk f m y)) ∧ Below w.heap.size w w' := by
  by_cases h1 : 1 ≤ f ∧ f ≤ 2
  · by_cases h2 : 1 ≤ m ∧ m ≤ 1000
    · by_cases h3 : 0 ≤ y ∧ y ≤ 1000
      · rw [headOk_mk ⟨h1, h2, h3⟩]
        go_enter Tryz.func139, Tryz.ntmps139
        go_wp2_with (first | (go_at_call 55; first | (refine (isEnd_yes _ _ (by omega) (by omega)).mono ?_; rintro e w' ⟨rfl, rfl⟩) | (refine (isEnd_no _ _ (by omega)).mono ?_; rintro e w' ⟨rfl, rfl⟩)) | (go_at_call 56; first | (refine (within_yes _ _ _ _ (by omega) (by omega)).mono ?_; rintro e w' ⟨rfl, rfl⟩) | (refine (within_no _ _ _ _ (by omega)).mono ?_; rintro e w' ⟨rfl, rfl⟩)))
        go_ret
        exact ⟨rfl, (Below.refl _ _).alloc (Nat.le_refl _) _⟩
      · rw [headOk_no (fun h => h3 h.2.2)]
        go_enter Tryz.func139, Tryz.ntmps139
        go_wp2_with (first | (go_at_call 55; first | (refine (isEnd_yes _ _ (by omega) (by omega)).mono ?_; rintro e w' ⟨rfl, rfl⟩) | (refine (isEnd_no _ _ (by omega)).mono ?_; rintro e w' ⟨rfl, rfl⟩)) | (go_at_call 56; first | (refine (within_yes _ _ _ _ (by omega) (by omega)).mono ?_; rintro e w' ⟨rfl, rfl⟩) | (refine (within_no _ _ _ _ (by omega)).mono ?_; rintro e w' ⟨rfl, rfl⟩)))
        go_ret
        exact ⟨rfl, (Below.refl _ _).alloc (Nat.le_refl _) _⟩
    · rw [headOk_no (fun h => h2 h.2.1)]
      go_enter Tryz.func139, Tryz.ntmps139
      go_wp2_with (first | (go_at_call 55; first | (refine (isEnd_yes _ _ (by omega) (by omega)).mono ?_; rintro e w' ⟨rfl, rfl⟩) | (refine (isEnd_no _ _ (by omega)).mono ?_; rintro e w' ⟨rfl, rfl⟩)) | (go_at_call 56; first | (refine (within_yes _ _ _ _ (by omega) (by omega)).mono ?_; rintro e w' ⟨rfl, rfl⟩) | (refine (within_no _ _ _ _ (by omega)).mono ?_; rintro e w' ⟨rfl, rfl⟩)))
      go_ret
      exact ⟨rfl, (Below.refl _ _).alloc (Nat.le_refl _) _⟩
  · rw [headOk_no (fun h => h1 h.1)]
    go_enter Tryz.func139, Tryz.ntmps139
    go_wp2_with (first | (go_at_call 55; first | (refine (isEnd_yes _ _ (by omega) (by omega)).mono ?_; rintro e w' ⟨rfl, rfl⟩) | (refine (isEnd_no _ _ (by omega)).mono ?_; rintro e w' ⟨rfl, rfl⟩)) | (go_at_call 56; first | (refine (within_yes _ _ _ _ (by omega) (by omega)).mono ?_; rintro e w' ⟨rfl, rfl⟩) | (refine (within_no _ _ _ _ (by omega)).mono ?_; rintro e w' ⟨rfl, rfl⟩)))
    go_ret
    exact ⟨rfl, (Below.refl _ _).alloc (Nat.le_refl _) _⟩

theorem bcell {W w1 : World} (hb : Below W.heap.size W w1) : (∀ b o, b < W.heap.size → w1.cell? ⟨b, o, none⟩ = W.cell? ⟨b, o, none⟩) ∧ (∀ b o, b < W.heap.size → w1.frozen? ⟨b, o, none⟩ = W.frozen? ⟨b, o, none⟩) :=
  ⟨fun b o h => hb.cell (p := ⟨b, o, none⟩) h, fun b o h => hb.frozen (p := ⟨b, o, none⟩) h⟩
theorem keep_cell {W w2 : World} {b o : Nat} {v : Value} (hb : Below W.heap.size W w2) (hs : b < W.heap.size) (h : W.cell? ⟨b, o, none⟩ = some v) : w2.cell? ⟨b, o, none⟩ = some v :=
  (hb.cell (p := ⟨b, o, none⟩) hs).trans h
theorem keep_below {w W w2 : World} (hb : Below W.heap.size W w2) (hs : w.heap.size < W.heap.size) (h : Below w.heap.size w W) : Below w.heap.size w w2 :=
  h.trans (hb.mono (Nat.le_of_lt hs))
theorem keep_size {W w2 : World} {n : Nat} (hb : Below W.heap.size W w2) (hs : n < W.heap.size) : n < w2.heap.size := Nat.lt_of_lt_of_le hs hb.size
theorem below_box {w w1 : World} {o : Obj} (hb : Below (w.alloc o).heap.size (w.alloc o) w1) : Below w.heap.size w w1 :=
  ((Below.refl _ _).alloc (Nat.le_refl _) _).trans (hb.mono (by simp))
theorem wordValid_any (f m y nx mk : Int) (w : World) :
    Calls Tryz.prog 141 #[.agg #[.int .i64 f, .int .i64 m, .int .i64 y, .int .i64 nx, .int .i64 mk]] w fun e w' => e = .returned (.bool (wordOk f m y nx mk)) ∧ Below w.heap.size w w' := by
  by_cases hh : headOk f m y = true
  · by_cases h2 : 0 ≤ nx ∧ nx ≤ 1000000
    · by_cases h3 : 0 ≤ mk ∧ mk ≤ 255
      · go_enter Tryz.func141, Tryz.ntmps141
        go_wp2_with (first | (go_at_call 139; refine (headValid_any _ _ _ _).mono ?_; rintro e w1 ⟨rfl, hb1⟩; (obtain ⟨hc1, hf1⟩ := bcell hb1); (have hz1 := hb1.size); (simp at hz1); simp only [hh]) | (go_at_call 56; first | (refine (within_yes _ _ _ _ (by omega) (by omega)).mono ?_; rintro e w' ⟨rfl, rfl⟩) | (refine (within_no _ _ _ _ (by omega)).mono ?_; rintro e w' ⟨rfl, rfl⟩)))
        go_ret
        exact ⟨ret_bool (by rw [wordOk_mk (headOk_yes hh) h2 h3]), below_box hb1⟩
      · go_enter Tryz.func141, Tryz.ntmps141
        go_wp2_with (first | (go_at_call 139; refine (headValid_any _ _ _ _).mono ?_; rintro e w1 ⟨rfl, hb1⟩; (obtain ⟨hc1, hf1⟩ := bcell hb1); (have hz1 := hb1.size); (simp at hz1); simp only [hh]) | (go_at_call 56; first | (refine (within_yes _ _ _ _ (by omega) (by omega)).mono ?_; rintro e w' ⟨rfl, rfl⟩) | (refine (within_no _ _ _ _ (by omega)).mono ?_; rintro e w' ⟨rfl, rfl⟩)))
        go_ret
        exact ⟨ret_bool (by rw [wordOk_no (fun h => h3 h.2.2)]), below_box hb1⟩
    · go_enter Tryz.func141, Tryz.ntmps141
      go_wp2_with (first | (go_at_call 139; refine (headValid_any _ _ _ _).mono ?_; rintro e w1 ⟨rfl, hb1⟩; (obtain ⟨hc1, hf1⟩ := bcell hb1); (have hz1 := hb1.size); (simp at hz1); simp only [hh]) | (go_at_call 56; first | (refine (within_yes _ _ _ _ (by omega) (by omega)).mono ?_; rintro e w' ⟨rfl, rfl⟩) | (refine (within_no _ _ _ _ (by omega)).mono ?_; rintro e w' ⟨rfl, rfl⟩)))
      go_ret
      exact ⟨ret_bool (by rw [wordOk_no (fun h => h2 h.2.1)]), below_box hb1⟩
  · have hn : wordOk f m y nx mk = false := wordOk_no (fun h => hh (headOk_mk h.1))
    have hh : headOk f m y = false := by simpa using hh
    go_enter Tryz.func141, Tryz.ntmps141
    go_wp2_with (first | (go_at_call 139; refine (headValid_any _ _ _ _).mono ?_; rintro e w1 ⟨rfl, hb1⟩; (obtain ⟨hc1, hf1⟩ := bcell hb1); (have hz1 := hb1.size); (simp at hz1); simp only [hh]) | (go_at_call 56; first | (refine (within_yes _ _ _ _ (by omega) (by omega)).mono ?_; rintro e w' ⟨rfl, rfl⟩) | (refine (within_no _ _ _ _ (by omega)).mono ?_; rintro e w' ⟨rfl, rfl⟩)))
    go_ret
    exact ⟨ret_bool (by rw [hn]), below_box hb1⟩

theorem dataValid_any (f m y sq : Int) (l : Bool) (p : ByteArray) (w : World) :
    Calls Tryz.prog 143 #[.agg #[.int .i64 f, .int .i64 m, .int .i64 y, .int .i64 sq, .bool l, .string p]] w fun e w' => e = .returned (.bool (dataOk f m y sq p.size)) ∧ Below w.heap.size w w' := by
  by_cases hh : headOk f m y = true
  · by_cases h2 : 0 ≤ sq ∧ sq ≤ 999999
    · by_cases h3 : (p.size : Int) ≤ 20
      · go_enter Tryz.func143, Tryz.ntmps143
        go_wp2_with (first | (go_at_call 139; refine (headValid_any _ _ _ _).mono ?_; rintro e w1 ⟨rfl, hb1⟩; (obtain ⟨hc1, hf1⟩ := bcell hb1); (have hz1 := hb1.size); (simp at hz1); simp only [hh]) | (go_at_call 56; first | (refine (within_yes _ _ _ _ (by omega) (by omega)).mono ?_; rintro e w' ⟨rfl, rfl⟩) | (refine (within_no _ _ _ _ (by omega)).mono ?_; rintro e w' ⟨rfl, rfl⟩)))
        go_ret
        exact ⟨ret_bool (by rw [dataOk_mk (headOk_yes hh) h2 (by omega)]), below_box hb1⟩
      · go_enter Tryz.func143, Tryz.ntmps143
        go_wp2_with (first | (go_at_call 139; refine (headValid_any _ _ _ _).mono ?_; rintro e w1 ⟨rfl, hb1⟩; (obtain ⟨hc1, hf1⟩ := bcell hb1); (have hz1 := hb1.size); (simp at hz1); simp only [hh]) | (go_at_call 56; first | (refine (within_yes _ _ _ _ (by omega) (by omega)).mono ?_; rintro e w' ⟨rfl, rfl⟩) | (refine (within_no _ _ _ _ (by omega)).mono ?_; rintro e w' ⟨rfl, rfl⟩)))
        go_ret
        exact ⟨ret_bool (by rw [dataOk_no (by omega)]; simp; omega), below_box hb1⟩
    · go_enter Tryz.func143, Tryz.ntmps143
      go_wp2_with (first | (go_at_call 139; refine (headValid_any _ _ _ _).mono ?_; rintro e w1 ⟨rfl, hb1⟩; (obtain ⟨hc1, hf1⟩ := bcell hb1); (have hz1 := hb1.size); (simp at hz1); simp only [hh]) | (go_at_call 56; first | (refine (within_yes _ _ _ _ (by omega) (by omega)).mono ?_; rintro e w' ⟨rfl, rfl⟩) | (refine (within_no _ _ _ _ (by omega)).mono ?_; rintro e w' ⟨rfl, rfl⟩)))
      go_ret
      exact ⟨ret_bool (by rw [dataOk_no (fun h => h2 h.2.1)]), below_box hb1⟩
  · have hn : dataOk f m y sq p.size = false := dataOk_no (fun h => hh (headOk_mk h.1))
    have hh : headOk f m y = false := by simpa using hh
    go_enter Tryz.func143, Tryz.ntmps143
    go_wp2_with (first | (go_at_call 139; refine (headValid_any _ _ _ _).mono ?_; rintro e w1 ⟨rfl, hb1⟩; (obtain ⟨hc1, hf1⟩ := bcell hb1); (have hz1 := hb1.size); (simp at hz1); simp only [hh]) | (go_at_call 56; first | (refine (within_yes _ _ _ _ (by omega) (by omega)).mono ?_; rintro e w' ⟨rfl, rfl⟩) | (refine (within_no _ _ _ _ (by omega)).mono ?_; rintro e w' ⟨rfl, rfl⟩)))
    go_ret
    exact ⟨ret_bool (by rw [hn]), below_box hb1⟩

theorem toPacket_any (k f m y nx mk sq : Int) (l : Bool) (p : ByteArray) (w : World) :
    Calls Tryz.prog 16 #[.agg #[.int .i64 k, .int .i64 f, .int .i64 m, .int .i64 y, .int .i64 nx, .int .i64 mk, .int .i64 sq, .bool l, .string p]] w fun e w' =>
      e = .returned (.agg #[.int .i64 k, .int .i64 f, .int .i64 m, .int .i64 y, .int .i64 nx, .int .i64 mk, .int .i64 sq, .bool l, .string p]) ∧ Below w.heap.size w w' := by
  go_enter Tryz.func16, Tryz.ntmps16
  go_wp2
  exact bodyPost_ret (v := .agg #[.int .i64 k, .int .i64 f, .int .i64 m, .int .i64 y, .int .i64 nx, .int .i64 mk, .int .i64 sq, .bool l, .string p]) (by simp [results, Tryz.results16, go_sem]) rfl
    ⟨rfl, (((Below.refl _ _).alloc (Nat.le_refl _) _).alloc (by simp) _).alloc (by simp; omega) _⟩


end Go.Proofs.YthjncmgjkejikaaGreat.tag
/-
  THE WALKS of FormPacket, second part: the specification's.
-/
namespace Go.Proofs.YthjncmgjkejikaaGreat.tag
open Go.RowKit


theorem isEmpty_size (p : ByteArray) : p.toList.isEmpty = decide (p.size = 0) := by
  rw [ByteArray.toList_eq]
  obtain ⟨⟨l⟩⟩ := p
  cases l with
  | nil => rfl
  | cons x l => rfl
theorem l2Ok_head (k f m y nx mk sq : Int) (l : Bool) (p : ByteArray) (h : ¬ ((1 ≤ f ∧ f ≤ 2) ∧ (1 ≤ m ∧ m ≤ 1000) ∧ 0 ≤ y ∧ y ≤ 1000)) : ∀ w : World, Calls Tryz.prog 38 #[.agg #[.int .i64 k, .int .i64 f, .int .i64 m, .int .i64 y, .int .i64 nx, .int .i64 mk, .int .i64 sq, .bool l, .string p]] w fun e w' => e = .returned (.bool (pkOk k f m y nx mk sq l p)) ∧ Below w.heap.size w w' := by
  intro w
  rw [pkOk_nohead h]
  by_cases h1 : 1 ≤ f ∧ f ≤ 2
  · by_cases h2 : 1 ≤ m ∧ m ≤ 1000
    · have h3 : y < 0 ∨ 1000 < y := by omega
      clear h
      go_enter Tryz.func38, Tryz.ntmps38
      go_wp2_with (go_at_call 45; first | (refine (l1In_yes _ _ _ _ (by omega) (by omega)).mono ?_; rintro e w' ⟨rfl, rfl⟩) | (refine (l1In_no _ _ _ _ (by omega)).mono ?_; rintro e w' ⟨rfl, rfl⟩))
      go_ret
      exact ⟨rfl, (Below.refl _ _).alloc (Nat.le_refl _) _⟩
    · clear h
      go_enter Tryz.func38, Tryz.ntmps38
      go_wp2_with (go_at_call 45; first | (refine (l1In_yes _ _ _ _ (by omega) (by omega)).mono ?_; rintro e w' ⟨rfl, rfl⟩) | (refine (l1In_no _ _ _ _ (by omega)).mono ?_; rintro e w' ⟨rfl, rfl⟩))
      go_ret
      exact ⟨rfl, (Below.refl _ _).alloc (Nat.le_refl _) _⟩
  · clear h
    go_enter Tryz.func38, Tryz.ntmps38
    go_wp2_with (go_at_call 45; first | (refine (l1In_yes _ _ _ _ (by omega) (by omega)).mono ?_; rintro e w' ⟨rfl, rfl⟩) | (refine (l1In_no _ _ _ _ (by omega)).mono ?_; rintro e w' ⟨rfl, rfl⟩))
    go_ret
    exact ⟨rfl, (Below.refl _ _).alloc (Nat.le_refl _) _⟩
theorem l2Ok_word (f m y nx mk sq : Int) (l : Bool) (p : ByteArray) (h : ((1 ≤ f ∧ f ≤ 2) ∧ (1 ≤ m ∧ m ≤ 1000) ∧ 0 ≤ y ∧ y ≤ 1000)) (w : World) : Calls Tryz.prog 38 #[.agg #[.int .i64 1, .int .i64 f, .int .i64 m, .int .i64 y, .int .i64 nx, .int .i64 mk, .int .i64 sq, .bool l, .string p]] w fun e w' => e = .returned (.bool (pkOk 1 f m y nx mk sq l p)) ∧ Below w.heap.size w w' := by
  have hp := isEmpty_size p
  by_cases h1 : 0 ≤ nx ∧ nx ≤ 1000000
  · by_cases h2 : 0 ≤ mk ∧ mk ≤ 255
    · go_enter Tryz.func38, Tryz.ntmps38
      go_wp2_with (go_at_call 45; first | (refine (l1In_yes _ _ _ _ (by omega) (by omega)).mono ?_; rintro e w' ⟨rfl, rfl⟩) | (refine (l1In_no _ _ _ _ (by omega)).mono ?_; rintro e w' ⟨rfl, rfl⟩))
      all_goals go_ret; all_goals refine ⟨ret_bool ?_, (Below.refl _ _).alloc (Nat.le_refl _) _⟩
      all_goals simp [pkOk, wordOk_mk h h1 h2, *]
    · have hw := wordOk_no (f := f) (m := m) (y := y) (nx := nx) (mk := mk) (fun x => h2 x.2.2)
      go_enter Tryz.func38, Tryz.ntmps38
      go_wp2_with (go_at_call 45; first | (refine (l1In_yes _ _ _ _ (by omega) (by omega)).mono ?_; rintro e w' ⟨rfl, rfl⟩) | (refine (l1In_no _ _ _ _ (by omega)).mono ?_; rintro e w' ⟨rfl, rfl⟩))
      all_goals go_ret; all_goals refine ⟨ret_bool ?_, (Below.refl _ _).alloc (Nat.le_refl _) _⟩
      all_goals simp [pkOk, hw]
  · have hw := wordOk_no (f := f) (m := m) (y := y) (nx := nx) (mk := mk) (fun x => h1 x.2.1)
    go_enter Tryz.func38, Tryz.ntmps38
    go_wp2_with (go_at_call 45; first | (refine (l1In_yes _ _ _ _ (by omega) (by omega)).mono ?_; rintro e w' ⟨rfl, rfl⟩) | (refine (l1In_no _ _ _ _ (by omega)).mono ?_; rintro e w' ⟨rfl, rfl⟩))
    all_goals go_ret; all_goals refine ⟨ret_bool ?_, (Below.refl _ _).alloc (Nat.le_refl _) _⟩
    all_goals simp [pkOk, hw]
theorem l2Ok_data (f m y nx mk sq : Int) (l : Bool) (p : ByteArray) (h : ((1 ≤ f ∧ f ≤ 2) ∧ (1 ≤ m ∧ m ≤ 1000) ∧ 0 ≤ y ∧ y ≤ 1000)) (w : World) : Calls Tryz.prog 38 #[.agg #[.int .i64 2, .int .i64 f, .int .i64 m, .int .i64 y, .int .i64 nx, .int .i64 mk, .int .i64 sq, .bool l, .string p]] w fun e w' => e = .returned (.bool (pkOk 2 f m y nx mk sq l p)) ∧ Below w.heap.size w w' := by
  by_cases h1 : 0 ≤ sq ∧ sq ≤ 999999
  · by_cases h2 : (p.size : Int) ≤ 20
    · go_enter Tryz.func38, Tryz.ntmps38
      go_wp2_with (go_at_call 45; first | (refine (l1In_yes _ _ _ _ (by omega) (by omega)).mono ?_; rintro e w' ⟨rfl, rfl⟩) | (refine (l1In_no _ _ _ _ (by omega)).mono ?_; rintro e w' ⟨rfl, rfl⟩))
      all_goals go_ret; all_goals refine ⟨ret_bool ?_, (Below.refl _ _).alloc (Nat.le_refl _) _⟩
      all_goals simp [pkOk, dataOk_mk h h1 (show p.size ≤ 20 by omega), *]
    · have hw := dataOk_no (f := f) (m := m) (y := y) (sq := sq) (ps := p.size) (by omega)
      go_enter Tryz.func38, Tryz.ntmps38
      go_wp2_with (go_at_call 45; first | (refine (l1In_yes _ _ _ _ (by omega) (by omega)).mono ?_; rintro e w' ⟨rfl, rfl⟩) | (refine (l1In_no _ _ _ _ (by omega)).mono ?_; rintro e w' ⟨rfl, rfl⟩))
      all_goals go_ret; all_goals refine ⟨ret_bool ?_, (Below.refl _ _).alloc (Nat.le_refl _) _⟩
      all_goals simp [pkOk, hw]
      all_goals omega
  · have hw := dataOk_no (f := f) (m := m) (y := y) (sq := sq) (ps := p.size) (fun x => h1 x.2.1)
    go_enter Tryz.func38, Tryz.ntmps38
    go_wp2_with (go_at_call 45; first | (refine (l1In_yes _ _ _ _ (by omega) (by omega)).mono ?_; rintro e w' ⟨rfl, rfl⟩) | (refine (l1In_no _ _ _ _ (by omega)).mono ?_; rintro e w' ⟨rfl, rfl⟩))
    all_goals go_ret; all_goals refine ⟨ret_bool ?_, (Below.refl _ _).alloc (Nat.le_refl _) _⟩
    all_goals simp [pkOk, hw]
theorem l2Ok_any (k f m y nx mk sq : Int) (l : Bool) (p : ByteArray) : ∀ w : World, Calls Tryz.prog 38 #[.agg #[.int .i64 k, .int .i64 f, .int .i64 m, .int .i64 y, .int .i64 nx, .int .i64 mk, .int .i64 sq, .bool l, .string p]] w fun e w' => e = .returned (.bool (pkOk k f m y nx mk sq l p)) ∧ Below w.heap.size w w' := by
  by_cases h : ((1 ≤ f ∧ f ≤ 2) ∧ (1 ≤ m ∧ m ≤ 1000) ∧ 0 ≤ y ∧ y ≤ 1000)
  · by_cases h1 : k = 1
    · subst h1; exact l2Ok_word f m y nx mk sq l p h
    · by_cases h2 : k = 2
      · subst h2; exact l2Ok_data f m y nx mk sq l p h
      · intro w
        rw [pkOk_other h1 h2]
        have h1' : (k == 1) = false := by simpa using h1
        have h2' : (k == 2) = false := by simpa using h2
        clear h1 h2
        go_enter Tryz.func38, Tryz.ntmps38
        go_wp2_with (go_at_call 45; first | (refine (l1In_yes _ _ _ _ (by omega) (by omega)).mono ?_; rintro e w' ⟨rfl, rfl⟩) | (refine (l1In_no _ _ _ _ (by omega)).mono ?_; rintro e w' ⟨rfl, rfl⟩))
        go_ret
        exact ⟨rfl, (Below.refl _ _).alloc (Nat.le_refl _) _⟩
  · exact l2Ok_head k f m y nx mk sq l p h

end Go.Proofs.YthjncmgjkejikaaGreat.tag
/-
  THE WALKS of FormPacket, third part: the specification's body and form.
-/
namespace Go.Proofs.YthjncmgjkejikaaGreat.tag
open Go.RowKit


end Go.Proofs.YthjncmgjkejikaaGreat.tag
/-
  THE WALKS of FormPacket, fourth part: the program's.
-/
namespace Go.Proofs.YthjncmgjkejikaaGreat.tag
open Go.RowKit


theorem below_box2 {w w1 : World} {o o' : Obj} (hb : Below ((w.alloc o).alloc o').drew.heap.size ((w.alloc o).alloc o').drew w1) : Below w.heap.size w w1 :=
  (((Below.refl _ _).alloc (Nat.le_refl _) _).alloc (by simp) _).drew.trans (hb.mono (by show w.heap.size ≤ ((w.alloc o).alloc o').heap.size; simp; omega))
theorem ta_ww (v : Value) (w : World) : (Instr.typeAssert (.iface 169 v) 155 169 true).run Tryz.prog w = .ok (.tuple #[v, .bool true]) w := by kernel_rfl
theorem ta_dw (v : Value) (w : World) : (Instr.typeAssert (.iface 171 v) 155 169 true).run Tryz.prog w = .ok (.tuple #[.agg #[.int .i64 0, .int .i64 0, .int .i64 0, .int .i64 0, .int .i64 0], .bool false]) w := by kernel_rfl
theorem ta_dd (v : Value) (w : World) : (Instr.typeAssert (.iface 171 v) 155 171 true).run Tryz.prog w = .ok (.tuple #[v, .bool true]) w := by kernel_rfl
theorem me_wv (v : Value) (w : World) : (method 291 169 v "loop.example/kilnwind/impl.valid").run Tryz.prog w = .ok (141, v) w := by kernel_rfl
theorem me_dv (v : Value) (w : World) : (method 291 171 v "loop.example/kilnwind/impl.valid").run Tryz.prog w = .ok (143, v) w := by kernel_rfl
theorem packetOf_word (f m y nx mk : Int) (w : World) :
    Calls Tryz.prog 118 #[.iface 169 (.agg #[.int .i64 f, .int .i64 m, .int .i64 y, .int .i64 nx, .int .i64 mk])] w fun e w' =>
      e = .returned (.agg #[.int .i64 1, .int .i64 f, .int .i64 m, .int .i64 y, .int .i64 nx, .int .i64 mk, .int .i64 0, .bool false, .string ⟨#[]⟩]) ∧ Below w.heap.size w w' := by
  have t1 := ta_ww
  have t2 := ta_dw
  have t3 := ta_dd
  go_enter Tryz.func118, Tryz.ntmps118
  go_wp2
  exact bodyPost_ret (v := .agg #[.int .i64 1, .int .i64 f, .int .i64 m, .int .i64 y, .int .i64 nx, .int .i64 mk, .int .i64 0, .bool false, .string ⟨#[]⟩]) (by simp [results, Tryz.results118, go_sem]) rfl
    ⟨rfl, ((Below.refl _ _).alloc (Nat.le_refl _) _).alloc (by simp) _⟩
theorem packetOf_data (f m y sq : Int) (l : Bool) (p : ByteArray) (w : World) :
    Calls Tryz.prog 118 #[.iface 171 (.agg #[.int .i64 f, .int .i64 m, .int .i64 y, .int .i64 sq, .bool l, .string p])] w fun e w' =>
      e = .returned (.agg #[.int .i64 2, .int .i64 f, .int .i64 m, .int .i64 y, .int .i64 0, .int .i64 0, .int .i64 sq, .bool l, .string p]) ∧ Below w.heap.size w w' := by
  have t1 := ta_ww
  have t2 := ta_dw
  have t3 := ta_dd
  go_enter Tryz.func118, Tryz.ntmps118
  go_wp2
  exact bodyPost_ret (v := .agg #[.int .i64 2, .int .i64 f, .int .i64 m, .int .i64 y, .int .i64 0, .int .i64 0, .int .i64 sq, .bool l, .string p]) (by simp [results, Tryz.results118, go_sem]) rfl
    ⟨rfl, ((Below.refl _ _).alloc (Nat.le_refl _) _).alloc (by simp) _⟩

theorem letterOf_other (k f m y nx mk sq : Int) (l : Bool) (p : ByteArray) (w : World) (h1 : k ≠ 1) (h2 : k ≠ 2) :
    Calls Tryz.prog 106 #[.agg #[.int .i64 k, .int .i64 f, .int .i64 m, .int .i64 y, .int .i64 nx, .int .i64 mk, .int .i64 sq, .bool l, .string p]] w fun e w' => e = .returned (.tuple #[.nilIface, .bool false]) ∧ Below w.heap.size w w' := by
  have h1' : (k == 1) = false := by simpa using h1
  have h2' : (k == 2) = false := by simpa using h2
  clear h1 h2
  go_enter Tryz.func106, Tryz.ntmps106
  go_wp2
  go_ret2
  exact ⟨rfl, ((Below.refl _ _).alloc (Nat.le_refl _) _).alloc (by simp) _⟩
theorem letterOf_word_yes (f m y nx mk : Int) (w : World) (h : wordOk f m y nx mk = true) :
    Calls Tryz.prog 106 #[.agg #[.int .i64 1, .int .i64 f, .int .i64 m, .int .i64 y, .int .i64 nx, .int .i64 mk, .int .i64 0, .bool false, .string ⟨#[]⟩]] w fun e w' =>
      e = .returned (.tuple #[.iface 169 (.agg #[.int .i64 f, .int .i64 m, .int .i64 y, .int .i64 nx, .int .i64 mk]), .bool true]) ∧ Below w.heap.size w w' := by
  have m1 := me_wv
  go_enter Tryz.func106, Tryz.ntmps106
  go_wp2
  go_region_held3 (fun w' => w'.cell? ⟨w.heap.size, 0, none⟩ = some (.int .i64 1) ∧ w'.cell? ⟨w.heap.size, 1, none⟩ = some (.int .i64 f) ∧ w'.cell? ⟨w.heap.size, 2, none⟩ = some (.int .i64 m) ∧ w'.cell? ⟨w.heap.size, 3, none⟩ = some (.int .i64 y) ∧ w'.cell? ⟨w.heap.size, 4, none⟩ = some (.int .i64 nx) ∧ w'.cell? ⟨w.heap.size, 5, none⟩ = some (.int .i64 mk) ∧ w'.cell? ⟨w.heap.size, 6, none⟩ = some (.int .i64 0) ∧ w'.cell? ⟨w.heap.size, 7, none⟩ = some (.bool false) ∧ w'.cell? ⟨w.heap.size, 8, none⟩ = some (.string ⟨#[]⟩) ∧ Below w.heap.size w w' ∧ w.heap.size < w'.heap.size)
    (first | assumption | ((repeat' apply And.intro) <;> first | (simp; done) | (simp; omega) | exact (((Below.refl _ _).alloc (Nat.le_refl _) _).alloc (by simp) _).drew) | (first | assumption | ((repeat' apply And.intro) <;> first | (simp; done) | exact ((Below.refl _ _).alloc (Nat.le_refl _) _).drew) | (go_split_ands; (repeat' apply And.intro) <;> first | exact keep_cell hb2 (by assumption) (by assumption) | exact keep_below hb2 (by assumption) (by assumption) | exact keep_size hb2 (by assumption)) | (go_split_ands; (repeat' apply And.intro) <;> first | assumption | exact Below.drew (by assumption))))
    (first | (go_at_call 141; refine (wordValid_any _ _ _ _ _ _).mono ?_; rintro e w2 ⟨rfl, hb2⟩) | (go_at_call 118; refine (packetOf_word _ _ _ _ _ _).mono ?_; rintro e w2 ⟨rfl, hb2⟩))
  have hbl : Below w.heap.size w w2 := by go_split_ands; assumption
  go_wp2
  go_ret2
  exact ⟨rfl, hbl⟩
theorem letterOf_word_sq (f m y nx mk sq : Int) (l : Bool) (p : ByteArray) (w : World) (h : wordOk f m y nx mk = true) (hs : sq ≠ 0) :
    Calls Tryz.prog 106 #[.agg #[.int .i64 1, .int .i64 f, .int .i64 m, .int .i64 y, .int .i64 nx, .int .i64 mk, .int .i64 sq, .bool l, .string p]] w fun e w' =>
      e = .returned (.tuple #[.nilIface, .bool false]) ∧ Below w.heap.size w w' := by
  have m1 := me_wv
  have hs1 : ((0 : Int) == sq) = false := by simp; omega
  clear hs
  go_enter Tryz.func106, Tryz.ntmps106
  go_wp2
  go_region_held3 (fun w' => w'.cell? ⟨w.heap.size, 0, none⟩ = some (.int .i64 1) ∧ w'.cell? ⟨w.heap.size, 1, none⟩ = some (.int .i64 f) ∧ w'.cell? ⟨w.heap.size, 2, none⟩ = some (.int .i64 m) ∧ w'.cell? ⟨w.heap.size, 3, none⟩ = some (.int .i64 y) ∧ w'.cell? ⟨w.heap.size, 4, none⟩ = some (.int .i64 nx) ∧ w'.cell? ⟨w.heap.size, 5, none⟩ = some (.int .i64 mk) ∧ w'.cell? ⟨w.heap.size, 6, none⟩ = some (.int .i64 sq) ∧ w'.cell? ⟨w.heap.size, 7, none⟩ = some (.bool l) ∧ w'.cell? ⟨w.heap.size, 8, none⟩ = some (.string p) ∧ Below w.heap.size w w' ∧ w.heap.size < w'.heap.size)
    (first | assumption | ((repeat' apply And.intro) <;> first | (simp; done) | (simp; omega) | exact (((Below.refl _ _).alloc (Nat.le_refl _) _).alloc (by simp) _).drew) | (first | assumption | ((repeat' apply And.intro) <;> first | (simp; done) | exact ((Below.refl _ _).alloc (Nat.le_refl _) _).drew) | (go_split_ands; (repeat' apply And.intro) <;> first | exact keep_cell hb2 (by assumption) (by assumption) | exact keep_below hb2 (by assumption) (by assumption) | exact keep_size hb2 (by assumption)) | (go_split_ands; (repeat' apply And.intro) <;> first | assumption | exact Below.drew (by assumption))))
    (first | (go_at_call 141; refine (wordValid_any _ _ _ _ _ _).mono ?_; rintro e w2 ⟨rfl, hb2⟩) | (go_at_call 118; refine (packetOf_word _ _ _ _ _ _).mono ?_; rintro e w2 ⟨rfl, hb2⟩))
  have hbl : Below w.heap.size w w2 := by go_split_ands; assumption
  go_wp2
  go_ret2
  exact ⟨rfl, hbl⟩
theorem letterOf_word_l (f m y nx mk : Int) (p : ByteArray) (w : World) (h : wordOk f m y nx mk = true) :
    Calls Tryz.prog 106 #[.agg #[.int .i64 1, .int .i64 f, .int .i64 m, .int .i64 y, .int .i64 nx, .int .i64 mk, .int .i64 0, .bool true, .string p]] w fun e w' =>
      e = .returned (.tuple #[.nilIface, .bool false]) ∧ Below w.heap.size w w' := by
  have m1 := me_wv
  go_enter Tryz.func106, Tryz.ntmps106
  go_wp2
  go_region_held3 (fun w' => w'.cell? ⟨w.heap.size, 0, none⟩ = some (.int .i64 1) ∧ w'.cell? ⟨w.heap.size, 1, none⟩ = some (.int .i64 f) ∧ w'.cell? ⟨w.heap.size, 2, none⟩ = some (.int .i64 m) ∧ w'.cell? ⟨w.heap.size, 3, none⟩ = some (.int .i64 y) ∧ w'.cell? ⟨w.heap.size, 4, none⟩ = some (.int .i64 nx) ∧ w'.cell? ⟨w.heap.size, 5, none⟩ = some (.int .i64 mk) ∧ w'.cell? ⟨w.heap.size, 6, none⟩ = some (.int .i64 0) ∧ w'.cell? ⟨w.heap.size, 7, none⟩ = some (.bool true) ∧ w'.cell? ⟨w.heap.size, 8, none⟩ = some (.string p) ∧ Below w.heap.size w w' ∧ w.heap.size < w'.heap.size)
    (first | assumption | ((repeat' apply And.intro) <;> first | (simp; done) | (simp; omega) | exact (((Below.refl _ _).alloc (Nat.le_refl _) _).alloc (by simp) _).drew) | (first | assumption | ((repeat' apply And.intro) <;> first | (simp; done) | exact ((Below.refl _ _).alloc (Nat.le_refl _) _).drew) | (go_split_ands; (repeat' apply And.intro) <;> first | exact keep_cell hb2 (by assumption) (by assumption) | exact keep_below hb2 (by assumption) (by assumption) | exact keep_size hb2 (by assumption)) | (go_split_ands; (repeat' apply And.intro) <;> first | assumption | exact Below.drew (by assumption))))
    (first | (go_at_call 141; refine (wordValid_any _ _ _ _ _ _).mono ?_; rintro e w2 ⟨rfl, hb2⟩) | (go_at_call 118; refine (packetOf_word _ _ _ _ _ _).mono ?_; rintro e w2 ⟨rfl, hb2⟩))
  have hbl : Below w.heap.size w w2 := by go_split_ands; assumption
  go_wp2
  go_ret2
  exact ⟨rfl, hbl⟩
theorem letterOf_word_p (f m y nx mk : Int) (p : ByteArray) (w : World) (h : wordOk f m y nx mk = true) (hp : p.toList.isEmpty = false) :
    Calls Tryz.prog 106 #[.agg #[.int .i64 1, .int .i64 f, .int .i64 m, .int .i64 y, .int .i64 nx, .int .i64 mk, .int .i64 0, .bool false, .string p]] w fun e w' =>
      e = .returned (.tuple #[.nilIface, .bool false]) ∧ Below w.heap.size w w' := by
  have m1 := me_wv
  have hp1 : (([] : List UInt8) == p.toList) = false := by cases hq : p.toList with | nil => rw [hq] at hp; cases hp | cons a b => rfl
  go_enter Tryz.func106, Tryz.ntmps106
  go_wp2
  go_region_held3 (fun w' => w'.cell? ⟨w.heap.size, 0, none⟩ = some (.int .i64 1) ∧ w'.cell? ⟨w.heap.size, 1, none⟩ = some (.int .i64 f) ∧ w'.cell? ⟨w.heap.size, 2, none⟩ = some (.int .i64 m) ∧ w'.cell? ⟨w.heap.size, 3, none⟩ = some (.int .i64 y) ∧ w'.cell? ⟨w.heap.size, 4, none⟩ = some (.int .i64 nx) ∧ w'.cell? ⟨w.heap.size, 5, none⟩ = some (.int .i64 mk) ∧ w'.cell? ⟨w.heap.size, 6, none⟩ = some (.int .i64 0) ∧ w'.cell? ⟨w.heap.size, 7, none⟩ = some (.bool false) ∧ w'.cell? ⟨w.heap.size, 8, none⟩ = some (.string p) ∧ Below w.heap.size w w' ∧ w.heap.size < w'.heap.size)
    (first | assumption | ((repeat' apply And.intro) <;> first | (simp; done) | (simp; omega) | exact (((Below.refl _ _).alloc (Nat.le_refl _) _).alloc (by simp) _).drew) | (first | assumption | ((repeat' apply And.intro) <;> first | (simp; done) | exact ((Below.refl _ _).alloc (Nat.le_refl _) _).drew) | (go_split_ands; (repeat' apply And.intro) <;> first | exact keep_cell hb2 (by assumption) (by assumption) | exact keep_below hb2 (by assumption) (by assumption) | exact keep_size hb2 (by assumption)) | (go_split_ands; (repeat' apply And.intro) <;> first | assumption | exact Below.drew (by assumption))))
    (first | (go_at_call 141; refine (wordValid_any _ _ _ _ _ _).mono ?_; rintro e w2 ⟨rfl, hb2⟩) | (go_at_call 118; refine (packetOf_word _ _ _ _ _ _).mono ?_; rintro e w2 ⟨rfl, hb2⟩))
  have hbl : Below w.heap.size w w2 := by go_split_ands; assumption
  go_wp2
  go_ret2
  exact ⟨rfl, hbl⟩
theorem letterOf_word_no (f m y nx mk sq : Int) (l : Bool) (p : ByteArray) (w : World) (h : wordOk f m y nx mk = false) :
    Calls Tryz.prog 106 #[.agg #[.int .i64 1, .int .i64 f, .int .i64 m, .int .i64 y, .int .i64 nx, .int .i64 mk, .int .i64 sq, .bool l, .string p]] w fun e w' =>
      e = .returned (.tuple #[.nilIface, .bool false]) ∧ Below w.heap.size w w' := by
  have m1 := me_wv
  go_enter Tryz.func106, Tryz.ntmps106
  go_wp2
  refine wp_region_any (by kernel_rfl) ?_
  change wpAny _ _ _ _ _ _ _ (World.drew _)
  refine wpAny_ready (rs := [0]) (by kernel_rfl) (by simp) ?_; refine AllReady.cons rfl (fun K hK => ?_) AllReady.nil; go_simp; refine hK _ _ ?_; clear hK K
  refine wpAny_ready (rs := [1]) (by kernel_rfl) (by simp) ?_; refine AllReady.cons rfl (fun K hK => ?_) AllReady.nil; go_simp
  go_wp2_with (first | (go_at_call 141; refine (wordValid_any _ _ _ _ _ _).mono ?_; rintro e w2 ⟨rfl, hb2⟩))
  refine wpAny_ready (rs := [2]) (by kernel_rfl) (by simp) ?_; refine AllReady.cons rfl (fun K hK => ?_) AllReady.nil; go_simp; refine hK _ _ ?_; clear hK K
  refine wpAny_ready (rs := [3]) (by kernel_rfl) (by simp) ?_; refine AllReady.cons rfl (fun K hK => ?_) AllReady.nil; go_simp; refine hK _ _ ?_; clear hK K
  refine wpAny_ready (rs := [4, 6]) (by kernel_rfl) (by simp) (BigFrame.allReady_skip rfl rfl ?_ (BigFrame.allReady_skip rfl rfl ?_ AllReady.nil))
  · refine wpAny_ready (rs := [5, 6]) (by kernel_rfl) (by simp) (BigFrame.allReady_skip rfl rfl ?_ (BigFrame.allReady_skip rfl rfl ?_ AllReady.nil))
    · refine wpAny_ready (rs := [6]) (by kernel_rfl) (by simp) (BigFrame.allReady_skip rfl rfl ?_ AllReady.nil)
      refine wpAny_ready (rs := [7]) (by kernel_rfl) (by simp) (BigFrame.allReady_skip rfl rfl ?_ AllReady.nil)
      simp only [Act.put, List.setIfInBounds_toArray]; refine wpAny_ready (rs := [8]) (by kernel_rfl) (by simp) ?_; refine AllReady.cons rfl (fun K hK => ?_) AllReady.nil; go_simp; refine hK _ _ ?_; clear hK K; refine wpAny_done (by kernel_rfl) ?_ _; go_wp2; go_ret2; exact ⟨rfl, below_box2 hb2⟩
    · refine wpAny_ready (rs := [5]) (by kernel_rfl) (by simp) (BigFrame.allReady_skip rfl rfl ?_ AllReady.nil)
      refine wpAny_ready (rs := [7]) (by kernel_rfl) (by simp) (BigFrame.allReady_skip rfl rfl ?_ AllReady.nil)
      simp only [Act.put, List.setIfInBounds_toArray]; refine wpAny_ready (rs := [8]) (by kernel_rfl) (by simp) ?_; refine AllReady.cons rfl (fun K hK => ?_) AllReady.nil; go_simp; refine hK _ _ ?_; clear hK K; refine wpAny_done (by kernel_rfl) ?_ _; go_wp2; go_ret2; exact ⟨rfl, below_box2 hb2⟩
  · refine wpAny_ready (rs := [4]) (by kernel_rfl) (by simp) (BigFrame.allReady_skip rfl rfl ?_ AllReady.nil)
    refine wpAny_ready (rs := [5]) (by kernel_rfl) (by simp) (BigFrame.allReady_skip rfl rfl ?_ AllReady.nil)
    refine wpAny_ready (rs := [7]) (by kernel_rfl) (by simp) (BigFrame.allReady_skip rfl rfl ?_ AllReady.nil)
    simp only [Act.put, List.setIfInBounds_toArray]; refine wpAny_ready (rs := [8]) (by kernel_rfl) (by simp) ?_; refine AllReady.cons rfl (fun K hK => ?_) AllReady.nil; go_simp; refine hK _ _ ?_; clear hK K; refine wpAny_done (by kernel_rfl) ?_ _; go_wp2; go_ret2; exact ⟨rfl, below_box2 hb2⟩
theorem letterOf_data_yes (f m y sq : Int) (l : Bool) (p : ByteArray) (w : World) (h : dataOk f m y sq p.size = true) :
    Calls Tryz.prog 106 #[.agg #[.int .i64 2, .int .i64 f, .int .i64 m, .int .i64 y, .int .i64 0, .int .i64 0, .int .i64 sq, .bool l, .string p]] w fun e w' =>
      e = .returned (.tuple #[.iface 171 (.agg #[.int .i64 f, .int .i64 m, .int .i64 y, .int .i64 sq, .bool l, .string p]), .bool true]) ∧ Below w.heap.size w w' := by
  have m1 := me_dv
  go_enter Tryz.func106, Tryz.ntmps106
  go_wp2
  go_region_held3 (fun w' => w'.cell? ⟨w.heap.size, 0, none⟩ = some (.int .i64 2) ∧ w'.cell? ⟨w.heap.size, 1, none⟩ = some (.int .i64 f) ∧ w'.cell? ⟨w.heap.size, 2, none⟩ = some (.int .i64 m) ∧ w'.cell? ⟨w.heap.size, 3, none⟩ = some (.int .i64 y) ∧ w'.cell? ⟨w.heap.size, 4, none⟩ = some (.int .i64 0) ∧ w'.cell? ⟨w.heap.size, 5, none⟩ = some (.int .i64 0) ∧ w'.cell? ⟨w.heap.size, 6, none⟩ = some (.int .i64 sq) ∧ w'.cell? ⟨w.heap.size, 7, none⟩ = some (.bool l) ∧ w'.cell? ⟨w.heap.size, 8, none⟩ = some (.string p) ∧ Below w.heap.size w w' ∧ w.heap.size < w'.heap.size)
    (first | assumption | ((repeat' apply And.intro) <;> first | (simp; done) | (simp; omega) | exact (((Below.refl _ _).alloc (Nat.le_refl _) _).alloc (by simp) _).drew) | (first | assumption | ((repeat' apply And.intro) <;> first | (simp; done) | exact ((Below.refl _ _).alloc (Nat.le_refl _) _).drew) | (go_split_ands; (repeat' apply And.intro) <;> first | exact keep_cell hb2 (by assumption) (by assumption) | exact keep_below hb2 (by assumption) (by assumption) | exact keep_size hb2 (by assumption)) | (go_split_ands; (repeat' apply And.intro) <;> first | assumption | exact Below.drew (by assumption))))
    (first | (go_at_call 143; refine (dataValid_any _ _ _ _ _ _ _).mono ?_; rintro e w2 ⟨rfl, hb2⟩) | (go_at_call 118; refine (packetOf_data _ _ _ _ _ _ _).mono ?_; rintro e w2 ⟨rfl, hb2⟩))
  have hbl : Below w.heap.size w w2 := by go_split_ands; assumption
  go_wp2
  go_ret2
  exact ⟨rfl, hbl⟩
theorem letterOf_data_nx (f m y nx mk sq : Int) (l : Bool) (p : ByteArray) (w : World) (h : dataOk f m y sq p.size = true) (hs : nx ≠ 0) :
    Calls Tryz.prog 106 #[.agg #[.int .i64 2, .int .i64 f, .int .i64 m, .int .i64 y, .int .i64 nx, .int .i64 mk, .int .i64 sq, .bool l, .string p]] w fun e w' =>
      e = .returned (.tuple #[.nilIface, .bool false]) ∧ Below w.heap.size w w' := by
  have m1 := me_dv
  have hs1 : ((0 : Int) == nx) = false := by simp; omega
  clear hs
  go_enter Tryz.func106, Tryz.ntmps106
  go_wp2
  go_region_held3 (fun w' => w'.cell? ⟨w.heap.size, 0, none⟩ = some (.int .i64 2) ∧ w'.cell? ⟨w.heap.size, 1, none⟩ = some (.int .i64 f) ∧ w'.cell? ⟨w.heap.size, 2, none⟩ = some (.int .i64 m) ∧ w'.cell? ⟨w.heap.size, 3, none⟩ = some (.int .i64 y) ∧ w'.cell? ⟨w.heap.size, 4, none⟩ = some (.int .i64 nx) ∧ w'.cell? ⟨w.heap.size, 5, none⟩ = some (.int .i64 mk) ∧ w'.cell? ⟨w.heap.size, 6, none⟩ = some (.int .i64 sq) ∧ w'.cell? ⟨w.heap.size, 7, none⟩ = some (.bool l) ∧ w'.cell? ⟨w.heap.size, 8, none⟩ = some (.string p) ∧ Below w.heap.size w w' ∧ w.heap.size < w'.heap.size)
    (first | assumption | ((repeat' apply And.intro) <;> first | (simp; done) | (simp; omega) | exact (((Below.refl _ _).alloc (Nat.le_refl _) _).alloc (by simp) _).drew) | (first | assumption | ((repeat' apply And.intro) <;> first | (simp; done) | exact ((Below.refl _ _).alloc (Nat.le_refl _) _).drew) | (go_split_ands; (repeat' apply And.intro) <;> first | exact keep_cell hb2 (by assumption) (by assumption) | exact keep_below hb2 (by assumption) (by assumption) | exact keep_size hb2 (by assumption)) | (go_split_ands; (repeat' apply And.intro) <;> first | assumption | exact Below.drew (by assumption))))
    (first | (go_at_call 143; refine (dataValid_any _ _ _ _ _ _ _).mono ?_; rintro e w2 ⟨rfl, hb2⟩) | (go_at_call 118; refine (packetOf_data _ _ _ _ _ _ _).mono ?_; rintro e w2 ⟨rfl, hb2⟩))
  have hbl : Below w.heap.size w w2 := by go_split_ands; assumption
  go_wp2
  go_ret2
  exact ⟨rfl, hbl⟩
theorem letterOf_data_mk (f m y mk sq : Int) (l : Bool) (p : ByteArray) (w : World) (h : dataOk f m y sq p.size = true) (hs : mk ≠ 0) :
    Calls Tryz.prog 106 #[.agg #[.int .i64 2, .int .i64 f, .int .i64 m, .int .i64 y, .int .i64 0, .int .i64 mk, .int .i64 sq, .bool l, .string p]] w fun e w' =>
      e = .returned (.tuple #[.nilIface, .bool false]) ∧ Below w.heap.size w w' := by
  have m1 := me_dv
  have hs1 : ((0 : Int) == mk) = false := by simp; omega
  clear hs
  go_enter Tryz.func106, Tryz.ntmps106
  go_wp2
  go_region_held3 (fun w' => w'.cell? ⟨w.heap.size, 0, none⟩ = some (.int .i64 2) ∧ w'.cell? ⟨w.heap.size, 1, none⟩ = some (.int .i64 f) ∧ w'.cell? ⟨w.heap.size, 2, none⟩ = some (.int .i64 m) ∧ w'.cell? ⟨w.heap.size, 3, none⟩ = some (.int .i64 y) ∧ w'.cell? ⟨w.heap.size, 4, none⟩ = some (.int .i64 0) ∧ w'.cell? ⟨w.heap.size, 5, none⟩ = some (.int .i64 mk) ∧ w'.cell? ⟨w.heap.size, 6, none⟩ = some (.int .i64 sq) ∧ w'.cell? ⟨w.heap.size, 7, none⟩ = some (.bool l) ∧ w'.cell? ⟨w.heap.size, 8, none⟩ = some (.string p) ∧ Below w.heap.size w w' ∧ w.heap.size < w'.heap.size)
    (first | assumption | ((repeat' apply And.intro) <;> first | (simp; done) | (simp; omega) | exact (((Below.refl _ _).alloc (Nat.le_refl _) _).alloc (by simp) _).drew) | (first | assumption | ((repeat' apply And.intro) <;> first | (simp; done) | exact ((Below.refl _ _).alloc (Nat.le_refl _) _).drew) | (go_split_ands; (repeat' apply And.intro) <;> first | exact keep_cell hb2 (by assumption) (by assumption) | exact keep_below hb2 (by assumption) (by assumption) | exact keep_size hb2 (by assumption)) | (go_split_ands; (repeat' apply And.intro) <;> first | assumption | exact Below.drew (by assumption))))
    (first | (go_at_call 143; refine (dataValid_any _ _ _ _ _ _ _).mono ?_; rintro e w2 ⟨rfl, hb2⟩) | (go_at_call 118; refine (packetOf_data _ _ _ _ _ _ _).mono ?_; rintro e w2 ⟨rfl, hb2⟩))
  have hbl : Below w.heap.size w w2 := by go_split_ands; assumption
  go_wp2
  go_ret2
  exact ⟨rfl, hbl⟩
theorem letterOf_data_no (f m y nx mk sq : Int) (l : Bool) (p : ByteArray) (w : World) (h : dataOk f m y sq p.size = false) :
    Calls Tryz.prog 106 #[.agg #[.int .i64 2, .int .i64 f, .int .i64 m, .int .i64 y, .int .i64 nx, .int .i64 mk, .int .i64 sq, .bool l, .string p]] w fun e w' =>
      e = .returned (.tuple #[.nilIface, .bool false]) ∧ Below w.heap.size w w' := by
  have m1 := me_dv
  go_enter Tryz.func106, Tryz.ntmps106
  go_wp2
  refine wp_region_any (by kernel_rfl) ?_
  change wpAny _ _ _ _ _ _ _ (World.drew _)
  refine wpAny_ready (rs := [0]) (by kernel_rfl) (by simp) ?_; refine AllReady.cons rfl (fun K hK => ?_) AllReady.nil; go_simp; refine hK _ _ ?_; clear hK K
  refine wpAny_ready (rs := [1]) (by kernel_rfl) (by simp) ?_; refine AllReady.cons rfl (fun K hK => ?_) AllReady.nil; go_simp
  go_wp2_with (first | (go_at_call 143; refine (dataValid_any _ _ _ _ _ _ _).mono ?_; rintro e w2 ⟨rfl, hb2⟩))
  refine wpAny_ready (rs := [2]) (by kernel_rfl) (by simp) ?_; refine AllReady.cons rfl (fun K hK => ?_) AllReady.nil; go_simp; refine hK _ _ ?_; clear hK K
  refine wpAny_ready (rs := [3]) (by kernel_rfl) (by simp) ?_; refine AllReady.cons rfl (fun K hK => ?_) AllReady.nil; go_simp; refine hK _ _ ?_; clear hK K
  refine wpAny_ready (rs := [4, 6]) (by kernel_rfl) (by simp) (BigFrame.allReady_skip rfl rfl ?_ (BigFrame.allReady_skip rfl rfl ?_ AllReady.nil))
  · refine wpAny_ready (rs := [5, 6]) (by kernel_rfl) (by simp) (BigFrame.allReady_skip rfl rfl ?_ (BigFrame.allReady_skip rfl rfl ?_ AllReady.nil))
    · refine wpAny_ready (rs := [6]) (by kernel_rfl) (by simp) (BigFrame.allReady_skip rfl rfl ?_ AllReady.nil)
      refine wpAny_ready (rs := [7]) (by kernel_rfl) (by simp) (BigFrame.allReady_skip rfl rfl ?_ AllReady.nil)
      simp only [Act.put, List.setIfInBounds_toArray]; refine wpAny_ready (rs := [8]) (by kernel_rfl) (by simp) ?_; refine AllReady.cons rfl (fun K hK => ?_) AllReady.nil; go_simp; refine hK _ _ ?_; clear hK K; refine wpAny_done (by kernel_rfl) ?_ _; go_wp2; go_ret2; exact ⟨rfl, below_box2 hb2⟩
    · refine wpAny_ready (rs := [5]) (by kernel_rfl) (by simp) (BigFrame.allReady_skip rfl rfl ?_ AllReady.nil)
      refine wpAny_ready (rs := [7]) (by kernel_rfl) (by simp) (BigFrame.allReady_skip rfl rfl ?_ AllReady.nil)
      simp only [Act.put, List.setIfInBounds_toArray]; refine wpAny_ready (rs := [8]) (by kernel_rfl) (by simp) ?_; refine AllReady.cons rfl (fun K hK => ?_) AllReady.nil; go_simp; refine hK _ _ ?_; clear hK K; refine wpAny_done (by kernel_rfl) ?_ _; go_wp2; go_ret2; exact ⟨rfl, below_box2 hb2⟩
  · refine wpAny_ready (rs := [4]) (by kernel_rfl) (by simp) (BigFrame.allReady_skip rfl rfl ?_ AllReady.nil)
    refine wpAny_ready (rs := [5]) (by kernel_rfl) (by simp) (BigFrame.allReady_skip rfl rfl ?_ AllReady.nil)
    refine wpAny_ready (rs := [7]) (by kernel_rfl) (by simp) (BigFrame.allReady_skip rfl rfl ?_ AllReady.nil)
    simp only [Act.put, List.setIfInBounds_toArray]; refine wpAny_ready (rs := [8]) (by kernel_rfl) (by simp) ?_; refine AllReady.cons rfl (fun K hK => ?_) AllReady.nil; go_simp; refine hK _ _ ?_; clear hK K; refine wpAny_done (by kernel_rfl) ?_ _; go_wp2; go_ret2; exact ⟨rfl, below_box2 hb2⟩
end Go.Proofs.YthjncmgjkejikaaGreat.tag
/-
  THE WALKS of FormPacket, last part: the program's FormPacket.
-/
namespace Go.Proofs.YthjncmgjkejikaaGreat.tag
open Go.RowKit


theorem letterOf_no (k f m y nx mk sq : Int) (l : Bool) (p : ByteArray) (w : World) (h : pkOk k f m y nx mk sq l p = false) :
    Calls Tryz.prog 106 #[.agg #[.int .i64 k, .int .i64 f, .int .i64 m, .int .i64 y, .int .i64 nx, .int .i64 mk, .int .i64 sq, .bool l, .string p]] w fun e w' => e = .returned (.tuple #[.nilIface, .bool false]) ∧ Below w.heap.size w w' := by
  by_cases h1 : k = 1
  · subst h1
    cases hw : wordOk f m y nx mk
    · exact letterOf_word_no f m y nx mk sq l p w hw
    · by_cases h2 : sq = 0
      · subst h2
        cases l
        · refine letterOf_word_p f m y nx mk p w hw ?_
          rw [isEmpty_size]
          simpa [pkOk, hw] using h
        · exact letterOf_word_l f m y nx mk p w hw
      · exact letterOf_word_sq f m y nx mk sq l p w hw h2
  · by_cases h2 : k = 2
    · subst h2
      cases hw : dataOk f m y sq p.size
      · exact letterOf_data_no f m y nx mk sq l p w hw
      · by_cases h3 : nx = 0
        · subst h3
          refine letterOf_data_mk f m y mk sq l p w hw ?_
          simpa [pkOk, hw] using h
        · exact letterOf_data_nx f m y nx mk sq l p w hw h3
    · exact letterOf_other k f m y nx mk sq l p w h1 h2

end Go.Proofs.YthjncmgjkejikaaGreat.tag
/-
  A PACKET at an end: is it heeded; a zero value laid over a part of a block.
-/
namespace Go.Proofs.YthjncmgjkejikaaGreat.mk
open Go.RowKit
set_option linter.unusedVariables false

def heedsP (num : Int) (up : Bool) (peer : Int) (k f m y nxt msk sq : Int) (l : Bool) (p : ByteArray) : Bool := tag.pkOk k f m y nxt msk sq l p && (up && (!decide (f = num) && decide (peer ≤ m)))
theorem letter_any (k f m y nxt msk sq : Int) (l : Bool) (p : ByteArray) (w : World) : Calls Tryz.prog 106 #[.agg #[.int .i64 k, .int .i64 f, .int .i64 m, .int .i64 y, .int .i64 nxt, .int .i64 msk, .int .i64 sq, .bool l, .string p]] w fun e w' => (∃ v, e = .returned (.tuple #[v, .bool (tag.pkOk k f m y nxt msk sq l p)])) ∧ Below w.heap.size w w' := by
  cases h : tag.pkOk k f m y nxt msk sq l p
  · exact (tag.letterOf_no k f m y nxt msk sq l p w h).mono fun e w' hp => ⟨⟨_, hp.1⟩, hp.2⟩
  · by_cases h1 : k = 1
    · subst h1
      obtain ⟨h2, rfl, rfl, rfl⟩ := tag.pkOk_word h
      exact (tag.letterOf_word_yes f m y nxt msk w h2).mono fun e w' hp => ⟨⟨_, hp.1⟩, hp.2⟩
    · by_cases h2 : k = 2
      · subst h2
        obtain ⟨h3, rfl, rfl⟩ := tag.pkOk_data h
        exact (tag.letterOf_data_yes f m y sq l p w h3).mono fun e w' hp => ⟨⟨_, hp.1⟩, hp.2⟩
      · rw [tag.pkOk_other h1 h2] at h
        cases h
set_option maxHeartbeats 2000000 in
theorem heeds_1 (A : Nat) (k f m y nxt msk sq : Int) (l : Bool) (p : ByteArray) (num : Int) (up : Bool) (peer : Int) (w : World) (h0 : w.cell? ⟨A, 262, none⟩ = some (.int .i64 num)) (h1 : w.cell? ⟨A, 263, none⟩ = some (.bool up)) (h3 : w.cell? ⟨A, 265, none⟩ = some (.int .i64 peer)) (hk : tag.pkOk k f m y nxt msk sq l p = false) :
    Calls Tryz.prog 81 #[.pointer (some ⟨A, 0, none⟩), .agg #[.int .i64 k, .int .i64 f, .int .i64 m, .int .i64 y, .int .i64 nxt, .int .i64 msk, .int .i64 sq, .bool l, .string p]] w fun e w' => e = .returned (.bool false) ∧ Below w.heap.size w w' := by
  have HL : Hid (∀ u : World, Calls Tryz.prog 106 #[.agg #[.int .i64 k, .int .i64 f, .int .i64 m, .int .i64 y, .int .i64 nxt, .int .i64 msk, .int .i64 sq, .bool l, .string p]] u fun e w' => (∃ v, e = .returned (.tuple #[v, .bool false])) ∧ Below u.heap.size u w') := fun u => by have := letter_any k f m y nxt msk sq l p u; rw [hk] at this; exact this
  have AL : A < w.heap.size := World.block_lt_of_cell? w _ h0
  clear hk
  have k0 : Hid (∀ O : Obj, (w.alloc O).cell? ⟨A, 262, none⟩ = some (.int .i64 num) ∧ (w.alloc O).cell? ⟨A, 263, none⟩ = some (.bool up) ∧ (w.alloc O).cell? ⟨A, 265, none⟩ = some (.int .i64 peer)) := fun O => ⟨by rw [World.cell?_alloc_lt _ _ _ AL]; exact h0, by rw [World.cell?_alloc_lt _ _ _ AL]; exact h1, by rw [World.cell?_alloc_lt _ _ _ AL]; exact h3⟩
  clear h0 h1 h3
  go_enter Tryz.func81, Tryz.ntmps81
  go_wp2_with (first
    | (go_at_call 106; refine (HL.out _).mono ?_; rintro e w1 ⟨⟨v, rfl⟩, hb1⟩; (have c1 := hb1.cell (p := ⟨w.heap.size, 1, none⟩) (by simp)); (have c2 := hb1.cell (p := ⟨w.heap.size, 2, none⟩) (by simp)); (have q0 := cell_keep (k0.out _).1 hb1); (have q1 := cell_keep (k0.out _).2.1 hb1); (have q3 := cell_keep (k0.out _).2.2 hb1); simp at c1 c2)
    | fail)
  refine wp_region_held_drew (S := (fun w' => Below w1.heap.size w1 w')) (by kernel_rfl) ?_ (fun hHeld => ?_)
  · exact (Below.refl _ _).drew
  refine tkF 0 (some 12) ?_
  refine tkF 1 (some 13) ?_
  refine tkS 2 (some 14) ?_
  refine tkS 3 (some 15) ?_
  refine tkS 4 (some 16) ?_
  refine tkS 5 (some 17) ?_
  refine tkS 6 (some 18) ?_
  refine tkF 7 (some 19) ?_
  refine tkF 8 (some 20) ?_
  refine tkS 9 (some 21) ?_
  refine tkS 10 (some 22) ?_
  refine tkS 11 (some 23) ?_
  refine tkS 12 (some 24) ?_
  refine tkS 13 (some 25) ?_
  refine tkS 14 (some 26) ?_
  refine tkS 15 (some 27) ?_
  refine tkS 16 (some 28) ?_
  refine tkF 17 (some 29) ?_
  refine tkF 18 (some 30) ?_
  refine tkS 19 (some 31) ?_
  refine tkS 20 (some 32) ?_
  refine tkS 21 (some 33) ?_
  refine tkS 22 (some 34) ?_
  refine tkS 23 (some 35) ?_
  refine tkS 24 (some 36) ?_
  refine tkS 25 (some 37) ?_
  refine tkS 26 (some 38) ?_
  refine tkF 27 (some 39) ?_
  refine tkF 28 (some 4) ?_
  refine wpAnyH_done (by kernel_rfl) ?_ _
  go_wp2
  go_ret
  exact ⟨rfl, kb (kb ((Below.refl _ _).alloc (Nat.le_refl _) _) hb1 (Nat.le_refl _)) (by assumption) (Nat.le_refl _)⟩
set_option maxHeartbeats 2000000 in
theorem heeds_2 (A : Nat) (k f m y nxt msk sq : Int) (l : Bool) (p : ByteArray) (num : Int) (up : Bool) (peer : Int) (w : World) (h0 : w.cell? ⟨A, 262, none⟩ = some (.int .i64 num)) (h1 : w.cell? ⟨A, 263, none⟩ = some (.bool up)) (h3 : w.cell? ⟨A, 265, none⟩ = some (.int .i64 peer)) (hk : tag.pkOk k f m y nxt msk sq l p = true) (hu : up = false) :
    Calls Tryz.prog 81 #[.pointer (some ⟨A, 0, none⟩), .agg #[.int .i64 k, .int .i64 f, .int .i64 m, .int .i64 y, .int .i64 nxt, .int .i64 msk, .int .i64 sq, .bool l, .string p]] w fun e w' => e = .returned (.bool false) ∧ Below w.heap.size w w' := by
  have HL : Hid (∀ u : World, Calls Tryz.prog 106 #[.agg #[.int .i64 k, .int .i64 f, .int .i64 m, .int .i64 y, .int .i64 nxt, .int .i64 msk, .int .i64 sq, .bool l, .string p]] u fun e w' => (∃ v, e = .returned (.tuple #[v, .bool true])) ∧ Below u.heap.size u w') := fun u => by have := letter_any k f m y nxt msk sq l p u; rw [hk] at this; exact this
  have AL : A < w.heap.size := World.block_lt_of_cell? w _ h0
  clear hk
  subst hu
  have k0 : Hid (∀ O : Obj, (w.alloc O).cell? ⟨A, 262, none⟩ = some (.int .i64 num) ∧ (w.alloc O).cell? ⟨A, 263, none⟩ = some (.bool false) ∧ (w.alloc O).cell? ⟨A, 265, none⟩ = some (.int .i64 peer)) := fun O => ⟨by rw [World.cell?_alloc_lt _ _ _ AL]; exact h0, by rw [World.cell?_alloc_lt _ _ _ AL]; exact h1, by rw [World.cell?_alloc_lt _ _ _ AL]; exact h3⟩
  clear h0 h1 h3
  go_enter Tryz.func81, Tryz.ntmps81
  go_wp2_with (first
    | (go_at_call 106; refine (HL.out _).mono ?_; rintro e w1 ⟨⟨v, rfl⟩, hb1⟩; (have c1 := hb1.cell (p := ⟨w.heap.size, 1, none⟩) (by simp)); (have c2 := hb1.cell (p := ⟨w.heap.size, 2, none⟩) (by simp)); (have q0 := cell_keep (k0.out _).1 hb1); (have q1 := cell_keep (k0.out _).2.1 hb1); (have q3 := cell_keep (k0.out _).2.2 hb1); simp at c1 c2)
    | fail)
  refine wp_region_held_drew (S := (fun w' => Below w1.heap.size w1 w')) (by kernel_rfl) ?_ (fun hHeld => ?_)
  · exact (Below.refl _ _).drew
  refine tkF 0 (some 12) ?_
  refine tkF 1 (some 13) ?_
  refine tkF 2 (some 14) ?_
  refine tkF 3 (some 15) ?_
  refine tkF 4 (some 16) ?_
  refine tkF 5 (some 17) ?_
  refine tkE 6 (some 18) ?_ ?_ ?_
  rotate_left
  · (intro w hSw; (have hc1 := cell_keep c1 hSw); (have hc2 := cell_keep c2 hSw); (have hq0 := cell_keep q0 hSw); (have hq1 := cell_keep q1 hSw); (have hq3 := cell_keep q3 hSw); go_simp <;> with_reducible rfl)
  refine tkF 7 (some 19) ?_
  refine tkF 8 (some 20) ?_
  refine tkS 9 (some 21) ?_
  refine tkS 10 (some 22) ?_
  refine tkS 11 (some 23) ?_
  refine tkS 12 (some 24) ?_
  refine tkS 13 (some 25) ?_
  refine tkS 14 (some 26) ?_
  refine tkS 15 (some 27) ?_
  refine tkS 16 (some 28) ?_
  refine tkF 17 (some 29) ?_
  refine tkF 18 (some 30) ?_
  refine tkS 19 (some 31) ?_
  refine tkS 20 (some 32) ?_
  refine tkS 21 (some 33) ?_
  refine tkS 22 (some 34) ?_
  refine tkS 23 (some 35) ?_
  refine tkS 24 (some 36) ?_
  refine tkS 25 (some 37) ?_
  refine tkS 26 (some 38) ?_
  refine tkF 27 (some 39) ?_
  refine tkF 28 (some 4) ?_
  refine wpAnyH_done (by kernel_rfl) ?_ _
  go_wp2
  go_ret
  exact ⟨rfl, kb (kb ((Below.refl _ _).alloc (Nat.le_refl _) _) hb1 (Nat.le_refl _)) (by assumption) (Nat.le_refl _)⟩
set_option maxHeartbeats 2000000 in
theorem heeds_3 (A : Nat) (k f m y nxt msk sq : Int) (l : Bool) (p : ByteArray) (num : Int) (up : Bool) (peer : Int) (w : World) (h0 : w.cell? ⟨A, 262, none⟩ = some (.int .i64 num)) (h1 : w.cell? ⟨A, 263, none⟩ = some (.bool up)) (h3 : w.cell? ⟨A, 265, none⟩ = some (.int .i64 peer)) (hk : tag.pkOk k f m y nxt msk sq l p = true) (hu : up = true) (hf : f = num) :
    Calls Tryz.prog 81 #[.pointer (some ⟨A, 0, none⟩), .agg #[.int .i64 k, .int .i64 f, .int .i64 m, .int .i64 y, .int .i64 nxt, .int .i64 msk, .int .i64 sq, .bool l, .string p]] w fun e w' => e = .returned (.bool false) ∧ Below w.heap.size w w' := by
  have HL : Hid (∀ u : World, Calls Tryz.prog 106 #[.agg #[.int .i64 k, .int .i64 f, .int .i64 m, .int .i64 y, .int .i64 nxt, .int .i64 msk, .int .i64 sq, .bool l, .string p]] u fun e w' => (∃ v, e = .returned (.tuple #[v, .bool true])) ∧ Below u.heap.size u w') := fun u => by have := letter_any k f m y nxt msk sq l p u; rw [hk] at this; exact this
  have AL : A < w.heap.size := World.block_lt_of_cell? w _ h0
  clear hk
  subst hu
  subst hf
  have k0 : Hid (∀ O : Obj, (w.alloc O).cell? ⟨A, 262, none⟩ = some (.int .i64 f) ∧ (w.alloc O).cell? ⟨A, 263, none⟩ = some (.bool true) ∧ (w.alloc O).cell? ⟨A, 265, none⟩ = some (.int .i64 peer)) := fun O => ⟨by rw [World.cell?_alloc_lt _ _ _ AL]; exact h0, by rw [World.cell?_alloc_lt _ _ _ AL]; exact h1, by rw [World.cell?_alloc_lt _ _ _ AL]; exact h3⟩
  clear h0 h1 h3
  go_enter Tryz.func81, Tryz.ntmps81
  go_wp2_with (first
    | (go_at_call 106; refine (HL.out _).mono ?_; rintro e w1 ⟨⟨v, rfl⟩, hb1⟩; (have c1 := hb1.cell (p := ⟨w.heap.size, 1, none⟩) (by simp)); (have c2 := hb1.cell (p := ⟨w.heap.size, 2, none⟩) (by simp)); (have q0 := cell_keep (k0.out _).1 hb1); (have q1 := cell_keep (k0.out _).2.1 hb1); (have q3 := cell_keep (k0.out _).2.2 hb1); simp at c1 c2)
    | fail)
  refine wp_region_held_drew (S := (fun w' => Below w1.heap.size w1 w')) (by kernel_rfl) ?_ (fun hHeld => ?_)
  · exact (Below.refl _ _).drew
  refine tkF 0 (some 12) ?_
  refine tkF 1 (some 13) ?_
  refine tkF 2 (some 14) ?_
  refine tkF 3 (some 15) ?_
  refine tkF 4 (some 16) ?_
  refine tkF 5 (some 17) ?_
  refine tkE 6 (some 18) ?_ ?_ ?_
  rotate_left
  · (intro w hSw; (have hc1 := cell_keep c1 hSw); (have hc2 := cell_keep c2 hSw); (have hq0 := cell_keep q0 hSw); (have hq1 := cell_keep q1 hSw); (have hq3 := cell_keep q3 hSw); go_simp <;> with_reducible rfl)
  refine tkF 7 (some 19) ?_
  refine tkF 8 (some 20) ?_
  refine tkF 9 (some 21) ?_
  refine tkE 10 (some 22) ?_ ?_ ?_
  rotate_left
  · (intro w hSw; (have hc1 := cell_keep c1 hSw); (have hc2 := cell_keep c2 hSw); (have hq0 := cell_keep q0 hSw); (have hq1 := cell_keep q1 hSw); (have hq3 := cell_keep q3 hSw); go_simp <;> with_reducible rfl)
  refine tkF 11 (some 23) ?_
  refine tkF 12 (some 24) ?_
  refine tkF 13 (some 25) ?_
  refine tkF 14 (some 26) ?_
  refine tkE 15 (some 27) ?_ ?_ ?_
  rotate_left
  · (intro w hSw; (have hc1 := cell_keep c1 hSw); (have hc2 := cell_keep c2 hSw); (have hq0 := cell_keep q0 hSw); (have hq1 := cell_keep q1 hSw); (have hq3 := cell_keep q3 hSw); go_simp <;> with_reducible rfl)
  refine takeD (i := 16) (d := some 28) (v := .bool false) rfl rfl (by kernel_rfl) (by kernel_rfl) (by kernel_rfl) (fun _ _ _ h => h) (Or.inl ⟨by rfl, (by intro w hSw; first | (go_simp; done) | (go_simp; first | rfl | simp))⟩) (by assumption) ?_
  simp only [Act.put, List.setIfInBounds_toArray, List.set_cons_zero, List.set_cons_succ]
  refine tkF 17 (some 29) ?_
  refine tkF 18 (some 30) ?_
  refine tkS 19 (some 31) ?_
  refine tkS 20 (some 32) ?_
  refine tkS 21 (some 33) ?_
  refine tkS 22 (some 34) ?_
  refine tkS 23 (some 35) ?_
  refine tkS 24 (some 36) ?_
  refine tkS 25 (some 37) ?_
  refine tkS 26 (some 38) ?_
  refine tkF 27 (some 39) ?_
  refine tkF 28 (some 4) ?_
  refine wpAnyH_done (by kernel_rfl) ?_ _
  go_wp2
  go_ret
  exact ⟨rfl, kb (kb ((Below.refl _ _).alloc (Nat.le_refl _) _) hb1 (Nat.le_refl _)) (by assumption) (Nat.le_refl _)⟩
set_option maxHeartbeats 2000000 in
theorem heeds_4 (A : Nat) (k f m y nxt msk sq : Int) (l : Bool) (p : ByteArray) (num : Int) (up : Bool) (peer : Int) (w : World) (h0 : w.cell? ⟨A, 262, none⟩ = some (.int .i64 num)) (h1 : w.cell? ⟨A, 263, none⟩ = some (.bool up)) (h3 : w.cell? ⟨A, 265, none⟩ = some (.int .i64 peer)) (hk : tag.pkOk k f m y nxt msk sq l p = true) (hu : up = true) (hf : f ≠ num) (hm : m < peer) :
    Calls Tryz.prog 81 #[.pointer (some ⟨A, 0, none⟩), .agg #[.int .i64 k, .int .i64 f, .int .i64 m, .int .i64 y, .int .i64 nxt, .int .i64 msk, .int .i64 sq, .bool l, .string p]] w fun e w' => e = .returned (.bool false) ∧ Below w.heap.size w w' := by
  have HL : Hid (∀ u : World, Calls Tryz.prog 106 #[.agg #[.int .i64 k, .int .i64 f, .int .i64 m, .int .i64 y, .int .i64 nxt, .int .i64 msk, .int .i64 sq, .bool l, .string p]] u fun e w' => (∃ v, e = .returned (.tuple #[v, .bool true])) ∧ Below u.heap.size u w') := fun u => by have := letter_any k f m y nxt msk sq l p u; rw [hk] at this; exact this
  have AL : A < w.heap.size := World.block_lt_of_cell? w _ h0
  clear hk
  subst hu
  have hf1 : (f != num) = true := by simpa using hf
  have hf2 : decide (f = num) = false := by simpa using hf
  have hm1 : decide (peer ≤ m) = false := by simp; omega
  have k0 : Hid (∀ O : Obj, (w.alloc O).cell? ⟨A, 262, none⟩ = some (.int .i64 num) ∧ (w.alloc O).cell? ⟨A, 263, none⟩ = some (.bool true) ∧ (w.alloc O).cell? ⟨A, 265, none⟩ = some (.int .i64 peer)) := fun O => ⟨by rw [World.cell?_alloc_lt _ _ _ AL]; exact h0, by rw [World.cell?_alloc_lt _ _ _ AL]; exact h1, by rw [World.cell?_alloc_lt _ _ _ AL]; exact h3⟩
  clear h0 h1 h3
  go_enter Tryz.func81, Tryz.ntmps81
  go_wp2_with (first
    | (go_at_call 106; refine (HL.out _).mono ?_; rintro e w1 ⟨⟨v, rfl⟩, hb1⟩; (have c1 := hb1.cell (p := ⟨w.heap.size, 1, none⟩) (by simp)); (have c2 := hb1.cell (p := ⟨w.heap.size, 2, none⟩) (by simp)); (have q0 := cell_keep (k0.out _).1 hb1); (have q1 := cell_keep (k0.out _).2.1 hb1); (have q3 := cell_keep (k0.out _).2.2 hb1); simp at c1 c2)
    | fail)
  refine wp_region_held_drew (S := (fun w' => Below w1.heap.size w1 w')) (by kernel_rfl) ?_ (fun hHeld => ?_)
  · exact (Below.refl _ _).drew
  refine tkF 0 (some 12) ?_
  refine tkF 1 (some 13) ?_
  refine tkF 2 (some 14) ?_
  refine tkF 3 (some 15) ?_
  refine tkF 4 (some 16) ?_
  refine tkF 5 (some 17) ?_
  refine tkE 6 (some 18) ?_ ?_ ?_
  rotate_left
  · (intro w hSw; (have hc1 := cell_keep c1 hSw); (have hc2 := cell_keep c2 hSw); (have hq0 := cell_keep q0 hSw); (have hq1 := cell_keep q1 hSw); (have hq3 := cell_keep q3 hSw); go_simp <;> with_reducible rfl)
  refine tkF 7 (some 19) ?_
  refine tkF 8 (some 20) ?_
  refine tkF 9 (some 21) ?_
  refine tkE 10 (some 22) ?_ ?_ ?_
  rotate_left
  · (intro w hSw; (have hc1 := cell_keep c1 hSw); (have hc2 := cell_keep c2 hSw); (have hq0 := cell_keep q0 hSw); (have hq1 := cell_keep q1 hSw); (have hq3 := cell_keep q3 hSw); go_simp <;> with_reducible rfl)
  refine tkF 11 (some 23) ?_
  refine tkF 12 (some 24) ?_
  refine tkF 13 (some 25) ?_
  refine tkF 14 (some 26) ?_
  refine tkE 15 (some 27) ?_ ?_ ?_
  rotate_left
  · (intro w hSw; (have hc1 := cell_keep c1 hSw); (have hc2 := cell_keep c2 hSw); (have hq0 := cell_keep q0 hSw); (have hq1 := cell_keep q1 hSw); (have hq3 := cell_keep q3 hSw); go_simp <;> with_reducible rfl)
  refine takeD (i := 16) (d := some 28) (v := .bool true) rfl rfl (by kernel_rfl) (by kernel_rfl) (by kernel_rfl) (fun _ _ _ h => h) (Or.inl ⟨by rfl, (by intro w hSw; first | (go_simp; done) | (go_simp; first | rfl | (rw [hf1]) | simp [hf1, hf2] | (simp; omega)))⟩) (by assumption) ?_
  simp only [Act.put, List.setIfInBounds_toArray, List.set_cons_zero, List.set_cons_succ]
  refine tkF 17 (some 29) ?_
  refine tkF 18 (some 30) ?_
  refine tkF 19 (some 31) ?_
  refine tkE 20 (some 32) ?_ ?_ ?_
  rotate_left
  · (intro w hSw; (have hc1 := cell_keep c1 hSw); (have hc2 := cell_keep c2 hSw); (have hq0 := cell_keep q0 hSw); (have hq1 := cell_keep q1 hSw); (have hq3 := cell_keep q3 hSw); go_simp <;> with_reducible rfl)
  refine tkF 21 (some 33) ?_
  refine tkF 22 (some 34) ?_
  refine tkF 23 (some 35) ?_
  refine tkF 24 (some 36) ?_
  refine tkE 25 (some 37) ?_ ?_ ?_
  rotate_left
  · (intro w hSw; (have hc1 := cell_keep c1 hSw); (have hc2 := cell_keep c2 hSw); (have hq0 := cell_keep q0 hSw); (have hq1 := cell_keep q1 hSw); (have hq3 := cell_keep q3 hSw); go_simp <;> with_reducible rfl)
  refine takeD (i := 26) (d := some 38) (v := .bool false) rfl rfl (by kernel_rfl) (by kernel_rfl) (by kernel_rfl) (fun _ _ _ h => h) (Or.inl ⟨by rfl, (by intro w hSw; first | (go_simp; done) | (go_simp; first | rfl | (rw [hm1]) | simp [hm1] | (simp; omega)))⟩) (by assumption) ?_
  simp only [Act.put, List.setIfInBounds_toArray, List.set_cons_zero, List.set_cons_succ]
  refine tkF 27 (some 39) ?_
  refine tkF 28 (some 4) ?_
  refine wpAnyH_done (by kernel_rfl) ?_ _
  go_wp2
  go_ret
  exact ⟨rfl, kb (kb ((Below.refl _ _).alloc (Nat.le_refl _) _) hb1 (Nat.le_refl _)) (by assumption) (Nat.le_refl _)⟩
set_option maxHeartbeats 2000000 in
theorem heeds_5 (A : Nat) (k f m y nxt msk sq : Int) (l : Bool) (p : ByteArray) (num : Int) (up : Bool) (peer : Int) (w : World) (h0 : w.cell? ⟨A, 262, none⟩ = some (.int .i64 num)) (h1 : w.cell? ⟨A, 263, none⟩ = some (.bool up)) (h3 : w.cell? ⟨A, 265, none⟩ = some (.int .i64 peer)) (hk : tag.pkOk k f m y nxt msk sq l p = true) (hu : up = true) (hf : f ≠ num) (hm : peer ≤ m) :
    Calls Tryz.prog 81 #[.pointer (some ⟨A, 0, none⟩), .agg #[.int .i64 k, .int .i64 f, .int .i64 m, .int .i64 y, .int .i64 nxt, .int .i64 msk, .int .i64 sq, .bool l, .string p]] w fun e w' => e = .returned (.bool true) ∧ Below w.heap.size w w' := by
  have HL : Hid (∀ u : World, Calls Tryz.prog 106 #[.agg #[.int .i64 k, .int .i64 f, .int .i64 m, .int .i64 y, .int .i64 nxt, .int .i64 msk, .int .i64 sq, .bool l, .string p]] u fun e w' => (∃ v, e = .returned (.tuple #[v, .bool true])) ∧ Below u.heap.size u w') := fun u => by have := letter_any k f m y nxt msk sq l p u; rw [hk] at this; exact this
  have AL : A < w.heap.size := World.block_lt_of_cell? w _ h0
  clear hk
  subst hu
  have hf1 : (f != num) = true := by simpa using hf
  have hf2 : decide (f = num) = false := by simpa using hf
  have hm1 : decide (peer ≤ m) = true := by simpa using hm
  have k0 : Hid (∀ O : Obj, (w.alloc O).cell? ⟨A, 262, none⟩ = some (.int .i64 num) ∧ (w.alloc O).cell? ⟨A, 263, none⟩ = some (.bool true) ∧ (w.alloc O).cell? ⟨A, 265, none⟩ = some (.int .i64 peer)) := fun O => ⟨by rw [World.cell?_alloc_lt _ _ _ AL]; exact h0, by rw [World.cell?_alloc_lt _ _ _ AL]; exact h1, by rw [World.cell?_alloc_lt _ _ _ AL]; exact h3⟩
  clear h0 h1 h3
  go_enter Tryz.func81, Tryz.ntmps81
  go_wp2_with (first
    | (go_at_call 106; refine (HL.out _).mono ?_; rintro e w1 ⟨⟨v, rfl⟩, hb1⟩; (have c1 := hb1.cell (p := ⟨w.heap.size, 1, none⟩) (by simp)); (have c2 := hb1.cell (p := ⟨w.heap.size, 2, none⟩) (by simp)); (have q0 := cell_keep (k0.out _).1 hb1); (have q1 := cell_keep (k0.out _).2.1 hb1); (have q3 := cell_keep (k0.out _).2.2 hb1); simp at c1 c2)
    | fail)
  refine wp_region_held_drew (S := (fun w' => Below w1.heap.size w1 w')) (by kernel_rfl) ?_ (fun hHeld => ?_)
  · exact (Below.refl _ _).drew
  refine tkF 0 (some 12) ?_
  refine tkF 1 (some 13) ?_
  refine tkF 2 (some 14) ?_
  refine tkF 3 (some 15) ?_
  refine tkF 4 (some 16) ?_
  refine tkF 5 (some 17) ?_
  refine tkE 6 (some 18) ?_ ?_ ?_
  rotate_left
  · (intro w hSw; (have hc1 := cell_keep c1 hSw); (have hc2 := cell_keep c2 hSw); (have hq0 := cell_keep q0 hSw); (have hq1 := cell_keep q1 hSw); (have hq3 := cell_keep q3 hSw); go_simp <;> with_reducible rfl)
  refine tkF 7 (some 19) ?_
  refine tkF 8 (some 20) ?_
  refine tkF 9 (some 21) ?_
  refine tkE 10 (some 22) ?_ ?_ ?_
  rotate_left
  · (intro w hSw; (have hc1 := cell_keep c1 hSw); (have hc2 := cell_keep c2 hSw); (have hq0 := cell_keep q0 hSw); (have hq1 := cell_keep q1 hSw); (have hq3 := cell_keep q3 hSw); go_simp <;> with_reducible rfl)
  refine tkF 11 (some 23) ?_
  refine tkF 12 (some 24) ?_
  refine tkF 13 (some 25) ?_
  refine tkF 14 (some 26) ?_
  refine tkE 15 (some 27) ?_ ?_ ?_
  rotate_left
  · (intro w hSw; (have hc1 := cell_keep c1 hSw); (have hc2 := cell_keep c2 hSw); (have hq0 := cell_keep q0 hSw); (have hq1 := cell_keep q1 hSw); (have hq3 := cell_keep q3 hSw); go_simp <;> with_reducible rfl)
  refine takeD (i := 16) (d := some 28) (v := .bool true) rfl rfl (by kernel_rfl) (by kernel_rfl) (by kernel_rfl) (fun _ _ _ h => h) (Or.inl ⟨by rfl, (by intro w hSw; first | (go_simp; done) | (go_simp; first | rfl | (rw [hf1]) | simp [hf1, hf2] | (simp; omega)))⟩) (by assumption) ?_
  simp only [Act.put, List.setIfInBounds_toArray, List.set_cons_zero, List.set_cons_succ]
  refine tkF 17 (some 29) ?_
  refine tkF 18 (some 30) ?_
  refine tkF 19 (some 31) ?_
  refine tkE 20 (some 32) ?_ ?_ ?_
  rotate_left
  · (intro w hSw; (have hc1 := cell_keep c1 hSw); (have hc2 := cell_keep c2 hSw); (have hq0 := cell_keep q0 hSw); (have hq1 := cell_keep q1 hSw); (have hq3 := cell_keep q3 hSw); go_simp <;> with_reducible rfl)
  refine tkF 21 (some 33) ?_
  refine tkF 22 (some 34) ?_
  refine tkF 23 (some 35) ?_
  refine tkF 24 (some 36) ?_
  refine tkE 25 (some 37) ?_ ?_ ?_
  rotate_left
  · (intro w hSw; (have hc1 := cell_keep c1 hSw); (have hc2 := cell_keep c2 hSw); (have hq0 := cell_keep q0 hSw); (have hq1 := cell_keep q1 hSw); (have hq3 := cell_keep q3 hSw); go_simp <;> with_reducible rfl)
  refine takeD (i := 26) (d := some 38) (v := .bool true) rfl rfl (by kernel_rfl) (by kernel_rfl) (by kernel_rfl) (fun _ _ _ h => h) (Or.inl ⟨by rfl, (by intro w hSw; first | (go_simp; done) | (go_simp; first | rfl | (rw [hm1]) | simp [hm1] | (simp; omega)))⟩) (by assumption) ?_
  simp only [Act.put, List.setIfInBounds_toArray, List.set_cons_zero, List.set_cons_succ]
  refine tkF 27 (some 39) ?_
  refine tkF 28 (some 4) ?_
  refine wpAnyH_done (by kernel_rfl) ?_ _
  go_wp2
  go_ret
  exact ⟨rfl, kb (kb ((Below.refl _ _).alloc (Nat.le_refl _) _) hb1 (Nat.le_refl _)) (by assumption) (Nat.le_refl _)⟩
theorem heeds_any (A : Nat) (k f m y nxt msk sq : Int) (l : Bool) (p : ByteArray) (num : Int) (up : Bool) (peer : Int) (w : World) (h0 : w.cell? ⟨A, 262, none⟩ = some (.int .i64 num)) (h1 : w.cell? ⟨A, 263, none⟩ = some (.bool up)) (h3 : w.cell? ⟨A, 265, none⟩ = some (.int .i64 peer)) :
    Calls Tryz.prog 81 #[.pointer (some ⟨A, 0, none⟩), .agg #[.int .i64 k, .int .i64 f, .int .i64 m, .int .i64 y, .int .i64 nxt, .int .i64 msk, .int .i64 sq, .bool l, .string p]] w fun e w' => e = .returned (.bool (heedsP num up peer k f m y nxt msk sq l p)) ∧ Below w.heap.size w w' := by
  unfold heedsP
  cases hk : tag.pkOk k f m y nxt msk sq l p with
  | false => exact heeds_1 A k f m y nxt msk sq l p num up peer w h0 h1 h3 hk
  | true =>
    cases hu : up with
    | false => exact heeds_2 A k f m y nxt msk sq l p num up peer w h0 h1 h3 hk hu
    | true =>
      by_cases hf : f = num
      · rw [decide_eq_true hf]
        exact heeds_3 A k f m y nxt msk sq l p num up peer w h0 h1 h3 hk hu hf
      · rw [decide_eq_false hf]
        by_cases hm : peer ≤ m
        · rw [decide_eq_true hm]
          exact heeds_5 A k f m y nxt msk sq l p num up peer w h0 h1 h3 hk hu hf hm
        · rw [decide_eq_false hm]
          exact heeds_4 A k f m y nxt msk sq l p num up peer w h0 h1 h3 hk hu hf (by omega)
/-- the cells of a ring with nothing in it, of an intake with nothing in it -/
def zr : List Value := (List.replicate 60 [Value.string ⟨#[]⟩, .bool false, .bool false, .int .i64 0]).flatten ++ [.int .i64 0, .int .i64 0]
def zi : List Value := .int .i64 0 :: (List.replicate 8 [Value.string ⟨#[]⟩, .bool false]).flatten ++ [.int .u8 0, .string ⟨#[]⟩, .slice none 0 0]
theorem zr_len : zr.length = 242 := by decide +kernel
theorem zi_len : zi.length = 20 := by decide +kernel
theorem built_ring : Tryz.prog.built 103 [] = some zr.toArray := by kernel_rfl
theorem built_intake : Tryz.prog.built 110 [] = some zi.toArray := by kernel_rfl
theorem size_ring : (Tryz.prog.info? 103).map (·.size) = some zr.toArray.size := by kernel_rfl
theorem size_intake : (Tryz.prog.info? 110).map (·.size) = some zi.toArray.size := by kernel_rfl
theorem one_ring : zr.toArray.all (·.oneCell') = true := by decide +kernel
theorem one_intake : zi.toArray.all (·.oneCell') = true := by decide +kernel
attribute [irreducible] zr zi
theorem wpList_zero {P : Program} {ops : Array Oper} {rest : List Oper} {o : Oper} {a : Act} {w : World} {Q : Exit → Act → World → Prop} (hg : o.guard = none) (t : TypeId) (ho : o.op = .build t #[]) (cs : Array Value) (hf : P.built t [] = some cs)
    (h : wpList P ops Q rest (a.put o.dst (.agg cs)) w) : wpList P ops Q (o :: rest) a w := by
  refine wpList_build hg t #[] ho (by simp [hf]) ?_
  simpa [hf] using h
theorem row_setCells {base A n sz c : Nat} {e : TypeId} (vs : List Value) : ∀ {w : World} (pre old post : List Value), w.ownsRow base e sz (.slice (some ⟨A, 0, none⟩) n c) n (pre ++ (old ++ post)) → old.length = vs.length → (w.setCells A pre.length vs).ownsRow base e sz (.slice (some ⟨A, 0, none⟩) n c) n (pre ++ (vs ++ post)) := by
  induction vs with
  | nil =>
    intro w pre old post h hl
    obtain rfl : old = [] := List.eq_nil_of_length_eq_zero hl
    exact h
  | cons v vs ih =>
    intro w pre old post h hl
    cases old with
    | nil => simp at hl
    | cons x old =>
      have h1 := (h.stored pre.length v).1
      rw [List.set_append_right _ _ (Nat.le_refl _), Nat.sub_self] at h1
      have h2 : (w.setCell ⟨A, pre.length, none⟩ v).ownsRow base e sz (.slice (some ⟨A, 0, none⟩) n c) n ((pre ++ [v]) ++ (old ++ post)) := by simpa using h1
      have h3 := ih (pre ++ [v]) old post h2 (by simpa using hl)
      rw [World.setCells]
      have e1 : (pre ++ [v]).length = pre.length + 1 := by simp
      rw [e1] at h3
      simpa using h3
theorem grow_setCells (A : Nat) (vs : List Value) : ∀ (o : Nat) (w : World), w.grownBy (w.setCells A o vs) (some A) := by
  induction vs with
  | nil => intro o w; exact grow_below _ (Below.refl _ _)
  | cons v vs ih =>
    intro o w
    rw [World.setCells]
    exact (grow_set w ⟨A, o, none⟩ v).trans (ih (o + 1) _)
theorem row_there {base A n sz c : Nat} {e : TypeId} {w : World} {cs : List Value} (h : w.ownsRow base e sz (.slice (some ⟨A, 0, none⟩) n c) n cs) (o m : Nat) (hm : o + m ≤ cs.length) : w.there A o m := fun j hj => by
  refine ⟨?_, h.frozenAt _⟩
  rw [h.cellAt (o + j) (by have := h.1; omega)]
  rw [List.getElem?_eq_getElem (by omega)]
  rfl
end Go.Proofs.YthjncmgjkejikaaGreat.mk

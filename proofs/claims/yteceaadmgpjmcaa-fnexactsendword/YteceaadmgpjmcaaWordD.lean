/-
  WORDS: impl.SendWord.
-/
import Derived.Test.YteceaadmgpjmcaaWordC
import Derived.Test.YteceaadmgpjmcaaTickB
namespace Go.Proofs.Yteceaadmgpjmcaa.mk
open Go.RowKit
set_option linter.unusedVariables false

/-- what the ring holds behind a word -/
def heard (b : Nat) (xs : List It) (next mask : Int) : Nat × List It :=
  if WdOk (b : Int) xs next mask then (next.toNat, hdn mask.toNat (xs.drop (next - (b : Int)).toNat) 8) else (b, xs)
theorem heard_le (b : Nat) (xs : List It) (next mask : Int) : (heard b xs next mask).2.length ≤ xs.length ∧ (heard b xs next mask).1 ≤ b + xs.length := by
  unfold heard
  have := front_le xs
  split
  · rename_i h
    unfold WdOk at h
    refine ⟨by rw [hdn_length, List.length_drop]; omega, ?_⟩
    show next.toNat ≤ _
    omega
  · exact ⟨Nat.le_refl _, Nat.le_add_right _ _⟩
theorem wordOf_yes {b : Nat} {xs : List It} (h : sdOk (b : Int) xs = true) (next mask : Int) : wordOf (b : Int) xs next mask = (((heard b xs next mask).1 : Int), (heard b xs next mask).2) := by
  unfold wordOf heard
  rw [if_pos h]
  split
  · rename_i h
    unfold WdOk at h
    show (next, _) = ((next.toNat : Int), _)
    rw [show (next.toNat : Int) = next by omega]
  · rfl
theorem wordOf_no {b : Int} {xs : List It} (h : sdOk b xs = false) (next mask : Int) : wordOf b xs next mask = (0, []) := by
  unfold wordOf
  rw [if_neg (by simp [h])]
theorem hear_any (base : Nat) (R : Rl) (b : Nat) (cs : List Value) (xs : List It) (next mask : Int) (w : World) (hb : b ≤ 1000000) (hn : xs.length ≤ 60) (hv : ∀ i (h : i < xs.length), -1 ≤ xs[i].since ∧ xs[i].since ≤ 3) (hr : Ring base R cs w) (hH : Holds b xs cs) :
    Calls Try.prog 64 #[.pointer (some ⟨R, 0, none⟩), .int .i64 next, .int .i64 mask] w fun x w' => (∃ v cs', x = .returned v ∧ Ring base R cs' w' ∧ Holds (heard b xs next mask).1 (heard b xs next mask).2 cs') ∧ w.grownBy w' (some R) := by
  by_cases h : WdOk (b : Int) xs next mask
  · have e : heard b xs next mask = (next.toNat, hdn mask.toNat (xs.drop (next - (b : Int)).toNat) 8) := by unfold heard; rw [if_pos h]
    rw [e]
    unfold WdOk at h
    obtain ⟨d, hd⟩ : ∃ d : Nat, next = ((b + d : Nat) : Int) := ⟨(next - b).toNat, by omega⟩
    obtain ⟨m, rfl⟩ : ∃ m : Nat, mask = (m : Int) := ⟨mask.toNat, by omega⟩
    subst hd
    rw [show (((b + d : Nat) : Int) - (b : Int)).toNat = d by omega, Int.toNat_natCast, Int.toNat_natCast]
    exact hear_yes base R b d m cs xs w hb hn hv hr hH (by omega) (by omega)
  · have e : heard b xs next mask = (b, xs) := by unfold heard; rw [if_neg h]
    rw [e]
    by_cases h1 : (b : Int) ≤ next ∧ next ≤ ((b + front xs : Nat) : Int)
    · refine (hear_mask base R b cs xs next mask w hb hn hv hr hH h1 (fun h2 => h ⟨h1.1, by have := h1.2; omega, h2.1, h2.2⟩)).mono ?_
      rintro x w' ⟨⟨v, rfl⟩, hb'⟩
      exact ⟨⟨v, cs, rfl, hr.keep hb', hH⟩, grow_below _ hb'⟩
    · refine (hear_low base R b cs xs next mask w hb hn hv hr hH h1).mono ?_
      rintro x w' ⟨⟨v, rfl⟩, hb'⟩
      exact ⟨⟨v, cs, rfl, hr.keep hb', hH⟩, grow_below _ hb'⟩
set_option maxHeartbeats 1000000 in
theorem implWord_no (b : Int) (ao : Option Addr) (cap : Nat) (xs : List It) (next mask : Int) (w : World) (hm : xs.length ≤ 1048576) (hz : ∀ i (h : i < xs.length), xs[i].text.size ≤ 1048576) (hr : Rs w ao xs.length (is xs)) (hv : sdOk b xs = false) :
    Calls Try.prog 29 #[.agg #[.int .i64 b, .slice ao xs.length cap], .int .i64 next, .int .i64 mask] w fun e w' => WordPost w b xs next mask e w' := by
  have HC : Hid (∀ u : World, Rs u ao xs.length (is xs) → Calls Try.prog 56 #[.agg #[.int .i64 b, .slice ao xs.length cap]] u fun e w' => e = .returned (.bool false) ∧ Below u.heap.size u w') := fun u h => by have := implValid_any b ao cap xs u hm hz h; rw [hv] at this; exact this
  have R2 : Hid (Rs ((w.alloc (.cells #[.int .i64 b, .slice ao xs.length cap] 38)).alloc (.cells #[.int .i64 0, .slice none 0 0] 38)) ao xs.length (is xs)) := hr.keep (two_below _ _ _)
  have X1 : Hid (Bx ((w.alloc (.cells #[.int .i64 b, .slice ao xs.length cap] 38)).alloc (.cells #[.int .i64 0, .slice none 0 0] 38)) (w.heap.size + 1) 38 #[.int .i64 0, .slice none 0 0]) := (by have := Bx.new (w.alloc (.cells #[.int .i64 b, .slice ao xs.length cap] 38)) 38 #[.int .i64 0, .slice none 0 0]; rw [World.size_alloc] at this; exact this)
  have T0 : Hid (wordOf b xs next mask = (0, [])) := wordOf_no hv next mask
  have BB : Hid (Below w.heap.size w ((w.alloc (.cells #[.int .i64 b, .slice ao xs.length cap] 38)).alloc (.cells #[.int .i64 0, .slice none 0 0] 38))) := two_below _ _ _
  clear hz hr hv
  go_enter Try.func29, Try.ntmps29
  go_wp2_with (go_at_call 56; refine (HC.out _ R2.out).mono ?_; rintro e w1 ⟨rfl, hb1⟩; (have y0 := (X1.out.keep hb1).cell 0); (have y1 := (X1.out.keep hb1).cell 1); (have z0 := (X1.out.keep hb1).frozen 0); (have z1 := (X1.out.keep hb1).frozen 1); simp at y0 y1)
  have B1 := kb BB.out hb1 (Nat.le_refl _)
  refine bodyPost_ret (v := .agg #[.int .i64 0, .slice none 0 0]) (by simp [results, Try.results29, go_sem, y0, y1]) rfl ?_
  unfold WordPost
  rw [T0.out]
  exact ⟨⟨none, 0, rfl, World.ownsRow_nil _ _ _ _⟩, (B1.setCell (p := ⟨w.heap.size + 1, 0, none⟩) (by simp) _).setCell (p := ⟨w.heap.size + 1, 1, none⟩) (by simp) _⟩
set_option maxHeartbeats 1000000 in
theorem implWord_yes (b : Nat) (ao : Option Addr) (cap : Nat) (xs : List It) (next mask : Int) (w : World) (hm : xs.length ≤ 1048576) (hz : ∀ i (h : i < xs.length), xs[i].text.size ≤ 1048576) (hr : Rs w ao xs.length (is xs)) (hv : sdOk (b : Int) xs = true) :
    Calls Try.prog 29 #[.agg #[.int .i64 (b : Int), .slice ao xs.length cap], .int .i64 next, .int .i64 mask] w fun e w' => WordPost w (b : Int) xs next mask e w' := by
  have hok := sdOk_of hv
  have hbb : b ≤ 1000000 := by have := hok.1; unfold HdOk at this; omega
  have hnn : xs.length ≤ 60 := by have := hok.1; unfold HdOk at this; omega
  have hbn : b + xs.length ≤ 1000000 := by have := hok.1; unfold HdOk at this; omega
  have HC : Hid (∀ u : World, Rs u ao xs.length (is xs) → Calls Try.prog 56 #[.agg #[.int .i64 (b : Int), .slice ao xs.length cap]] u fun e w' => e = .returned (.bool true) ∧ Below u.heap.size u w') := fun u h => by have := implValid_any (b : Int) ao cap xs u hm hz h; rw [hv] at this; exact this
  have HG : Hid (∀ u : World, Rs u ao xs.length (is xs) → Calls Try.prog 57 #[.agg #[.int .i64 (b : Int), .slice ao xs.length cap]] u fun e w' => (∃ (R : Rl) (cs : List Value), e = .returned (.pointer (some ⟨R, 0, none⟩)) ∧ Ring u.heap.size R cs w' ∧ Holds b xs cs) ∧ Below u.heap.size u w') := fun u h => ringOf_any b ao cap xs u hbb hnn hz h
  have HSV : Hid (∀ i (h : i < xs.length), -1 ≤ xs[i].since ∧ xs[i].since ≤ 3) := fun i h => ⟨(hok.2 i h).2.1, (hok.2 i h).2.2.1⟩
  have R2 : Hid (Rs ((w.alloc (.cells #[.int .i64 (b : Int), .slice ao xs.length cap] 38)).alloc (.cells #[.int .i64 0, .slice none 0 0] 38)) ao xs.length (is xs)) := hr.keep (two_below _ _ _)
  have X1 : Hid (Bx ((w.alloc (.cells #[.int .i64 (b : Int), .slice ao xs.length cap] 38)).alloc (.cells #[.int .i64 0, .slice none 0 0] 38)) (w.heap.size + 1) 38 #[.int .i64 0, .slice none 0 0]) := (by have := Bx.new (w.alloc (.cells #[.int .i64 (b : Int), .slice ao xs.length cap] 38)) 38 #[.int .i64 0, .slice none 0 0]; rw [World.size_alloc] at this; exact this)
  have X0 : Hid (Bx ((w.alloc (.cells #[.int .i64 (b : Int), .slice ao xs.length cap] 38)).alloc (.cells #[.int .i64 0, .slice none 0 0] 38)) w.heap.size 38 #[.int .i64 (b : Int), .slice ao xs.length cap]) := (Bx.new w 38 _).alloc _
  have BB : Hid (Below w.heap.size w ((w.alloc (.cells #[.int .i64 (b : Int), .slice ao xs.length cap] 38)).alloc (.cells #[.int .i64 0, .slice none 0 0] 38))) := two_below _ _ _
  have hle := heard_le b xs next mask
  obtain ⟨n, ys, hny⟩ : ∃ n ys, heard b xs next mask = (n, ys) := ⟨_, _, rfl⟩
  have T0 : Hid (wordOf (b : Int) xs next mask = ((n : Int), ys)) := (by rw [wordOf_yes hv, hny] : wordOf (b : Int) xs next mask = ((n : Int), ys))
  have HE : Hid (∀ (base : Nat) (R : Rl) (cs : List Value) (u : World), Ring base R cs u → Holds b xs cs → Calls Try.prog 64 #[.pointer (some ⟨R, 0, none⟩), .int .i64 next, .int .i64 mask] u fun x w' => (∃ v cs', x = .returned v ∧ Ring base R cs' w' ∧ Holds n ys cs') ∧ u.grownBy w' (some R)) := fun base R cs u h1 h2 => by have := hear_any base R b cs xs next mask u hbb hnn HSV.out h1 h2; rw [hny] at this; exact this
  rw [hny] at hle
  have hyl : ys.length ≤ 60 := Nat.le_trans hle.1 hnn
  have hnb : n ≤ 1000000 := Nat.le_trans hle.2 hbn
  clear hz hr hv hok hny hle HSV
  go_enter Try.func29, Try.ntmps29
  go_wp2_with (first
    | (go_at_call 56; refine (HC.out _ R2.out).mono ?_; rintro e w1 ⟨rfl, hb1⟩; (have u0 := (X0.out.keep hb1).cell 0); (have u1 := (X0.out.keep hb1).cell 1); simp at u0 u1)
    | (go_at_call 57; refine (HG.out _ (R2.out.keep hb1)).mono ?_; rintro e w2 ⟨⟨R, cs, rfl, hring, hH⟩, hb2⟩)
    | (go_at_call 64; refine (HE.out _ R cs _ hring hH).mono ?_; rintro e w3 ⟨⟨v3, cs3, rfl, hring3, hH3⟩, hg3⟩)
    | (go_at_call 59; refine (send_any _ R n cs3 _ _ hnb hyl hring3 hH3).mono ?_; rintro e w4 ⟨⟨a1, c1, rfl, ho4⟩, hb4⟩; (have X4 := (((X1.out.keep hb1).keep hb2).kept hg3 (by intro e; have h1 := (X1.out.keep hb1).lt; have h2 := hring.lt.1; injection e; omega)).keep hb4); (have y0 := X4.cell 0); (have y1 := X4.cell 1); (have z0 := X4.frozen 0); (have z1 := X4.frozen 1); simp at y0 y1))
  have s1 := hb1.size
  have s2 := hb2.size
  have s3 := hg3.size
  simp only [World.size_alloc] at s1
  have B2 := kb (kb BB.out hb1 (Nat.le_refl _)) hb2 (Nat.le_refl _)
  have B3 : Below w.heap.size w w3 := B2.grown hg3 B2.size (fun k hk => by cases hk; have := hring.lt; omega)
  have B4 := kb B3 hb4 (Nat.le_refl _)
  have P4 := ownsRow_setCell_below (ownsRow_setCell_below ho4 (a := ⟨w.heap.size + 1, 0, none⟩) (by show w.heap.size + 1 < _; omega) (.int .i64 (n : Int))) (a := ⟨w.heap.size + 1, 1, none⟩) (by show w.heap.size + 1 < _; omega) (.slice a1 ys.length c1)
  refine bodyPost_ret (v := .agg #[.int .i64 (n : Int), .slice a1 ys.length c1]) (by simp [results, Try.results29, go_sem, y0, y1]) rfl ?_
  unfold WordPost
  rw [T0.out]
  exact ⟨⟨a1, c1, rfl, owns_mono P4 (by omega)⟩, (B4.setCell (p := ⟨w.heap.size + 1, 0, none⟩) (by simp) _).setCell (p := ⟨w.heap.size + 1, 1, none⟩) (by simp) _⟩
theorem implWord_any (b : Int) (ao : Option Addr) (cap : Nat) (xs : List It) (next mask : Int) (w : World) (hm : xs.length ≤ 1048576) (hz : ∀ i (h : i < xs.length), xs[i].text.size ≤ 1048576) (hr : Rs w ao xs.length (is xs)) :
    Calls Try.prog 29 #[.agg #[.int .i64 b, .slice ao xs.length cap], .int .i64 next, .int .i64 mask] w fun e w' => WordPost w b xs next mask e w' := by
  cases hv : sdOk b xs
  · exact implWord_no b ao cap xs next mask w hm hz hr hv
  · obtain ⟨n, rfl⟩ : ∃ n : Nat, b = (n : Int) := ⟨b.toNat, by have := (sdOk_of hv).1; unfold HdOk at this; omega⟩
    exact implWord_yes n ao cap xs next mask w hm hz hr hv
end Go.Proofs.Yteceaadmgpjmcaa.mk

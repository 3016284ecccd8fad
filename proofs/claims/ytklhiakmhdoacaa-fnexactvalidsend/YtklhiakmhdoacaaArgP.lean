/-
  AN ARGUMENT THAT IS A SLICE OF PARTS: its size, and its copy.
-/
import Derived.Test.YtklhiakmhdoacaaCutA
import Derived.Laws.ResultCell
namespace Go.Proofs.Ytklhiakmhdoacaa.mk
open Go.RowKit
set_option linter.unusedVariables false

/-- a slice of parts that came in -/
structure Ap (w : World) (ao : Option Addr) (xs : List (ByteArray × Bool)) : Prop where
  ex : xs.length = 0 ∨ ∃ g o, ao = some ⟨g, o, none⟩ ∧ ∀ i (h : i < xs.length), w.cell? ⟨g, o + i * 2, none⟩ = some (.string xs[i].1) ∧ w.cell? ⟨g, o + i * 2 + 1, none⟩ = some (.bool xs[i].2)
theorem cell_lt {w : World} {a : Addr} {v : Value} (h : w.cell? a = some v) : a.block < w.heap.size := by
  rcases Nat.lt_or_ge a.block w.heap.size with hl | hl
  · exact hl
  · have : w.heap[a.block]? = none := Array.getElem?_eq_none hl
    simp [World.cell?, this] at h
theorem cell_keep {w w' : World} {a : Addr} {v : Value} (h : w.cell? a = some v) (hb : Below w.heap.size w w') : w'.cell? a = some v := (hb.cell (cell_lt h)).trans h
theorem Ap.keep {w w' : World} {ao : Option Addr} {xs : List (ByteArray × Bool)} (h : Ap w ao xs) (hb : Below w.heap.size w w') : Ap w' ao xs := by
  rcases h.ex with h | ⟨g, o, h1, h2⟩
  · exact ⟨.inl h⟩
  · exact ⟨.inr ⟨g, o, h1, fun i hi => ⟨cell_keep (h2 i hi).1 hb, cell_keep (h2 i hi).2 hb⟩⟩⟩
theorem szPart_any (s : ByteArray) (b : Bool) (z : Int) (w : World) (hs : s.size ≤ maxLen) (hz : 0 ≤ z ∧ z ≤ 1048576) :
    Calls Try.prog 46 #[.agg #[.string s, .bool b], .int .i64 z] w fun e w' => e = .returned (.int .i64 (if z < s.size then -1 else z - s.size)) ∧ Below w.heap.size w w' := by
  have hs' : (s.size : Int) ≤ 9223372036854775807 := by unfold maxLen at hs; omega
  by_cases h : z < s.size
  · rw [if_pos h]
    go_enter Try.func46, Try.ntmps46
    go_wp2
    go_ret
    exact ⟨rfl, (Below.refl _ _).alloc (Nat.le_refl _) _⟩
  · rw [if_neg h]
    go_enter Try.func46, Try.ntmps46
    go_wp2
    go_ret
    exact ⟨rfl, (Below.refl _ _).alloc (Nat.le_refl _) _⟩
theorem szPartS_any (ao : Option Addr) (cap : Nat) (xs : List (ByteArray × Bool)) (z : Int) (w : World) (hz : 0 ≤ z ∧ z ≤ 1048576) (hm : xs.length ≤ maxLen) (hs : ∀ i (h : i < xs.length), xs[i].1.size ≤ maxLen) (ha : Ap w ao xs) :
    Calls Try.prog 21 #[.slice ao xs.length cap, .int .i64 z] w fun e w' => (∃ z : Int, e = .returned (.int .i64 z) ∧ (0 ≤ z → z ≤ 1048576 ∧ xs.length ≤ 1048576 ∧ ∀ i (h : i < xs.length), xs[i].1.size ≤ 1048576) ∧ -1 ≤ z) ∧ Below w.heap.size w w' := by
  have HA : Hid (Ap w ao xs) := ha
  have HS : Hid (∀ i (h : i < xs.length), xs[i].1.size ≤ maxLen) := hs
  have hm' : (xs.length : Int) ≤ 9223372036854775807 := by unfold maxLen at hm; omega
  clear ha hs
  by_cases h0 : z < xs.length
  · go_enter Try.func21, Try.ntmps21
    go_wp2
    go_ret
    exact ⟨⟨-1, rfl, fun h => by omega, by omega⟩, Below.refl _ _⟩
  · go_enter Try.func21, Try.ntmps21
    go_wp2
    go_loopw [1, 5] (fun q i wr => ∃ (k : Nat) (y : Int), k ≤ xs.length ∧ i = .int .i64 k ∧ q = .int .i64 y ∧ 0 ≤ y ∧ y ≤ 1048576 ∧ (∀ j (h : j < xs.length), j < k → xs[j].1.size ≤ 1048576) ∧ Below w.heap.size w wr) (fun _ i _ => xs.length - (intOf i).toNat)
    case atStart => exact ⟨0, z - xs.length, Nat.zero_le _, rfl, rfl, by omega, by omega, fun j _ h => absurd h (by omega), Below.refl _ _⟩
    case round =>
      obtain ⟨k, y, hk, rfl, rfl, hy0, hy1, hall, hbel⟩ := hrel
      have HL : Hid (∀ j (h : j < xs.length), j < k → xs[j].1.size ≤ 1048576) := hall
      clear hall
      by_cases hlt : k < xs.length
      · rcases HA.out.ex with h | ⟨g, o, rfl, hac⟩
        · omega
        have hsz := HS.out k hlt
        have c0 := (hbel.cell (cell_lt (hac k hlt).1)).trans (hac k hlt).1
        have c1 := (hbel.cell (cell_lt (hac k hlt).2)).trans (hac k hlt).2
        clear hac
        obtain ⟨s, hs⟩ : ∃ s, s = xs[k].1 := ⟨_, rfl⟩
        rw [← hs] at hsz c0
        generalize xs[k].2 = t at *
        have HSZ : Hid (s = xs[k].1) := hs
        clear hs
        by_cases hbig : y < s.size
        · go_wp2_with (go_at_call 46; refine (szPart_any _ _ _ _ hsz ⟨hy0, hy1⟩).mono ?_; rintro e w2 ⟨rfl, hb2⟩; rw [if_pos hbig])
          go_ret
          exact ⟨⟨-1, rfl, fun h => by omega, by omega⟩, hbel.trans (hb2.mono hbel.size)⟩
        · go_wp2_with (go_at_call 46; refine (szPart_any _ _ _ _ hsz ⟨hy0, hy1⟩).mono ?_; rintro e w2 ⟨rfl, hb2⟩; rw [if_neg hbig])
          go_roundw
          case rel =>
            refine ⟨k + 1, y - s.size, by omega, by go_num, rfl, by omega, by omega, fun j h hj => ?_, hbel.trans (hb2.mono hbel.size)⟩
            rcases Nat.lt_or_ge j k with h1 | h1
            · exact HL.out j h h1
            · obtain rfl : j = k := by omega
              rw [← HSZ.out]; omega
          case measure => simp [intOf]; omega
      · obtain rfl : k = xs.length := by omega
        go_wp2
        go_ret
        exact ⟨⟨y, rfl, fun _ => ⟨hy1, by omega, fun i h => HL.out i h h⟩, by omega⟩, hbel⟩
theorem toPart_any (s : ByteArray) (b : Bool) (w : World) :
    Calls Try.prog 47 #[.agg #[.string s, .bool b]] w fun e w' => e = .returned (.agg #[.string s, .bool b]) ∧ Below w.heap.size w w' := by
  go_enter Try.func47, Try.ntmps47
  go_wp2
  exact bodyPost_ret (v := .agg #[.string s, .bool b]) (by simp [results, Try.results47, go_sem]) rfl
    ⟨rfl, (((Below.refl _ _).alloc (Nat.le_refl _) _).alloc (by simp) _).alloc (by simp; omega) _⟩
/-- the first k parts have been laid -/
def Tp (xs : List (ByteArray × Bool)) (k : Nat) (cs : List Value) : Prop := ∀ i (h : i < xs.length), i < k → cs[i * 2]? = some (.string xs[i].1) ∧ cs[i * 2 + 1]? = some (.bool xs[i].2)
theorem Tp.step {xs : List (ByteArray × Bool)} {k : Nat} {cs : List Value} (h : Tp xs k cs) (hk : k < xs.length) (hl : k * 2 + 1 < cs.length) :
    Tp xs (k + 1) ((cs.set (k * 2) (.string xs[k].1)).set (k * 2 + 1) (.bool xs[k].2)) := by
  intro j hj hj2
  rcases Nat.lt_or_ge j k with h1 | h1
  · rw [List.getElem?_set_ne (by omega), List.getElem?_set_ne (by omega), List.getElem?_set_ne (by omega), List.getElem?_set_ne (by omega)]
    exact h j hj h1
  · obtain rfl : j = k := by omega
    rw [List.getElem?_set_ne (by omega), List.getElem?_set_self (by omega), List.getElem?_set_self (by simp; omega)]
    exact ⟨rfl, rfl⟩
theorem Tp.all {xs : List (ByteArray × Bool)} {cs : List Value} (h : Tp xs xs.length cs) (hl : cs.length = xs.length * 2) : cs = ps xs := by
  apply List.ext_getElem?
  intro j
  rcases Nat.lt_or_ge j (xs.length * 2) with hj | hj
  · have hi : j / 2 < xs.length := by omega
    have a := h (j / 2) hi hi
    have b := ps_at xs (j / 2) hi
    rcases (show j = j / 2 * 2 ∨ j = j / 2 * 2 + 1 by omega) with e | e
    · rw [e, a.1, b.1]
    · rw [e, a.2, b.2]
  · rw [List.getElem?_eq_none (by omega), List.getElem?_eq_none (by rw [ps_length]; omega)]
set_option maxRecDepth 100000 in
theorem toPartS_any (ao : Option Addr) (cap : Nat) (xs : List (ByteArray × Bool)) (w : World) (hm : xs.length ≤ 1048576) (ha : Ap w ao xs) :
    Calls Try.prog 22 #[.slice ao xs.length cap] w fun e w' => (∃ g, e = .returned (.slice (some ⟨g, 0, none⟩) xs.length xs.length) ∧ w'.ownsRow w.heap.size 66 2 (.slice (some ⟨g, 0, none⟩) xs.length xs.length) xs.length (ps xs)) ∧ Below w.heap.size w w' := by
  have HA : Hid (Ap w ao xs) := ha
  clear ha
  obtain ⟨i0, hi, hz0, hz1, hz2⟩ := info_parts info_part
  go_enter Try.func22, Try.ntmps22
  go_wp2_with (at_make; refine wpList_make_full _ rfl _ _ 24 rfl w.heap.size 66 i0 (.agg #[.string ⟨#[]⟩, .bool false]) 2 Try.underlying24 hi hz0 hz1 _ _ _ _ xs.length rfl rfl rfl rfl (by rw [hz2]; omega) (by unfold maxLen; omega) (Nat.le_refl _) ?_)
  intro w1 hown hgrow
  have hb1 : Below w.heap.size w w1 := (Below.refl _ _).grown hgrow (Nat.le_refl _) (fun k h => by cases h)
  go_wp2
  go_loopw [4] (fun i wr => ∃ (k : Nat) (cs : List Value), k ≤ xs.length ∧ i = .int .i64 k ∧ wr.ownsRow w.heap.size 66 2 (.slice (some ⟨w.heap.size, 0, none⟩) xs.length xs.length) xs.length cs ∧ Tp xs k cs ∧ Below w.heap.size w wr) (fun i _ => xs.length - (intOf i).toNat)
  case atStart => exact ⟨0, _, Nat.zero_le _, rfl, hown, fun i _ h => absurd h (by omega), hb1⟩
  case round =>
    clear hown hgrow hb1
    obtain ⟨k, cs, hk, rfl, hown, hT, hbel⟩ := hrel
    by_cases hlt : k < xs.length
    · rcases HA.out.ex with h | ⟨g, o, rfl, hac⟩
      · omega
      have hcl := hown.1
      have c0 := (hbel.cell (cell_lt (hac k hlt).1)).trans (hac k hlt).1
      have c1 := (hbel.cell (cell_lt (hac k hlt).2)).trans (hac k hlt).2
      clear hac
      have HT : Hid (Tp xs (k + 1) ((cs.set (k * 2) (.string xs[k].1)).set (k * 2 + 1) (.bool xs[k].2))) := hT.step hlt (by omega)
      generalize xs[k].1 = s at *
      generalize xs[k].2 = t at *
      have HW : Hid (wr.ownsRow w.heap.size 66 2 (.slice (some ⟨w.heap.size, 0, none⟩) xs.length xs.length) xs.length cs) := hown
      clear hown hT
      go_wp2_with (go_at_call 47; refine (toPart_any _ _ _).mono ?_; rintro e w2 ⟨rfl, hb2⟩; (have ho2 := HW.out.kept (grow_below none hb2) (.inr (by simp [Value.ownBlock]))); (have e0 := ho2.cellAt (k * 2) (by omega)); (have e1 := ho2.cellAt (k * 2 + 1) (by omega)); (rw [List.getElem?_eq_getElem (by omega)] at e0 e1); (have f0 := ho2.frozenAt (k * 2)); (have f1 := ho2.frozenAt (k * 2 + 1)))
      go_roundw
      case rel => exact ⟨k + 1, _, by omega, by go_num, ((ho2.stored (k * 2) (.string s)).1.stored (k * 2 + 1) (.bool t)).1, HT.out, ((hbel.trans (hb2.mono hbel.size)).setCell (p := ⟨w.heap.size, k * 2, none⟩) (Nat.le_refl _) _).setCell (p := ⟨w.heap.size, k * 2 + 1, none⟩) (Nat.le_refl _) _⟩
      case measure => simp [intOf]; omega
    · obtain rfl : k = xs.length := by omega
      have hcs := hT.all hown.1
      subst hcs
      go_wp2
      go_ret
      exact ⟨⟨w.heap.size, rfl, hown⟩, hbel⟩
end Go.Proofs.Ytklhiakmhdoacaa.mk

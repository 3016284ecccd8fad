/-
  AN ARGUMENT THAT IS A SEND: its size, and its copy.
-/
import Derived.Test.YtfjedpnagnnobaaArgP
import Derived.Test.YtfjedpnagnnobaaItA
namespace Go.Proofs.Ytfjedpnagnnobaa.mk
open Go.RowKit
set_option linter.unusedVariables false

/-- a slice of items that came in -/
structure Ai (w : World) (ao : Option Addr) (xs : List It) : Prop where
  ex : xs.length = 0 ∨ ∃ g o, ao = some ⟨g, o, none⟩ ∧ ∀ i (h : i < xs.length), w.cell? ⟨g, o + i * 4, none⟩ = some (.string xs[i].text) ∧ w.cell? ⟨g, o + i * 4 + 1, none⟩ = some (.bool xs[i].last) ∧ w.cell? ⟨g, o + i * 4 + 2, none⟩ = some (.bool xs[i].has) ∧ w.cell? ⟨g, o + i * 4 + 3, none⟩ = some (.int .i64 xs[i].since)
theorem Ai.keep {w w' : World} {ao : Option Addr} {xs : List It} (h : Ai w ao xs) (hb : Below w.heap.size w w') : Ai w' ao xs := by
  rcases h.ex with h | ⟨g, o, h1, h2⟩
  · exact ⟨.inl h⟩
  · exact ⟨.inr ⟨g, o, h1, fun i hi => ⟨cell_keep (h2 i hi).1 hb, cell_keep (h2 i hi).2.1 hb, cell_keep (h2 i hi).2.2.1 hb, cell_keep (h2 i hi).2.2.2 hb⟩⟩⟩
theorem szItem_any (s : ByteArray) (l h : Bool) (n : Int) (z : Int) (w : World) (hs : s.size ≤ maxLen) (hz : 0 ≤ z ∧ z ≤ 1048576) :
    Calls Try.prog 75 #[.agg #[.string s, .bool l, .bool h, .int .i64 n], .int .i64 z] w fun e w' => e = .returned (.int .i64 (if z < s.size then -1 else z - s.size)) ∧ Below w.heap.size w w' := by
  by_cases hb : z < s.size
  · rw [if_pos hb]
    go_enter Try.func75, Try.ntmps75
    go_wp2_with (go_at_call 90; refine (szPart_any _ _ _ _ hs hz).mono ?_; rintro e w2 ⟨rfl, hb2⟩; rw [if_pos hb])
    go_ret
    exact ⟨rfl, ((Below.refl _ _).alloc (Nat.le_refl _) _).trans (hb2.mono (by simp))⟩
  · rw [if_neg hb]
    go_enter Try.func75, Try.ntmps75
    go_wp2_with (go_at_call 90; refine (szPart_any _ _ _ _ hs hz).mono ?_; rintro e w2 ⟨rfl, hb2⟩; rw [if_neg hb])
    go_ret
    exact ⟨rfl, ((Below.refl _ _).alloc (Nat.le_refl _) _).trans (hb2.mono (by simp))⟩
theorem szItemS_any (ao : Option Addr) (cap : Nat) (xs : List It) (z : Int) (w : World) (hz : 0 ≤ z ∧ z ≤ 1048576) (hm : xs.length ≤ maxLen) (hs : ∀ i (h : i < xs.length), xs[i].text.size ≤ maxLen) (ha : Ai w ao xs) :
    Calls Try.prog 37 #[.slice ao xs.length cap, .int .i64 z] w fun e w' => (∃ z : Int, e = .returned (.int .i64 z) ∧ (0 ≤ z → z ≤ 1048576 ∧ xs.length ≤ 1048576 ∧ ∀ i (h : i < xs.length), xs[i].text.size ≤ 1048576) ∧ -1 ≤ z) ∧ Below w.heap.size w w' := by
  have HA : Hid (Ai w ao xs) := ha
  have HS : Hid (∀ i (h : i < xs.length), xs[i].text.size ≤ maxLen) := hs
  have hm' : (xs.length : Int) ≤ 9223372036854775807 := by unfold maxLen at hm; omega
  clear ha hs
  by_cases h0 : z < xs.length
  · go_enter Try.func37, Try.ntmps37
    go_wp2
    go_ret
    exact ⟨⟨-1, rfl, fun h => by omega, by omega⟩, Below.refl _ _⟩
  · go_enter Try.func37, Try.ntmps37
    go_wp2
    go_loopw [1, 5] (fun q i wr => ∃ (k : Nat) (y : Int), k ≤ xs.length ∧ i = .int .i64 k ∧ q = .int .i64 y ∧ 0 ≤ y ∧ y ≤ 1048576 ∧ (∀ j (h : j < xs.length), j < k → xs[j].text.size ≤ 1048576) ∧ Below w.heap.size w wr) (fun _ i _ => xs.length - (intOf i).toNat)
    case atStart => exact ⟨0, z - xs.length, Nat.zero_le _, rfl, rfl, by omega, by omega, fun j _ h => absurd h (by omega), Below.refl _ _⟩
    case round =>
      obtain ⟨k, y, hk, rfl, rfl, hy0, hy1, hall, hbel⟩ := hrel
      have HL : Hid (∀ j (h : j < xs.length), j < k → xs[j].text.size ≤ 1048576) := hall
      clear hall
      by_cases hlt : k < xs.length
      · rcases HA.out.ex with h | ⟨g, o, rfl, hac⟩
        · omega
        have hsz := HS.out k hlt
        obtain ⟨q0, q1, q2, q3⟩ := hac k hlt
        have c0 := (hbel.cell (cell_lt q0)).trans q0
        have c1 := (hbel.cell (cell_lt q1)).trans q1
        have c2 := (hbel.cell (cell_lt q2)).trans q2
        have c3 := (hbel.cell (cell_lt q3)).trans q3
        clear hac q0 q1 q2 q3
        obtain ⟨s, hs⟩ : ∃ s, s = xs[k].text := ⟨_, rfl⟩
        rw [← hs] at hsz c0
        have HSZ : Hid (s = xs[k].text) := hs
        clear hs
        generalize xs[k].last = l at *
        generalize xs[k].has = h at *
        generalize xs[k].since = n at *
        by_cases hbig : y < s.size
        · go_wp2_with (go_at_call 75; refine (szItem_any _ _ _ _ _ _ hsz ⟨hy0, hy1⟩).mono ?_; rintro e w2 ⟨rfl, hb2⟩; rw [if_pos hbig])
          go_ret
          exact ⟨⟨-1, rfl, fun h => by omega, by omega⟩, hbel.trans (hb2.mono hbel.size)⟩
        · go_wp2_with (go_at_call 75; refine (szItem_any _ _ _ _ _ _ hsz ⟨hy0, hy1⟩).mono ?_; rintro e w2 ⟨rfl, hb2⟩; rw [if_neg hbig])
          go_roundw
          case rel =>
            refine ⟨k + 1, y - s.size, by omega, by go_num, rfl, by omega, by omega, fun j h hj => ?_, hbel.trans (hb2.mono hbel.size)⟩
            rcases Nat.lt_or_ge j k with h1 | h1
            · exact HL.out j h h1
            · obtain rfl : j = k := by omega
              rw [← HSZ.out]; omega
          case measure => simp [intOf]; omega
      · obtain rfl : k = xs.length := by omega
        go_wp2
        go_ret
        exact ⟨⟨y, rfl, fun _ => ⟨hy1, by omega, fun i h => HL.out i h h⟩, by omega⟩, hbel⟩
theorem szSend_any (b : Int) (ao : Option Addr) (cap : Nat) (xs : List It) (z : Int) (w : World) (hz : 0 ≤ z ∧ z ≤ 1048576) (hm : xs.length ≤ maxLen) (hs : ∀ i (h : i < xs.length), xs[i].text.size ≤ maxLen) (ha : Ai w ao xs) :
    Calls Try.prog 17 #[.agg #[.int .i64 b, .slice ao xs.length cap], .int .i64 z] w fun e w' => (∃ z : Int, e = .returned (.int .i64 z) ∧ (0 ≤ z → z ≤ 1048576 ∧ xs.length ≤ 1048576 ∧ ∀ i (h : i < xs.length), xs[i].text.size ≤ 1048576) ∧ -1 ≤ z) ∧ Below w.heap.size w w' := by
  have HA : Hid (Ai w ao xs) := ha
  have HS : Hid (∀ i (h : i < xs.length), xs[i].text.size ≤ maxLen) := hs
  have HB0 : Hid (∀ o : Obj, Below w.heap.size w (w.alloc o)) := fun o => (Below.refl _ _).alloc (Nat.le_refl _) _
  clear ha hs
  go_enter Try.func17, Try.ntmps17
  go_wp2_with (go_at_call 37; refine (szItemS_any ao cap xs _ _ hz hm HS.out (HA.out.keep (HB0.out _))).mono ?_; rintro e w1 ⟨⟨y, rfl, hy, hy1⟩, hb1⟩)
  · go_ret
    exact ⟨⟨-1, rfl, fun h => by omega, by omega⟩, (HB0.out _).trans (hb1.mono (by simp))⟩
  · go_ret
    exact ⟨⟨y, rfl, hy, hy1⟩, (HB0.out _).trans (hb1.mono (by simp))⟩
theorem toItem_any (s : ByteArray) (l h : Bool) (n : Int) (w : World) :
    Calls Try.prog 79 #[.agg #[.string s, .bool l, .bool h, .int .i64 n]] w fun e w' => e = .returned (.agg #[.string s, .bool l, .bool h, .int .i64 n]) ∧ Below w.heap.size w w' := by
  go_enter Try.func79, Try.ntmps79
  go_wp2_with (go_at_call 91; refine (toPart_any _ _ _).mono ?_; rintro e w1 ⟨rfl, hb1⟩; (have c2 := hb1.cell (p := ⟨w.heap.size, 2, none⟩) (by simp <;> omega)); (have c3 := hb1.cell (p := ⟨w.heap.size, 3, none⟩) (by simp <;> omega)); (have x0 := hb1.cell (p := ⟨w.heap.size + 1 + 1, 0, none⟩) (by simp <;> omega)); (have y0 := hb1.cell (p := ⟨w.heap.size + 1, 0, none⟩) (by simp <;> omega)); (have z0 := hb1.frozen (p := ⟨w.heap.size + 1 + 1, 0, none⟩) (by simp <;> omega)); (have u0 := hb1.frozen (p := ⟨w.heap.size + 1, 0, none⟩) (by simp <;> omega)); (have x1 := hb1.cell (p := ⟨w.heap.size + 1 + 1, 1, none⟩) (by simp <;> omega)); (have y1 := hb1.cell (p := ⟨w.heap.size + 1, 1, none⟩) (by simp <;> omega)); (have z1 := hb1.frozen (p := ⟨w.heap.size + 1 + 1, 1, none⟩) (by simp <;> omega)); (have u1 := hb1.frozen (p := ⟨w.heap.size + 1, 1, none⟩) (by simp <;> omega)); (have x2 := hb1.cell (p := ⟨w.heap.size + 1 + 1, 2, none⟩) (by simp <;> omega)); (have y2 := hb1.cell (p := ⟨w.heap.size + 1, 2, none⟩) (by simp <;> omega)); (have z2 := hb1.frozen (p := ⟨w.heap.size + 1 + 1, 2, none⟩) (by simp <;> omega)); (have u2 := hb1.frozen (p := ⟨w.heap.size + 1, 2, none⟩) (by simp <;> omega)); (have x3 := hb1.cell (p := ⟨w.heap.size + 1 + 1, 3, none⟩) (by simp <;> omega)); (have y3 := hb1.cell (p := ⟨w.heap.size + 1, 3, none⟩) (by simp <;> omega)); (have z3 := hb1.frozen (p := ⟨w.heap.size + 1 + 1, 3, none⟩) (by simp <;> omega)); (have u3 := hb1.frozen (p := ⟨w.heap.size + 1, 3, none⟩) (by simp <;> omega)); simp [go_sem] at c2 c3 x0 y0 z0 u0 x1 y1 z1 u1 x2 y2 z2 u2 x3 y3 z3 u3)
  have b1 : Below w.heap.size w w1 := ((((Below.refl _ _).alloc (Nat.le_refl _) _).alloc (by simp) _).alloc (by simp; omega) _).trans (hb1.mono (by simp; omega))
  exact bodyPost_ret (v := .agg #[.string s, .bool l, .bool h, .int .i64 n]) (by simp [results, Try.results79, go_sem, y0, y1, y2, y3]) rfl ⟨rfl, ((((((((b1.setCell (p := ⟨w.heap.size + 1 + 1, 0, none⟩) (by simp <;> omega) _).setCell (p := ⟨w.heap.size + 1 + 1, 1, none⟩) (by simp <;> omega) _).setCell (p := ⟨w.heap.size + 1 + 1, 2, none⟩) (by simp <;> omega) _).setCell (p := ⟨w.heap.size + 1 + 1, 3, none⟩) (by simp <;> omega) _).setCell (p := ⟨w.heap.size + 1, 0, none⟩) (by simp <;> omega) _).setCell (p := ⟨w.heap.size + 1, 1, none⟩) (by simp <;> omega) _).setCell (p := ⟨w.heap.size + 1, 2, none⟩) (by simp <;> omega) _).setCell (p := ⟨w.heap.size + 1, 3, none⟩) (by simp <;> omega) _)⟩
/-- the first k items have been laid -/
def Ti (xs : List It) (k : Nat) (cs : List Value) : Prop := ∀ i (h : i < xs.length), i < k → cs[i * 4]? = some (.string xs[i].text) ∧ cs[i * 4 + 1]? = some (.bool xs[i].last) ∧ cs[i * 4 + 2]? = some (.bool xs[i].has) ∧ cs[i * 4 + 3]? = some (.int .i64 xs[i].since)
/-- item k is laid over four cells -/
def put4 (cs : List Value) (k : Nat) (a b c d : Value) : List Value := (((cs.set (k * 4) a).set (k * 4 + 1) b).set (k * 4 + 2) c).set (k * 4 + 3) d
theorem put4_at {cs : List Value} {k : Nat} {a b c d : Value} (hl : k * 4 + 3 < cs.length) : (put4 cs k a b c d)[k * 4]? = some a ∧ (put4 cs k a b c d)[k * 4 + 1]? = some b ∧ (put4 cs k a b c d)[k * 4 + 2]? = some c ∧ (put4 cs k a b c d)[k * 4 + 3]? = some d := by
  unfold put4
  refine ⟨?_, ?_, ?_, ?_⟩
  · rw [List.getElem?_set_ne (by omega), List.getElem?_set_ne (by omega), List.getElem?_set_ne (by omega), List.getElem?_set_self (by omega)]
  · rw [List.getElem?_set_ne (by omega), List.getElem?_set_ne (by omega), List.getElem?_set_self (by simp; omega)]
  · rw [List.getElem?_set_ne (by omega), List.getElem?_set_self (by simp; omega)]
  · rw [List.getElem?_set_self (by simp; omega)]
theorem put4_other {cs : List Value} {k j : Nat} {a b c d : Value} (h : j < k * 4 ∨ k * 4 + 3 < j) : (put4 cs k a b c d)[j]? = cs[j]? := by
  unfold put4
  rw [List.getElem?_set_ne (by omega), List.getElem?_set_ne (by omega), List.getElem?_set_ne (by omega), List.getElem?_set_ne (by omega)]
theorem put4_length (cs : List Value) (k : Nat) (a b c d : Value) : (put4 cs k a b c d).length = cs.length := by simp [put4]
theorem Ti.step {xs : List It} {k : Nat} {cs : List Value} (h : Ti xs k cs) (hk : k < xs.length) (hl : k * 4 + 3 < cs.length) :
    Ti xs (k + 1) (put4 cs k (.string xs[k].text) (.bool xs[k].last) (.bool xs[k].has) (.int .i64 xs[k].since)) := by
  intro j hj hj2
  rcases Nat.lt_or_ge j k with h1 | h1
  · rw [put4_other (by omega), put4_other (by omega), put4_other (by omega), put4_other (by omega)]
    exact h j hj h1
  · obtain rfl : j = k := by omega
    exact put4_at hl
theorem Ti.all {xs : List It} {cs : List Value} (h : Ti xs xs.length cs) (hl : cs.length = xs.length * 4) : cs = is xs := by
  apply List.ext_getElem?
  intro j
  rcases Nat.lt_or_ge j (xs.length * 4) with hj | hj
  · have hi : j / 4 < xs.length := by omega
    have a := h (j / 4) hi hi
    have b := is_at xs (j / 4) hi
    rcases (show j = j / 4 * 4 ∨ j = j / 4 * 4 + 1 ∨ j = j / 4 * 4 + 2 ∨ j = j / 4 * 4 + 3 by omega) with e | e | e | e
    · rw [e, a.1, b.1]
    · rw [e, a.2.1, b.2.1]
    · rw [e, a.2.2.1, b.2.2.1]
    · rw [e, a.2.2.2, b.2.2.2]
  · rw [List.getElem?_eq_none (by omega), List.getElem?_eq_none (by rw [is_length]; omega)]
theorem owns_put4 {w : World} {base g n cap : Nat} {e : TypeId} {cs : List Value} (h : w.ownsRow base e 4 (.slice (some ⟨g, 0, none⟩) n cap) n cs) (k : Nat) (a b c d : Value) :
    ((((w.setCell ⟨g, k * 4, none⟩ a).setCell ⟨g, k * 4 + 1, none⟩ b).setCell ⟨g, k * 4 + 2, none⟩ c).setCell ⟨g, k * 4 + 3, none⟩ d).ownsRow base e 4 (.slice (some ⟨g, 0, none⟩) n cap) n (put4 cs k a b c d) :=
  ((((h.stored (k * 4) a).1.stored (k * 4 + 1) b).1.stored (k * 4 + 2) c).1.stored (k * 4 + 3) d).1
theorem below_put4 {B g : Nat} {w w1 : World} (h : Below B w w1) (hg : B ≤ g) (k : Nat) (a b c d : Value) :
    Below B w ((((w1.setCell ⟨g, k * 4, none⟩ a).setCell ⟨g, k * 4 + 1, none⟩ b).setCell ⟨g, k * 4 + 2, none⟩ c).setCell ⟨g, k * 4 + 3, none⟩ d) :=
  (((h.setCell (p := ⟨g, k * 4, none⟩) hg _).setCell (p := ⟨g, k * 4 + 1, none⟩) hg _).setCell (p := ⟨g, k * 4 + 2, none⟩) hg _).setCell (p := ⟨g, k * 4 + 3, none⟩) hg _
theorem info_item : (Try.prog.info? 70).map (fun i => (i.zero, i.size, i.bytes)) = some (some (.agg #[.string ⟨#[]⟩, .bool false, .bool false, .int .i64 0]), 4, 40) := by kernel_rfl
set_option maxRecDepth 100000 in
theorem toItemS_any (ao : Option Addr) (cap : Nat) (xs : List It) (w : World) (hm : xs.length ≤ 1048576) (ha : Ai w ao xs) :
    Calls Try.prog 47 #[.slice ao xs.length cap] w fun e w' => (∃ g, e = .returned (.slice (some ⟨g, 0, none⟩) xs.length xs.length) ∧ w'.ownsRow w.heap.size 70 4 (.slice (some ⟨g, 0, none⟩) xs.length xs.length) xs.length (is xs)) ∧ Below w.heap.size w w' := by
  have HA : Hid (Ai w ao xs) := ha
  clear ha
  obtain ⟨i0, hi, hz0, hz1, hz2⟩ := info_parts info_item
  go_enter Try.func47, Try.ntmps47
  go_wp2_with (at_make; refine wpList_make_full _ rfl _ _ 32 rfl w.heap.size 70 i0 (.agg #[.string ⟨#[]⟩, .bool false, .bool false, .int .i64 0]) 4 Try.underlying32 hi hz0 hz1 _ _ _ _ xs.length rfl rfl rfl rfl (by rw [hz2]; omega) (by unfold maxLen; omega) (Nat.le_refl _) ?_)
  intro w1 hown hgrow
  have hb1 : Below w.heap.size w w1 := (Below.refl _ _).grown hgrow (Nat.le_refl _) (fun k h => by cases h)
  go_wp2
  go_loopw [4] (fun i wr => ∃ (k : Nat) (cs : List Value), k ≤ xs.length ∧ i = .int .i64 k ∧ wr.ownsRow w.heap.size 70 4 (.slice (some ⟨w.heap.size, 0, none⟩) xs.length xs.length) xs.length cs ∧ Ti xs k cs ∧ Below w.heap.size w wr) (fun i _ => xs.length - (intOf i).toNat)
  case atStart => exact ⟨0, _, Nat.zero_le _, rfl, hown, fun i _ h => absurd h (by omega), hb1⟩
  case round =>
    clear hown hgrow hb1
    obtain ⟨k, cs, hk, rfl, hown, hT, hbel⟩ := hrel
    by_cases hlt : k < xs.length
    · rcases HA.out.ex with h | ⟨g, o, rfl, hac⟩
      · omega
      have hcl := hown.1
      obtain ⟨q0, q1, q2, q3⟩ := hac k hlt
      have c0 := (hbel.cell (cell_lt q0)).trans q0
      have c1 := (hbel.cell (cell_lt q1)).trans q1
      have c2 := (hbel.cell (cell_lt q2)).trans q2
      have c3 := (hbel.cell (cell_lt q3)).trans q3
      clear hac q0 q1 q2 q3
      have HT : Hid (Ti xs (k + 1) (put4 cs k (.string xs[k].text) (.bool xs[k].last) (.bool xs[k].has) (.int .i64 xs[k].since))) := hT.step hlt (by omega)
      generalize xs[k].text = s at *
      generalize xs[k].last = l at *
      generalize xs[k].has = h at *
      generalize xs[k].since = n at *
      have HW : Hid (wr.ownsRow w.heap.size 70 4 (.slice (some ⟨w.heap.size, 0, none⟩) xs.length xs.length) xs.length cs) := hown
      clear hown hT
      go_wp2_with (go_at_call 79; refine (toItem_any _ _ _ _ _).mono ?_; rintro e w2 ⟨rfl, hb2⟩; (have ho2 := HW.out.kept (grow_below none hb2) (.inr (by simp [Value.ownBlock]))); (have e0 := ho2.cellAt (k * 4) (by omega)); (have e1 := ho2.cellAt (k * 4 + 1) (by omega)); (have e2 := ho2.cellAt (k * 4 + 2) (by omega)); (have e3 := ho2.cellAt (k * 4 + 3) (by omega)); (rw [List.getElem?_eq_getElem (by omega)] at e0 e1 e2 e3); (have f0 := ho2.frozenAt (k * 4)); (have f1 := ho2.frozenAt (k * 4 + 1)); (have f2 := ho2.frozenAt (k * 4 + 2)); (have f3 := ho2.frozenAt (k * 4 + 3)))
      go_roundw
      case rel => exact ⟨k + 1, _, by omega, by go_num, owns_put4 ho2 k _ _ _ _, HT.out, below_put4 (hbel.trans (hb2.mono hbel.size)) (Nat.le_refl _) k _ _ _ _⟩
      case measure => simp [intOf]; omega
    · obtain rfl : k = xs.length := by omega
      have hcs := hT.all hown.1
      subst hcs
      go_wp2
      go_ret
      exact ⟨⟨w.heap.size, rfl, hown⟩, hbel⟩
theorem owns_mono {w : World} {base base' : Nat} {e : TypeId} {size : Nat} {v : Value} {n : Nat} {xs : List Value} (h : w.ownsRow base e size v n xs) (hb : base' ≤ base) : w.ownsRow base' e size v n xs := by
  refine ⟨h.1, ?_⟩
  rcases h.2 with h2 | ⟨g, cap, cur, h1, h2, h3⟩
  · exact .inl h2
  · exact .inr ⟨g, cap, cur, h1, Nat.le_trans hb h2, h3⟩
theorem toSend_any (b : Int) (ao : Option Addr) (cap : Nat) (xs : List It) (w : World) (hm : xs.length ≤ 1048576) (ha : Ai w ao xs) :
    Calls Try.prog 21 #[.agg #[.int .i64 b, .slice ao xs.length cap]] w fun e w' => (∃ g, e = .returned (.agg #[.int .i64 b, .slice (some ⟨g, 0, none⟩) xs.length xs.length]) ∧ w'.ownsRow w.heap.size 70 4 (.slice (some ⟨g, 0, none⟩) xs.length xs.length) xs.length (is xs)) ∧ Below w.heap.size w w' := by
  have HA : Hid (Ai w ao xs) := ha
  have HB0 : Hid (∀ o p q : Obj, Below w.heap.size w (((w.alloc o).alloc p).alloc q)) := fun o p q => (((Below.refl _ _).alloc (Nat.le_refl _) _).alloc (by simp) _).alloc (by simp; omega) _
  clear ha
  go_enter Try.func21, Try.ntmps21
  go_wp2_with (go_at_call 47; refine (toItemS_any ao cap xs _ hm (HA.out.keep (by first | exact HB0.out _ _ _ | exact ((HB0.out _ _ _).setCell (by simp <;> omega) _)))).mono ?_; rintro e w1 ⟨⟨g, rfl, ho1⟩, hb1⟩; (have x0 := hb1.cell (p := ⟨w.heap.size + 1 + 1, 0, none⟩) (by simp <;> omega)); (have y0 := hb1.cell (p := ⟨w.heap.size + 1, 0, none⟩) (by simp <;> omega)); (have z0 := hb1.frozen (p := ⟨w.heap.size + 1 + 1, 0, none⟩) (by simp <;> omega)); (have u0 := hb1.frozen (p := ⟨w.heap.size + 1, 0, none⟩) (by simp <;> omega)); (have x1 := hb1.cell (p := ⟨w.heap.size + 1 + 1, 1, none⟩) (by simp <;> omega)); (have y1 := hb1.cell (p := ⟨w.heap.size + 1, 1, none⟩) (by simp <;> omega)); (have z1 := hb1.frozen (p := ⟨w.heap.size + 1 + 1, 1, none⟩) (by simp <;> omega)); (have u1 := hb1.frozen (p := ⟨w.heap.size + 1, 1, none⟩) (by simp <;> omega)); simp [go_sem] at x0 y0 z0 u0 x1 y1 z1 u1)
  have b1 : Below w.heap.size w w1 := (HB0.out _ _ _).trans (hb1.mono (by simp; omega))
  have o1 := ownsRow_setCell_below (ownsRow_setCell_below (ownsRow_setCell_below ho1 (a := ⟨w.heap.size + 1 + 1, 1, none⟩) (by simp) (.slice (some ⟨g, 0, none⟩) xs.length xs.length)) (a := ⟨w.heap.size + 1, 0, none⟩) (by simp) (.int .i64 b)) (a := ⟨w.heap.size + 1, 1, none⟩) (by simp) (.slice (some ⟨g, 0, none⟩) xs.length xs.length)
  exact bodyPost_ret (v := .agg #[.int .i64 b, .slice (some ⟨g, 0, none⟩) xs.length xs.length]) (by simp [results, Try.results21, go_sem, y0, y1]) rfl ⟨⟨g, rfl, owns_mono o1 (by simp; omega)⟩, ((b1.setCell (p := ⟨w.heap.size + 1 + 1, 1, none⟩) (by simp <;> omega) _).setCell (p := ⟨w.heap.size + 1, 0, none⟩) (by simp <;> omega) _).setCell (p := ⟨w.heap.size + 1, 1, none⟩) (by simp <;> omega) _⟩
end Go.Proofs.Ytfjedpnagnnobaa.mk

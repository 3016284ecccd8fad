/-
  AN ARGUMENT THAT IS A TAKE: its size, and its copy.
-/
import Derived.Test.YtfjedpnagnnobaaArgP
import Derived.Test.YtfjedpnagnnobaaTkA
namespace Go.Proofs.Ytfjedpnagnnobaa.mk
open Go.RowKit
set_option linter.unusedVariables false

/-- a slice of held parts that came in -/
structure Ah (w : World) (ao : Option Addr) (xs : List Hd) : Prop where
  ex : xs.length = 0 ∨ ∃ g o, ao = some ⟨g, o, none⟩ ∧ ∀ i (h : i < xs.length), w.cell? ⟨g, o + i * 3, none⟩ = some (.int .i64 xs[i].seq) ∧ w.cell? ⟨g, o + i * 3 + 1, none⟩ = some (.string xs[i].text) ∧ w.cell? ⟨g, o + i * 3 + 2, none⟩ = some (.bool xs[i].last)
theorem Ah.keep {w w' : World} {ao : Option Addr} {xs : List Hd} (h : Ah w ao xs) (hb : Below w.heap.size w w') : Ah w' ao xs := by
  rcases h.ex with h | ⟨g, o, h1, h2⟩
  · exact ⟨.inl h⟩
  · exact ⟨.inr ⟨g, o, h1, fun i hi => ⟨cell_keep (h2 i hi).1 hb, cell_keep (h2 i hi).2.1 hb, cell_keep (h2 i hi).2.2 hb⟩⟩⟩
/-- a slice of texts that came in -/
structure As (w : World) (ao : Option Addr) (xs : List ByteArray) : Prop where
  ex : xs.length = 0 ∨ ∃ g o, ao = some ⟨g, o, none⟩ ∧ ∀ i (h : i < xs.length), w.cell? ⟨g, o + i, none⟩ = some (.string xs[i])
theorem As.keep {w w' : World} {ao : Option Addr} {xs : List ByteArray} (h : As w ao xs) (hb : Below w.heap.size w w') : As w' ao xs := by
  rcases h.ex with h | ⟨g, o, h1, h2⟩
  · exact ⟨.inl h⟩
  · exact ⟨.inr ⟨g, o, h1, fun i hi => cell_keep (h2 i hi) hb⟩⟩
structure At (w : World) (ao so : Option Addr) (xs : List Hd) (rs : List ByteArray) : Prop where
  held : Ah w ao xs
  ready : As w so rs
theorem At.keep {w w' : World} {ao so : Option Addr} {xs : List Hd} {rs : List ByteArray} (h : At w ao so xs rs) (hb : Below w.heap.size w w') : At w' ao so xs rs := ⟨h.held.keep hb, h.ready.keep hb⟩
/-- sizes: at most so many -/
structure Sm (m : Nat) (xs : List Hd) (o : ByteArray) (rs : List ByteArray) : Prop where
  n : xs.length ≤ m
  t : ∀ i (h : i < xs.length), xs[i].text.size ≤ m
  o : o.size ≤ m
  k : rs.length ≤ m
  r : ∀ i (h : i < rs.length), rs[i].size ≤ m
theorem szHeld_any (n : Int) (s : ByteArray) (l : Bool) (z : Int) (w : World) (hs : s.size ≤ maxLen) (hz : 0 ≤ z ∧ z ≤ 1048576) :
    Calls Try.prog 76 #[.agg #[.int .i64 n, .string s, .bool l], .int .i64 z] w fun e w' => e = .returned (.int .i64 (if z < s.size then -1 else z - s.size)) ∧ Below w.heap.size w w' := by
  by_cases hb : z < s.size
  · rw [if_pos hb]
    go_enter Try.func76, Try.ntmps76
    go_wp2_with (go_at_call 90; refine (szPart_any _ _ _ _ hs hz).mono ?_; rintro e w2 ⟨rfl, hb2⟩; rw [if_pos hb])
    go_ret
    exact ⟨rfl, ((Below.refl _ _).alloc (Nat.le_refl _) _).trans (hb2.mono (by simp))⟩
  · rw [if_neg hb]
    go_enter Try.func76, Try.ntmps76
    go_wp2_with (go_at_call 90; refine (szPart_any _ _ _ _ hs hz).mono ?_; rintro e w2 ⟨rfl, hb2⟩; rw [if_neg hb])
    go_ret
    exact ⟨rfl, ((Below.refl _ _).alloc (Nat.le_refl _) _).trans (hb2.mono (by simp))⟩
theorem szHeldS_any (ao : Option Addr) (cap : Nat) (xs : List Hd) (z : Int) (w : World) (hz : 0 ≤ z ∧ z ≤ 1048576) (hm : xs.length ≤ maxLen) (hs : ∀ i (h : i < xs.length), xs[i].text.size ≤ maxLen) (ha : Ah w ao xs) :
    Calls Try.prog 38 #[.slice ao xs.length cap, .int .i64 z] w fun e w' => (∃ z : Int, e = .returned (.int .i64 z) ∧ z ≤ 1048576 ∧ -1 ≤ z ∧ (0 ≤ z → xs.length ≤ 1048576 ∧ ∀ i (h : i < xs.length), xs[i].text.size ≤ 1048576)) ∧ Below w.heap.size w w' := by
  have HA : Hid (Ah w ao xs) := ha
  have HS : Hid (∀ i (h : i < xs.length), xs[i].text.size ≤ maxLen) := hs
  have hm' : (xs.length : Int) ≤ 9223372036854775807 := by unfold maxLen at hm; omega
  clear ha hs
  by_cases h0 : z < xs.length
  · go_enter Try.func38, Try.ntmps38
    go_wp2
    go_ret
    exact ⟨⟨-1, rfl, by omega, by omega, fun h => by omega⟩, Below.refl _ _⟩
  · go_enter Try.func38, Try.ntmps38
    go_wp2
    go_loopw [1, 5] (fun q i wr => ∃ (k : Nat) (y : Int), k ≤ xs.length ∧ i = .int .i64 k ∧ q = .int .i64 y ∧ 0 ≤ y ∧ y ≤ 1048576 ∧ (∀ j (h : j < xs.length), j < k → xs[j].text.size ≤ 1048576) ∧ Below w.heap.size w wr) (fun _ i _ => xs.length - (intOf i).toNat)
    case atStart => exact ⟨0, z - xs.length, Nat.zero_le _, rfl, rfl, by omega, by omega, fun j _ h => absurd h (by omega), Below.refl _ _⟩
    case round =>
      obtain ⟨k, y, hk, rfl, rfl, hy0, hy1, hall, hbel⟩ := hrel
      have HL : Hid (∀ j (h : j < xs.length), j < k → xs[j].text.size ≤ 1048576) := hall
      clear hall
      by_cases hlt : k < xs.length
      · rcases HA.out.ex with h | ⟨g, o, rfl, hac⟩
        · omega
        have hsz := HS.out k hlt
        obtain ⟨q0, q1, q2⟩ := hac k hlt
        have c0 := (hbel.cell (cell_lt q0)).trans q0
        have c1 := (hbel.cell (cell_lt q1)).trans q1
        have c2 := (hbel.cell (cell_lt q2)).trans q2
        clear hac q0 q1 q2
        obtain ⟨s, hs⟩ : ∃ s, s = xs[k].text := ⟨_, rfl⟩
        rw [← hs] at hsz c1
        have HSZ : Hid (s = xs[k].text) := hs
        clear hs
        generalize xs[k].last = l at *
        generalize xs[k].seq = n at *
        by_cases hbig : y < s.size
        · go_wp2_with (go_at_call 76; refine (szHeld_any _ _ _ _ _ hsz ⟨hy0, hy1⟩).mono ?_; rintro e w2 ⟨rfl, hb2⟩; rw [if_pos hbig])
          go_ret
          exact ⟨⟨-1, rfl, by omega, by omega, fun h => by omega⟩, hbel.trans (hb2.mono hbel.size)⟩
        · go_wp2_with (go_at_call 76; refine (szHeld_any _ _ _ _ _ hsz ⟨hy0, hy1⟩).mono ?_; rintro e w2 ⟨rfl, hb2⟩; rw [if_neg hbig])
          go_roundw
          case rel =>
            refine ⟨k + 1, y - s.size, by omega, by go_num, rfl, by omega, by omega, fun j h hj => ?_, hbel.trans (hb2.mono hbel.size)⟩
            rcases Nat.lt_or_ge j k with h1 | h1
            · exact HL.out j h h1
            · obtain rfl : j = k := by omega
              rw [← HSZ.out]; omega
          case measure => simp [intOf]; omega
      · obtain rfl : k = xs.length := by omega
        go_wp2
        go_ret
        exact ⟨⟨y, rfl, hy1, by omega, fun _ => ⟨by omega, fun i h => HL.out i h h⟩⟩, hbel⟩
theorem szStringS_any (ao : Option Addr) (cap : Nat) (xs : List ByteArray) (z : Int) (w : World) (hz : 0 ≤ z ∧ z ≤ 1048576) (hm : xs.length ≤ maxLen) (hs : ∀ i (h : i < xs.length), xs[i].size ≤ maxLen) (ha : As w ao xs) :
    Calls Try.prog 39 #[.slice ao xs.length cap, .int .i64 z] w fun e w' => (∃ z : Int, e = .returned (.int .i64 z) ∧ z ≤ 1048576 ∧ -1 ≤ z ∧ (0 ≤ z → xs.length ≤ 1048576 ∧ ∀ i (h : i < xs.length), xs[i].size ≤ 1048576)) ∧ Below w.heap.size w w' := by
  have HA : Hid (As w ao xs) := ha
  have HS : Hid (∀ i (h : i < xs.length), xs[i].size ≤ maxLen) := hs
  have hm' : (xs.length : Int) ≤ 9223372036854775807 := by unfold maxLen at hm; omega
  clear ha hs
  by_cases h0 : z < xs.length
  · go_enter Try.func39, Try.ntmps39
    go_wp2
    go_ret
    exact ⟨⟨-1, rfl, by omega, by omega, fun h => by omega⟩, Below.refl _ _⟩
  · go_enter Try.func39, Try.ntmps39
    go_wp2
    go_loopw [1, 5] (fun q i wr => ∃ (k : Nat) (y : Int), k ≤ xs.length ∧ i = .int .i64 k ∧ q = .int .i64 y ∧ 0 ≤ y ∧ y ≤ 1048576 ∧ (∀ j (h : j < xs.length), j < k → xs[j].size ≤ 1048576) ∧ Below w.heap.size w wr) (fun _ i _ => xs.length - (intOf i).toNat)
    case atStart => exact ⟨0, z - xs.length, Nat.zero_le _, rfl, rfl, by omega, by omega, fun j _ h => absurd h (by omega), Below.refl _ _⟩
    case round =>
      obtain ⟨k, y, hk, rfl, rfl, hy0, hy1, hall, hbel⟩ := hrel
      have HL : Hid (∀ j (h : j < xs.length), j < k → xs[j].size ≤ 1048576) := hall
      clear hall
      by_cases hlt : k < xs.length
      · rcases HA.out.ex with h | ⟨g, o, rfl, hac⟩
        · omega
        have hsz := HS.out k hlt
        have c0 := (hbel.cell (cell_lt (hac k hlt))).trans (hac k hlt)
        clear hac
        obtain ⟨s, hs⟩ : ∃ s, s = xs[k] := ⟨_, rfl⟩
        rw [← hs] at hsz c0
        have HSZ : Hid (s = xs[k]) := hs
        have hsz' : (s.size : Int) ≤ 9223372036854775807 := by unfold maxLen at hsz; omega
        clear hs
        by_cases hbig : y < s.size
        · go_wp2
          go_ret
          exact ⟨⟨-1, rfl, by omega, by omega, fun h => by omega⟩, hbel⟩
        · go_wp2
          go_roundw
          case rel =>
            refine ⟨k + 1, y - s.size, by omega, by go_num, rfl, by omega, by omega, fun j h hj => ?_, hbel⟩
            rcases Nat.lt_or_ge j k with h1 | h1
            · exact HL.out j h h1
            · obtain rfl : j = k := by omega
              rw [← HSZ.out]; omega
          case measure => simp [intOf]; omega
      · obtain rfl : k = xs.length := by omega
        go_wp2
        go_ret
        exact ⟨⟨y, rfl, hy1, by omega, fun _ => ⟨by omega, fun i h => HL.out i h h⟩⟩, hbel⟩
theorem szTake_any (nx : Int) (ao so : Option Addr) (ca cs : Nat) (xs : List Hd) (o : ByteArray) (rs : List ByteArray) (z : Int) (w : World) (hz : 0 ≤ z ∧ z ≤ 1048576) (hm : Sm maxLen xs o rs) (ha : At w ao so xs rs) :
    Calls Try.prog 18 #[.agg #[.int .i64 nx, .slice ao xs.length ca, .string o, .slice so rs.length cs], .int .i64 z] w fun e w' => (∃ z : Int, e = .returned (.int .i64 z) ∧ z ≤ 1048576 ∧ -1 ≤ z ∧ (0 ≤ z → Sm 1048576 xs o rs)) ∧ Below w.heap.size w w' := by
  have HA : Hid (At w ao so xs rs) := ha
  have HM : Hid (Sm maxLen xs o rs) := hm
  have HB0 : Hid (∀ o : Obj, Below w.heap.size w (w.alloc o)) := fun o => (Below.refl _ _).alloc (Nat.le_refl _) _
  have ho' : (o.size : Int) ≤ 9223372036854775807 := by have := hm.o; unfold maxLen at this; omega
  clear ha hm
  go_enter Try.func18, Try.ntmps18
  go_wp2_with (first
    | (go_at_call 38; refine (szHeldS_any ao ca xs _ _ hz HM.out.n HM.out.t (HA.out.held.keep (HB0.out _))).mono ?_; rintro e w1 ⟨⟨y, rfl, hy1, hy2, hy3⟩, hb1⟩; (have c2 := hb1.cell (p := ⟨w.heap.size, 2, none⟩) (by simp)); (have c3 := hb1.cell (p := ⟨w.heap.size, 3, none⟩) (by simp)); simp [go_sem] at c2 c3; (have HY : Hid (0 ≤ y → xs.length ≤ 1048576 ∧ ∀ i (h : i < xs.length), xs[i].text.size ≤ 1048576) := hy3); clear hy3)
    | (go_at_call 39; refine (szStringS_any so cs rs _ _ (by constructor <;> omega) HM.out.k HM.out.r ((HA.out.ready.keep (HB0.out _)).keep hb1)).mono ?_; rintro e w2 ⟨⟨y', rfl, hy1', hy2', hy3'⟩, hb2⟩; (have HY' : Hid (0 ≤ y' → rs.length ≤ 1048576 ∧ ∀ i (h : i < rs.length), rs[i].size ≤ 1048576) := hy3'); clear hy3'))
  · go_ret
    exact ⟨⟨-1, rfl, by omega, by omega, fun h => by omega⟩, kb (HB0.out _) hb1 (Nat.le_refl _)⟩
  · go_ret
    exact ⟨⟨-1, rfl, by omega, by omega, fun h => by omega⟩, kb (HB0.out _) hb1 (Nat.le_refl _)⟩
  · go_ret
    exact ⟨⟨-1, rfl, by omega, by omega, fun h => by omega⟩, kb (kb (HB0.out _) hb1 (Nat.le_refl _)) hb2 (Nat.le_refl _)⟩
  · go_ret
    exact ⟨⟨y', rfl, hy1', by omega, fun h => ⟨(HY.out (by omega)).1, (HY.out (by omega)).2, by omega, (HY'.out h).1, (HY'.out h).2⟩⟩, kb (kb (HB0.out _) hb1 (Nat.le_refl _)) hb2 (Nat.le_refl _)⟩
theorem toHeld_any (n : Int) (s : ByteArray) (l : Bool) (w : World) :
    Calls Try.prog 80 #[.agg #[.int .i64 n, .string s, .bool l]] w fun e w' => e = .returned (.agg #[.int .i64 n, .string s, .bool l]) ∧ Below w.heap.size w w' := by
  go_enter Try.func80, Try.ntmps80
  go_wp2_with (go_at_call 91; refine (toPart_any _ _ _).mono ?_; rintro e w1 ⟨rfl, hb1⟩; (have x0 := hb1.cell (p := ⟨w.heap.size + 1 + 1, 0, none⟩) (by simp <;> omega)); (have y0 := hb1.cell (p := ⟨w.heap.size + 1, 0, none⟩) (by simp <;> omega)); (have z0 := hb1.frozen (p := ⟨w.heap.size + 1 + 1, 0, none⟩) (by simp <;> omega)); (have u0 := hb1.frozen (p := ⟨w.heap.size + 1, 0, none⟩) (by simp <;> omega)); (have x1 := hb1.cell (p := ⟨w.heap.size + 1 + 1, 1, none⟩) (by simp <;> omega)); (have y1 := hb1.cell (p := ⟨w.heap.size + 1, 1, none⟩) (by simp <;> omega)); (have z1 := hb1.frozen (p := ⟨w.heap.size + 1 + 1, 1, none⟩) (by simp <;> omega)); (have u1 := hb1.frozen (p := ⟨w.heap.size + 1, 1, none⟩) (by simp <;> omega)); (have x2 := hb1.cell (p := ⟨w.heap.size + 1 + 1, 2, none⟩) (by simp <;> omega)); (have y2 := hb1.cell (p := ⟨w.heap.size + 1, 2, none⟩) (by simp <;> omega)); (have z2 := hb1.frozen (p := ⟨w.heap.size + 1 + 1, 2, none⟩) (by simp <;> omega)); (have u2 := hb1.frozen (p := ⟨w.heap.size + 1, 2, none⟩) (by simp <;> omega)); simp [go_sem] at x0 y0 z0 u0 x1 y1 z1 u1 x2 y2 z2 u2)
  have b1 : Below w.heap.size w w1 := ((((Below.refl _ _).alloc (Nat.le_refl _) _).alloc (by simp) _).alloc (by simp; omega) _).trans (hb1.mono (by simp; omega))
  exact bodyPost_ret (v := .agg #[.int .i64 n, .string s, .bool l]) (by simp [results, Try.results80, go_sem, y0, y1, y2]) rfl ⟨rfl, (((((b1.setCell (p := ⟨w.heap.size + 1 + 1, 1, none⟩) (by simp <;> omega) _).setCell (p := ⟨w.heap.size + 1 + 1, 2, none⟩) (by simp <;> omega) _).setCell (p := ⟨w.heap.size + 1, 0, none⟩) (by simp <;> omega) _).setCell (p := ⟨w.heap.size + 1, 1, none⟩) (by simp <;> omega) _).setCell (p := ⟨w.heap.size + 1, 2, none⟩) (by simp <;> omega) _)⟩
/-- the first k held parts have been laid -/
def Th (xs : List Hd) (k : Nat) (cs : List Value) : Prop := ∀ i (h : i < xs.length), i < k → cs[i * 3]? = some (.int .i64 xs[i].seq) ∧ cs[i * 3 + 1]? = some (.string xs[i].text) ∧ cs[i * 3 + 2]? = some (.bool xs[i].last)
/-- held part k is laid over three cells -/
def put3 (cs : List Value) (k : Nat) (a b c : Value) : List Value := ((cs.set (k * 3) a).set (k * 3 + 1) b).set (k * 3 + 2) c
theorem put3_at {cs : List Value} {k : Nat} {a b c : Value} (hl : k * 3 + 2 < cs.length) : (put3 cs k a b c)[k * 3]? = some a ∧ (put3 cs k a b c)[k * 3 + 1]? = some b ∧ (put3 cs k a b c)[k * 3 + 2]? = some c := by
  unfold put3
  refine ⟨?_, ?_, ?_⟩
  · rw [List.getElem?_set_ne (by omega), List.getElem?_set_ne (by omega), List.getElem?_set_self (by omega)]
  · rw [List.getElem?_set_ne (by omega), List.getElem?_set_self (by simp; omega)]
  · rw [List.getElem?_set_self (by simp; omega)]
theorem put3_other {cs : List Value} {k j : Nat} {a b c : Value} (h : j < k * 3 ∨ k * 3 + 2 < j) : (put3 cs k a b c)[j]? = cs[j]? := by
  unfold put3
  rw [List.getElem?_set_ne (by omega), List.getElem?_set_ne (by omega), List.getElem?_set_ne (by omega)]
theorem put3_length (cs : List Value) (k : Nat) (a b c : Value) : (put3 cs k a b c).length = cs.length := by simp [put3]
theorem Th.step {xs : List Hd} {k : Nat} {cs : List Value} (h : Th xs k cs) (hk : k < xs.length) (hl : k * 3 + 2 < cs.length) :
    Th xs (k + 1) (put3 cs k (.int .i64 xs[k].seq) (.string xs[k].text) (.bool xs[k].last)) := by
  intro j hj hj2
  rcases Nat.lt_or_ge j k with h1 | h1
  · rw [put3_other (by omega), put3_other (by omega), put3_other (by omega)]
    exact h j hj h1
  · obtain rfl : j = k := by omega
    exact put3_at hl
theorem Th.all {xs : List Hd} {cs : List Value} (h : Th xs xs.length cs) (hl : cs.length = xs.length * 3) : cs = hs xs := by
  apply List.ext_getElem?
  intro j
  rcases Nat.lt_or_ge j (xs.length * 3) with hj | hj
  · have hi : j / 3 < xs.length := by omega
    have a := h (j / 3) hi hi
    have b := hs_at xs (j / 3) hi
    rcases (show j = j / 3 * 3 ∨ j = j / 3 * 3 + 1 ∨ j = j / 3 * 3 + 2 by omega) with e | e | e
    · rw [e, a.1, b.1]
    · rw [e, a.2.1, b.2.1]
    · rw [e, a.2.2, b.2.2]
  · rw [List.getElem?_eq_none (by omega), List.getElem?_eq_none (by rw [hs_length]; omega)]
theorem owns_put3 {w : World} {base g n cap : Nat} {e : TypeId} {cs : List Value} (h : w.ownsRow base e 3 (.slice (some ⟨g, 0, none⟩) n cap) n cs) (k : Nat) (a b c : Value) :
    (((w.setCell ⟨g, k * 3, none⟩ a).setCell ⟨g, k * 3 + 1, none⟩ b).setCell ⟨g, k * 3 + 2, none⟩ c).ownsRow base e 3 (.slice (some ⟨g, 0, none⟩) n cap) n (put3 cs k a b c) :=
  (((h.stored (k * 3) a).1.stored (k * 3 + 1) b).1.stored (k * 3 + 2) c).1
theorem below_put3 {B g : Nat} {w w1 : World} (h : Below B w w1) (hg : B ≤ g) (k : Nat) (a b c : Value) :
    Below B w (((w1.setCell ⟨g, k * 3, none⟩ a).setCell ⟨g, k * 3 + 1, none⟩ b).setCell ⟨g, k * 3 + 2, none⟩ c) :=
  ((h.setCell (p := ⟨g, k * 3, none⟩) hg _).setCell (p := ⟨g, k * 3 + 1, none⟩) hg _).setCell (p := ⟨g, k * 3 + 2, none⟩) hg _
theorem info_held : (Try.prog.info? 125).map (fun i => (i.zero, i.size, i.bytes)) = some (some (.agg #[.int .i64 0, .string ⟨#[]⟩, .bool false]), 3, 32) := by kernel_rfl
set_option maxRecDepth 100000 in
theorem toHeldS_any (ao : Option Addr) (cap : Nat) (xs : List Hd) (w : World) (hm : xs.length ≤ 1048576) (ha : Ah w ao xs) :
    Calls Try.prog 48 #[.slice ao xs.length cap] w fun e w' => (∃ g, e = .returned (.slice (some ⟨g, 0, none⟩) xs.length xs.length) ∧ w'.ownsRow w.heap.size 125 3 (.slice (some ⟨g, 0, none⟩) xs.length xs.length) xs.length (hs xs)) ∧ Below w.heap.size w w' := by
  have HA : Hid (Ah w ao xs) := ha
  clear ha
  obtain ⟨i0, hi, hz0, hz1, hz2⟩ := info_parts info_held
  go_enter Try.func48, Try.ntmps48
  go_wp2_with (at_make; refine wpList_make_full _ rfl _ _ 35 rfl w.heap.size 125 i0 (.agg #[.int .i64 0, .string ⟨#[]⟩, .bool false]) 3 Try.underlying35 hi hz0 hz1 _ _ _ _ xs.length rfl rfl rfl rfl (by rw [hz2]; omega) (by unfold maxLen; omega) (Nat.le_refl _) ?_)
  intro w1 hown hgrow
  have hb1 : Below w.heap.size w w1 := (Below.refl _ _).grown hgrow (Nat.le_refl _) (fun k h => by cases h)
  go_wp2
  go_loopw [4] (fun i wr => ∃ (k : Nat) (cs : List Value), k ≤ xs.length ∧ i = .int .i64 k ∧ wr.ownsRow w.heap.size 125 3 (.slice (some ⟨w.heap.size, 0, none⟩) xs.length xs.length) xs.length cs ∧ Th xs k cs ∧ Below w.heap.size w wr) (fun i _ => xs.length - (intOf i).toNat)
  case atStart => exact ⟨0, _, Nat.zero_le _, rfl, hown, fun i _ h => absurd h (by omega), hb1⟩
  case round =>
    clear hown hgrow hb1
    obtain ⟨k, cs, hk, rfl, hown, hT, hbel⟩ := hrel
    by_cases hlt : k < xs.length
    · rcases HA.out.ex with h | ⟨g, o, rfl, hac⟩
      · omega
      have hcl := hown.1
      obtain ⟨q0, q1, q2⟩ := hac k hlt
      have c0 := (hbel.cell (cell_lt q0)).trans q0
      have c1 := (hbel.cell (cell_lt q1)).trans q1
      have c2 := (hbel.cell (cell_lt q2)).trans q2
      clear hac q0 q1 q2
      have HT : Hid (Th xs (k + 1) (put3 cs k (.int .i64 xs[k].seq) (.string xs[k].text) (.bool xs[k].last))) := hT.step hlt (by omega)
      generalize xs[k].text = s at *
      generalize xs[k].last = l at *
      generalize xs[k].seq = n at *
      have HW : Hid (wr.ownsRow w.heap.size 125 3 (.slice (some ⟨w.heap.size, 0, none⟩) xs.length xs.length) xs.length cs) := hown
      clear hown hT
      go_wp2_with (go_at_call 80; refine (toHeld_any _ _ _ _).mono ?_; rintro e w2 ⟨rfl, hb2⟩; (have ho2 := HW.out.kept (grow_below none hb2) (.inr (by simp [Value.ownBlock]))); (have e0 := ho2.cellAt (k * 3) (by omega)); (have e1 := ho2.cellAt (k * 3 + 1) (by omega)); (have e2 := ho2.cellAt (k * 3 + 2) (by omega)); (rw [List.getElem?_eq_getElem (by omega)] at e0 e1 e2); (have f0 := ho2.frozenAt (k * 3)); (have f1 := ho2.frozenAt (k * 3 + 1)); (have f2 := ho2.frozenAt (k * 3 + 2)))
      go_roundw
      case rel => exact ⟨k + 1, _, by omega, by go_num, owns_put3 ho2 k _ _ _, HT.out, below_put3 (hbel.trans (hb2.mono hbel.size)) (Nat.le_refl _) k _ _ _⟩
      case measure => simp [intOf]; omega
    · obtain rfl : k = xs.length := by omega
      have hcs := hT.all hown.1
      subst hcs
      go_wp2
      go_ret
      exact ⟨⟨w.heap.size, rfl, hown⟩, hbel⟩
/-- the first k texts have been laid -/
def Tx (xs : List ByteArray) (k : Nat) (cs : List Value) : Prop := ∀ i (h : i < xs.length), i < k → cs[i]? = some (.string xs[i])
theorem Tx.step {xs : List ByteArray} {k : Nat} {cs : List Value} (h : Tx xs k cs) (hk : k < xs.length) (hl : k < cs.length) : Tx xs (k + 1) (cs.set k (.string xs[k])) := by
  intro j hj hj2
  rcases Nat.lt_or_ge j k with h1 | h1
  · rw [List.getElem?_set_ne (by omega)]
    exact h j hj h1
  · obtain rfl : j = k := by omega
    rw [List.getElem?_set_self hl]
theorem Tx.all {xs : List ByteArray} {cs : List Value} (h : Tx xs xs.length cs) (hl : cs.length = xs.length * 1) : cs = ss xs := by
  apply List.ext_getElem?
  intro j
  rcases Nat.lt_or_ge j xs.length with hj | hj
  · rw [h j hj hj, ss_at xs j hj]
  · rw [List.getElem?_eq_none (by omega), List.getElem?_eq_none (by rw [ss_length]; omega)]
theorem info_str : (Try.prog.info? 9).map (fun i => (i.zero, i.size, i.bytes)) = some (some (.string ⟨#[]⟩), 1, 16) := by kernel_rfl
set_option maxRecDepth 100000 in
theorem toStringS_any (ao : Option Addr) (cap : Nat) (xs : List ByteArray) (w : World) (hm : xs.length ≤ 1048576) (ha : As w ao xs) :
    Calls Try.prog 49 #[.slice ao xs.length cap] w fun e w' => (∃ g, e = .returned (.slice (some ⟨g, 0, none⟩) xs.length xs.length) ∧ w'.ownsRow w.heap.size 9 1 (.slice (some ⟨g, 0, none⟩) xs.length xs.length) xs.length (ss xs)) ∧ Below w.heap.size w w' := by
  have HA : Hid (As w ao xs) := ha
  clear ha
  obtain ⟨i0, hi, hz0, hz1, hz2⟩ := info_parts info_str
  go_enter Try.func49, Try.ntmps49
  go_wp2_with (at_make; refine wpList_make_full _ rfl _ _ 26 rfl w.heap.size 9 i0 (.string ⟨#[]⟩) 1 Try.underlying26 hi hz0 hz1 _ _ _ _ xs.length rfl rfl rfl rfl (by rw [hz2]; omega) (by unfold maxLen; omega) (Nat.le_refl _) ?_)
  intro w1 hown hgrow
  have hb1 : Below w.heap.size w w1 := (Below.refl _ _).grown hgrow (Nat.le_refl _) (fun k h => by cases h)
  go_wp2
  go_loopw [4] (fun i wr => ∃ (k : Nat) (cs : List Value), k ≤ xs.length ∧ i = .int .i64 k ∧ wr.ownsRow w.heap.size 9 1 (.slice (some ⟨w.heap.size, 0, none⟩) xs.length xs.length) xs.length cs ∧ Tx xs k cs ∧ Below w.heap.size w wr) (fun i _ => xs.length - (intOf i).toNat)
  case atStart => exact ⟨0, _, Nat.zero_le _, rfl, hown, fun i _ h => absurd h (by omega), hb1⟩
  case round =>
    clear hown hgrow hb1
    obtain ⟨k, cs, hk, rfl, hown, hT, hbel⟩ := hrel
    by_cases hlt : k < xs.length
    · rcases HA.out.ex with h | ⟨g, o, rfl, hac⟩
      · omega
      have hcl := hown.1
      have c0 := (hbel.cell (cell_lt (hac k hlt))).trans (hac k hlt)
      clear hac
      have HT : Hid (Tx xs (k + 1) (cs.set k (.string xs[k]))) := hT.step hlt (by omega)
      generalize xs[k] = s at *
      have e0 := hown.cellAt k (by omega)
      rw [List.getElem?_eq_getElem (by omega)] at e0
      have f0 := hown.frozenAt k
      have HW : Hid (wr.ownsRow w.heap.size 9 1 (.slice (some ⟨w.heap.size, 0, none⟩) xs.length xs.length) xs.length cs) := hown
      clear hown hT
      go_wp2
      go_roundw
      case rel => exact ⟨k + 1, _, by omega, by go_num, (HW.out.stored k (.string s)).1, HT.out, hbel.setCell (p := ⟨w.heap.size, k, none⟩) (Nat.le_refl _) _⟩
      case measure => simp [intOf]; omega
    · obtain rfl : k = xs.length := by omega
      have hcs := hT.all hown.1
      subst hcs
      go_wp2
      go_ret
      exact ⟨⟨w.heap.size, rfl, hown⟩, hbel⟩
end Go.Proofs.Ytfjedpnagnnobaa.mk

import Derived.Test.YthjncmgjkejikaaGreatCopyA
import Derived.Test.YthjncmgjkejikaaGreatBase
import Derived.Test.YthjncmgjkejikaaGreatValB
import Derived.Maps.Range
import Derived.Deep.RegionWith
import Derived.Deep.DeepMust
/-
  TICKING: what a tick does to items (plain); slices of numbers; blocks that lie.
-/
namespace Go.Proofs.YthjncmgjkejikaaGreat.mk
open Go.RowKit
set_option linter.unusedVariables false

def tickIt (x : It) : It := if x.has then x else if x.since = -1 ∨ x.since = 3 then ⟨x.text, x.last, x.has, 0⟩ else ⟨x.text, x.last, x.has, x.since + 1⟩
def fires (x : It) : Prop := x.has = false ∧ (x.since = -1 ∨ x.since = 3)
instance (x : It) : Decidable (fires x) := by unfold fires; infer_instance
/-- the first k items have ticked -/
def tkn (k : Nat) (xs : List It) : List It := (xs.take k).map tickIt ++ xs.drop k
def snt (b : Nat) (xs : List It) : Nat → List Int
  | 0 => []
  | k + 1 => snt b xs k ++ (if h : k < xs.length then (if fires xs[k] then [((b + k : Nat) : Int)] else []) else [])
def ns (l : List Int) : List Value := l.map (Value.int .i64)
theorem Holds.since {b : Nat} {xs : List It} {cs : List Value} (h : Holds b xs cs) (hn : xs.length ≤ 60) (k : Nat) (hk : k < xs.length) (n : Int) :
    Holds b (xs.set k ⟨xs[k].text, xs[k].last, xs[k].has, n⟩) (cs.set ((b + k) % 60 * 4 + 3) (.int .i64 n)) := by
  obtain ⟨hl, h0, h1, h2⟩ := h
  refine ⟨by rw [List.length_set, hl], ?_, ?_, fun i hi => ?_⟩
  · rw [List.getElem?_set_ne (by omega), h0]
  · rw [List.getElem?_set_ne (by omega), h1, List.length_set]
  · rw [List.length_set] at hi
    have a := h2 i hi
    by_cases ek : i = k
    · subst ek
      rw [List.getElem_set_self, List.getElem?_set_ne (by omega), List.getElem?_set_ne (by omega), List.getElem?_set_ne (by omega), List.getElem?_set_self (by omega)]
      exact ⟨a.1, a.2.1, a.2.2.1, rfl⟩
    · have hne : (b + i) % 60 ≠ (b + k) % 60 := by omega
      rw [List.getElem_set_ne (by omega), List.getElem?_set_ne (by omega), List.getElem?_set_ne (by omega), List.getElem?_set_ne (by omega), List.getElem?_set_ne (by omega)]
      exact a
end Go.Proofs.YthjncmgjkejikaaGreat.mk
/-
  TICKING: the ring's tick.
-/
namespace Go.Proofs.YthjncmgjkejikaaGreat.mk
open Go.RowKit
set_option linter.unusedVariables false

theorem windowEnd_any (R : Nat) (b e : Nat) (w : World) (hb : b ≤ 1000100) (he : e ≤ 1000100) (hF : w.cell? ⟨R, 240, none⟩ = some (.int .i64 (b : Int))) (hE : w.cell? ⟨R, 241, none⟩ = some (.int .i64 (e : Int))) :
    Calls Tryz.prog 95 #[.pointer (some ⟨R, 0, none⟩)] w fun x w' => x = .returned (.int .i64 ((min (b + 8) e : Nat) : Int)) ∧ Below w.heap.size w w' := by
  go_enter Tryz.func95, Tryz.ntmps95
  go_wp2
  go_region_held3 (fun w' => w'.cell? ⟨R, 240, none⟩ = some (.int .i64 (b : Int)) ∧ w'.cell? ⟨R, 241, none⟩ = some (.int .i64 (e : Int)) ∧ w' = w.drew)
    (first | assumption | (simp [go_sem, hF, hE]; done) | go_keep)
    (fail)
  have q : min (IntKind.i64.wrap ((b : Int) + 8)) (e : Int) = ((min (b + 8) e : Nat) : Int) := by rw [IntKind.wrap_i64]; omega
  rw [q]
  go_wp2
  go_ret
  exact ⟨rfl, (Below.refl _ _).drew⟩
end Go.Proofs.YthjncmgjkejikaaGreat.mk
/-
  WORDS: how many at the front have been sent: spec.l4Front, the ring's sentEnd.
-/
namespace Go.Proofs.YthjncmgjkejikaaGreat.mk
open Go.RowKit
set_option linter.unusedVariables false

def front : List It → Nat
  | [] => 0
  | x :: xs => if 0 ≤ x.since then front xs + 1 else 0
theorem front_le (xs : List It) : front xs ≤ xs.length := by
  induction xs with
  | nil => exact Nat.le_refl _
  | cons x xs ih => rw [front, List.length_cons]; split <;> omega
theorem front_at (xs : List It) (k : Nat) (h : k < xs.length) : front (xs.drop k) = if 0 ≤ xs[k].since then front (xs.drop (k + 1)) + 1 else 0 := by
  rw [List.drop_eq_getElem_cons h, front]
theorem front_end (xs : List It) : front (xs.drop xs.length) = 0 := by rw [List.drop_length, front]
set_option maxHeartbeats 1000000 in
theorem l4Front_any (b : Int) (ao : Option Addr) (cap : Nat) (xs : List It) (w : World) (hm : xs.length ≤ 1048576) (hr : Rs w ao xs.length (is xs)) :
    Calls Tryz.prog 78 #[.agg #[.int .i64 b, .slice ao xs.length cap]] w fun e w' => e = .returned (.int .i64 (front xs : Int)) ∧ Below w.heap.size w w' := by
  have HR : Hid (Rs w ao xs.length (is xs)) := hr
  have hbox := Bx.new w 34 #[.int .i64 b, .slice ao xs.length cap]
  have x1 := hbox.cell 1
  simp at x1
  clear hr
  go_enter Tryz.func78, Tryz.ntmps78
  go_wp2
  go_loopw [3] (fun i wr => ∃ k : Nat, k ≤ xs.length ∧ i = .int .i64 k ∧ k + front (xs.drop k) = front xs ∧ wr = (w.alloc (.cells #[.int .i64 b, .slice ao xs.length cap] 34))) (fun i _ => xs.length - (intOf i).toNat)
  case atStart => exact ⟨0, Nat.zero_le _, rfl, by simp, rfl⟩
  case round =>
    obtain ⟨k, hk, rfl, hfr, rfl⟩ := hrel
    have bel : Below w.heap.size w (w.alloc (.cells #[.int .i64 b, .slice ao xs.length cap] 34)) := (Below.refl _ _).alloc (Nat.le_refl _) _
    have HB : Hid (Below w.heap.size w (w.alloc (.cells #[.int .i64 b, .slice ao xs.length cap] 34))) := bel
    by_cases hlt : k < xs.length
    · rcases HR.out.ex with h | ⟨g, rfl, hg, hgc⟩
      · omega
      obtain ⟨c0, c1, c2, c3⟩ := is_at xs k hlt
      have hil := is_length xs
      have q3 : (w.alloc (.cells #[.int .i64 b, .slice (some ⟨g, 0, none⟩) xs.length cap] 34)).cell? ⟨g, k * 4 + 3, none⟩ = some (.int .i64 xs[k].since) := (bel.cell (p := ⟨g, k * 4 + 3, none⟩) hg).trans ((hgc _ (by omega)).trans c3)
      rw [front_at xs k hlt] at hfr
      clear c0 c1 c2 c3 hgc bel hil
      by_cases hs : 0 ≤ xs[k].since
      · rw [if_pos hs] at hfr
        have HF : Hid (k + (front (xs.drop (k + 1)) + 1) = front xs) := hfr
        clear hfr
        generalize xs[k].since = n at *
        go_wp2
        refine ⟨⟨k + 1, by omega, by go_num, by have := HF.out; omega, trivial⟩, by simp [intOf]; omega⟩
      · rw [if_neg hs] at hfr
        have HF : Hid (k + 0 = front xs) := hfr
        clear hfr
        generalize xs[k].since = n at *
        go_wp2
        go_ret
        exact ⟨by rw [← HF.out]; simp, HB.out⟩
    · obtain rfl : k = xs.length := by omega
      rw [front_end] at hfr
      have HF : Hid (xs.length + 0 = front xs) := hfr
      clear hfr bel
      go_wp2
      go_ret
      exact ⟨by rw [← HF.out]; simp, HB.out⟩
set_option maxHeartbeats 1000000 in
theorem sentEnd_any (base : Nat) (R : Rl) (b : Nat) (cs : List Value) (xs : List It) (w : World) (hb : b ≤ 1000000) (hn : xs.length ≤ 60) (hv : ∀ i (h : i < xs.length), -1 ≤ xs[i].since ∧ xs[i].since ≤ 3) (hr : Ring base R cs w) (hH : Holds b xs cs) :
    Calls Tryz.prog 119 #[.pointer (some ⟨R, 0, none⟩)] w fun x w' => x = .returned (.int .i64 ((b + front xs : Nat) : Int)) ∧ Below w.heap.size w w' := by
  have hF0 := (hr.cell 240 (by omega)).trans hH.2.1
  have HR : Hid (Ring base R cs w) := hr
  have HH : Hid (Holds b xs cs) := hH
  have HV : Hid (∀ i (h : i < xs.length), -1 ≤ xs[i].since ∧ xs[i].since ≤ 3) := hv
  clear hr hH hv
  go_enter Tryz.func119, Tryz.ntmps119
  go_wp2
  go_loopw [3] (fun i wr => ∃ k : Nat, k ≤ xs.length ∧ i = .int .i64 ((b + k : Nat) : Int) ∧ k + front (xs.drop k) = front xs ∧ Below w.heap.size w wr) (fun i _ => b + xs.length - (intOf i).toNat)
  case atStart => exact ⟨0, Nat.zero_le _, rfl, by simp, Below.refl _ _⟩
  case round =>
    obtain ⟨k, hk, rfl, hfr, hbel⟩ := hrel
    have hring := HR.out.keep hbel
    have hH := HH.out
    have hE := (hring.cell 241 (by omega)).trans hH.2.2.1
    obtain ⟨q, hq⟩ : ∃ q, q = b + k := ⟨_, rfl⟩
    obtain ⟨E, hEq⟩ : ∃ E, E = b + xs.length := ⟨_, rfl⟩
    rw [← hEq] at hE
    rw [← hq]
    have hqb : q ≤ 1000100 := by omega
    have hEb : E ≤ 1000100 := by omega
    by_cases hlt : k < xs.length
    · have hQE : q < E := by omega
      obtain ⟨c0, c1, c2, c3⟩ := hH.2.2.2 k hlt
      simp only [← hq] at c0 c1 c2 c3
      have p0 := (hring.cell (q % 60 * 4) (by omega)).trans c0
      have p1 := (hring.cell (q % 60 * 4 + 1) (by omega)).trans c1
      have p2 := (hring.cell (q % 60 * 4 + 2) (by omega)).trans c2
      have p3 := (hring.cell (q % 60 * 4 + 3) (by omega)).trans c3
      have hv := HV.out k hlt
      have HQ : Hid (q = b + k) := hq
      rw [front_at xs k hlt] at hfr
      by_cases hs : 0 ≤ xs[k].since
      · rw [if_pos hs] at hfr
        have HF : Hid (k + (front (xs.drop (k + 1)) + 1) = front xs) := hfr
        clear hfr c0 c1 c2 c3 hH hq hEq
        generalize xs[k].text = s at *
        generalize xs[k].last = l at *
        generalize xs[k].has = h at *
        generalize xs[k].since = n at *
        go_wp2_with (first | (go_at_call 96; refine (at_any R q _ (by omega)).mono ?_; rintro x w' ⟨rfl, rfl⟩) | (go_at_call 97; refine (wasSent_yes _ _ _ _ _ (by omega)).mono ?_; rintro x w2 ⟨rfl, hb2⟩))
        refine ⟨⟨k + 1, by omega, by have := HQ.out; go_num, by have := HF.out; omega, kb hbel hb2 (Nat.le_refl _)⟩, by have := HQ.out; simp [intOf]; omega⟩
      · rw [if_neg hs] at hfr
        have HF : Hid (k + 0 = front xs) := hfr
        have hs1 : xs[k].since = -1 := by omega
        rw [hs1] at p3
        clear hfr c0 c1 c2 c3 hH hq hEq hv hs hs1
        generalize xs[k].text = s at *
        generalize xs[k].last = l at *
        generalize xs[k].has = h at *
        go_wp2_with (first | (go_at_call 96; refine (at_any R q _ (by omega)).mono ?_; rintro x w' ⟨rfl, rfl⟩) | (go_at_call 97; refine (wasSent_no _ _ _ _).mono ?_; rintro x w2 ⟨rfl, hb2⟩))
        go_ret
        exact ⟨by rw [HQ.out, ← HF.out]; simp, kb hbel hb2 (Nat.le_refl _)⟩
    · obtain rfl : k = xs.length := by omega
      have hQE : ¬ q < E := by omega
      rw [front_end] at hfr
      have HF : Hid (xs.length + 0 = front xs) := hfr
      have HQ : Hid (q = b + xs.length) := hq
      clear hfr hq hEq hlt hH
      go_wp2
      go_ret
      exact ⟨by rw [HQ.out, ← HF.out]; simp, hbel⟩
end Go.Proofs.YthjncmgjkejikaaGreat.mk
/-
  WORDS: what a word does to items (plain).
-/
namespace Go.Proofs.YthjncmgjkejikaaGreat.mk
open Go.RowKit
set_option linter.unusedVariables false

/-- what the lowest k bits of a mask tell of the first k items -/
def hdn (m : Nat) (xs : List It) : Nat → List It
  | 0 => xs
  | k + 1 => if h : k < xs.length then (if m / 2 ^ k % 2 = 1 ∧ 0 ≤ xs[k].since then (hdn m xs k).set k ⟨xs[k].text, xs[k].last, true, xs[k].since⟩ else hdn m xs k) else hdn m xs k
theorem hdn_length (m : Nat) (xs : List It) (k : Nat) : (hdn m xs k).length = xs.length := by
  induction k with
  | zero => rfl
  | succ k ih =>
    unfold hdn
    split
    · split
      · rw [List.length_set, ih]
      · exact ih
    · exact ih
theorem hdn_past (m : Nat) (xs : List It) (k j : Nat) (h : k ≤ j) : (hdn m xs k)[j]? = xs[j]? := by
  induction k with
  | zero => rfl
  | succ k ih =>
    unfold hdn
    split
    · split
      · rw [List.getElem?_set_ne (by omega), ih (by omega)]
      · exact ih (by omega)
    · exact ih (by omega)
theorem hdn_at (m : Nat) (xs : List It) (k : Nat) (h : k < xs.length) : (hdn m xs k)[k]'(by rw [hdn_length]; exact h) = xs[k] := by
  have := hdn_past m xs k k (Nat.le_refl _)
  rw [List.getElem?_eq_getElem (by rw [hdn_length]; exact h), List.getElem?_eq_getElem h] at this
  exact Option.some.inj this
theorem hdn_yes (m : Nat) (xs : List It) (k : Nat) (h : k < xs.length) (h1 : m / 2 ^ k % 2 = 1) (h2 : 0 ≤ xs[k].since) : hdn m xs (k + 1) = (hdn m xs k).set k ⟨xs[k].text, xs[k].last, true, xs[k].since⟩ := by
  rw [hdn, dif_pos h, if_pos ⟨h1, h2⟩]
theorem hdn_no (m : Nat) (xs : List It) (k : Nat) (h : k < xs.length → ¬ (m / 2 ^ k % 2 = 1 ∧ 0 ≤ (xs[k]?.map It.since).getD (-1))) : hdn m xs (k + 1) = hdn m xs k := by
  rw [hdn]
  split
  · rename_i hk
    have := h hk
    rw [List.getElem?_eq_getElem hk] at this
    rw [if_neg (by simpa using this)]
  · rfl
theorem hdn_end (m : Nat) (xs : List It) (k : Nat) (h : xs.length ≤ k) : hdn m xs k = hdn m xs xs.length := by
  induction k with
  | zero => rw [show xs.length = 0 by omega]
  | succ k ih =>
    by_cases e : xs.length = k + 1
    · rw [e]
    · rw [hdn_no m xs k (fun hk => by omega), ih (by omega)]
theorem hdn_min (m : Nat) (xs : List It) : hdn m xs (min 8 xs.length) = hdn m xs 8 := by
  rcases Nat.lt_or_ge 8 xs.length with h | h
  · rw [Nat.min_eq_left (by omega)]
  · rw [Nat.min_eq_right h, hdn_end m xs 8 h]
theorem Holds.had {b : Nat} {xs : List It} {cs : List Value} (h : Holds b xs cs) (hn : xs.length ≤ 60) (k : Nat) (hk : k < xs.length) :
    Holds b (xs.set k ⟨xs[k].text, xs[k].last, true, xs[k].since⟩) (cs.set ((b + k) % 60 * 4 + 2) (.bool true)) := by
  obtain ⟨hl, h0, h1, h2⟩ := h
  refine ⟨by rw [List.length_set, hl], ?_, ?_, fun i hi => ?_⟩
  · rw [List.getElem?_set_ne (by omega), h0]
  · rw [List.getElem?_set_ne (by omega), h1, List.length_set]
  · rw [List.length_set] at hi
    have a := h2 i hi
    by_cases ek : i = k
    · subst ek
      rw [List.getElem_set_self, List.getElem?_set_ne (by omega), List.getElem?_set_ne (by omega), List.getElem?_set_self (by omega), List.getElem?_set_ne (by omega)]
      exact ⟨a.1, a.2.1, rfl, a.2.2.2⟩
    · have hne : (b + i) % 60 ≠ (b + k) % 60 := by omega
      rw [List.getElem_set_ne (by omega), List.getElem?_set_ne (by omega), List.getElem?_set_ne (by omega), List.getElem?_set_ne (by omega), List.getElem?_set_ne (by omega)]
      exact a
theorem Holds.drop {b : Nat} {xs : List It} {cs : List Value} (h : Holds b xs cs) (hn : xs.length ≤ 60) (d : Nat) (hd : d ≤ xs.length) :
    Holds (b + d) (xs.drop d) (cs.set 240 (.int .i64 ((b + d : Nat) : Int))) := by
  obtain ⟨hl, h0, h1, h2⟩ := h
  refine ⟨by rw [List.length_set, hl], ?_, ?_, fun i hi => ?_⟩
  · rw [List.getElem?_set_self (by omega)]
  · rw [List.getElem?_set_ne (by omega), h1, List.length_drop, show b + d + (xs.length - d) = b + xs.length by omega]
  · rw [List.length_drop] at hi
    have a := h2 (d + i) (by omega)
    rw [List.getElem_drop, List.getElem?_set_ne (by omega), List.getElem?_set_ne (by omega), List.getElem?_set_ne (by omega), List.getElem?_set_ne (by omega), show b + d + i = b + (d + i) by omega]
    exact a
theorem is_had (xs : List It) (k : Nat) (h : k < xs.length) : (is xs).set (k * 4 + 2) (.bool true) = is (xs.set k ⟨xs[k].text, xs[k].last, true, xs[k].since⟩) := by
  apply List.ext_getElem?
  intro j
  have hl := is_length xs
  have hl2 := is_length (xs.set k ⟨xs[k].text, xs[k].last, true, xs[k].since⟩)
  rw [List.length_set] at hl2
  rcases Nat.lt_or_ge j (xs.length * 4) with hj | hj
  · obtain ⟨m, r, hr, rfl⟩ : ∃ m r, r < 4 ∧ j = m * 4 + r := ⟨j / 4, j % 4, by omega, by omega⟩
    have hi : m < xs.length := by omega
    have hi2 : m < (xs.set k ⟨xs[k].text, xs[k].last, true, xs[k].since⟩).length := by rw [List.length_set]; exact hi
    obtain ⟨a0, a1, a2, a3⟩ := is_at xs m hi
    obtain ⟨b0, b1, b2, b3⟩ := is_at (xs.set k ⟨xs[k].text, xs[k].last, true, xs[k].since⟩) m hi2
    by_cases ek : m = k
    · subst ek
      rw [List.getElem_set_self] at b0 b1 b2 b3
      rcases (show r = 0 ∨ r = 1 ∨ r = 2 ∨ r = 3 by omega) with rfl | rfl | rfl | rfl
      · rw [List.getElem?_set_ne (by omega), Nat.add_zero, a0, b0]
      · rw [List.getElem?_set_ne (by omega), a1, b1]
      · rw [List.getElem?_set_self (by omega), b2]
      · rw [List.getElem?_set_ne (by omega), a3, b3]
    · rw [List.getElem_set_ne (by omega)] at b0 b1 b2 b3
      rw [List.getElem?_set_ne (by omega)]
      rcases (show r = 0 ∨ r = 1 ∨ r = 2 ∨ r = 3 by omega) with rfl | rfl | rfl | rfl
      · rw [Nat.add_zero, a0, b0]
      · rw [a1, b1]
      · rw [a2, b2]
      · rw [a3, b3]
  · rw [List.getElem?_eq_none (by rw [List.length_set]; omega), List.getElem?_eq_none (by omega)]
def WdOk (b : Int) (xs : List It) (next mask : Int) : Prop := b ≤ next ∧ next ≤ b + (front xs : Int) ∧ 0 ≤ mask ∧ mask ≤ 255
instance (b : Int) (xs : List It) (next mask : Int) : Decidable (WdOk b xs next mask) := by unfold WdOk; infer_instance
open Classical in
noncomputable def wordOf (b : Int) (xs : List It) (next mask : Int) : Int × List It :=
  if sdOk b xs = true then (if WdOk b xs next mask then (next, hdn mask.toNat (xs.drop (next - b).toNat) 8) else (b, xs)) else (0, [])
def WordPost (w : World) (b : Int) (xs : List It) (next mask : Int) (e : Ending) (w' : World) : Prop :=
  (∃ a1 c1, e = .returned (.agg #[.int .i64 (wordOf b xs next mask).1, .slice a1 (wordOf b xs next mask).2.length c1]) ∧ w'.ownsRow w.heap.size 67 4 (.slice a1 (wordOf b xs next mask).2.length c1) (wordOf b xs next mask).2.length (is (wordOf b xs next mask).2)) ∧ Below w.heap.size w w'
end Go.Proofs.YthjncmgjkejikaaGreat.mk
/-
  WORDS: the ring hears.
-/
namespace Go.Proofs.YthjncmgjkejikaaGreat.mk
open Go.RowKit
set_option linter.unusedVariables false

theorem bit_and : ∀ x : Fin 256, bits BinOp.and IntKind.i64 ((x.val : Nat) : Int) 1 = ((x.val % 2 : Nat) : Int) := by decide +kernel
theorem bit_at (m k : Nat) (hm : m ≤ 255) : bits BinOp.and IntKind.i64 ((m : Int) / 2 ^ k) 1 = ((m / 2 ^ k % 2 : Nat) : Int) := by
  have h : m / 2 ^ k < 256 := Nat.lt_of_le_of_lt (Nat.div_le_self _ _) (by omega)
  have := bit_and ⟨m / 2 ^ k, h⟩
  simpa using this
theorem ring_first {base : Nat} {R : Rl} {cs : List Value} {w w' : World} {v : Value} (h : Ring base R cs w) (hb : Below w.heap.size w w') (h0 : cs[240]? = some v) : w'.cell? ⟨R, 240, none⟩ = some v := ((h.keep hb).cell 240 (by omega)).trans h0
theorem ring_drew {base : Nat} {R : Rl} {cs : List Value} {w : World} (h : Ring base R cs w) : Ring base R cs w.drew := h.drew
set_option maxHeartbeats 1000000 in
theorem hear_low (base : Nat) (R : Rl) (b : Nat) (cs : List Value) (xs : List It) (next mask : Int) (w : World) (hb : b ≤ 1000000) (hn : xs.length ≤ 60) (hv : ∀ i (h : i < xs.length), -1 ≤ xs[i].since ∧ xs[i].since ≤ 3) (hr : Ring base R cs w) (hH : Holds b xs cs) (hno : ¬ ((b : Int) ≤ next ∧ next ≤ ((b + front xs : Nat) : Int))) :
    Calls Tryz.prog 107 #[.pointer (some ⟨R, 0, none⟩), .int .i64 next, .int .i64 mask] w fun x w' => (∃ v, x = .returned v) ∧ Below w.heap.size w w' := by
  have hF := (hr.cell 240 (by omega)).trans hH.2.1
  have HS : Hid (∀ u : World, Ring base R cs u → Calls Tryz.prog 119 #[.pointer (some ⟨R, 0, none⟩)] u fun x w' => x = .returned (.int .i64 ((b + front xs : Nat) : Int)) ∧ Below u.heap.size u w') := fun u h => sentEnd_any base R b cs xs u hb hn hv h hH
  have HW : Hid (∀ u : World, Calls Tryz.prog 56 #[.int .i64 next, .int .i64 (b : Int), .int .i64 ((b + front xs : Nat) : Int)] u fun e w' => e = .returned (.bool false) ∧ u = w') := fun u => within_false next _ _ u (by omega)
  have HR : Hid (Ring base R cs w) := hr
  have H0 : Hid (cs[240]? = some (.int .i64 (b : Int))) := hH.2.1
  clear hr hH hv hno
  generalize front xs = fr at *
  go_enter Tryz.func107, Tryz.ntmps107
  go_wp2
  first
    | (go_region_with (first
        | (go_at_call 119; refine (HS.out _ (ring_drew HR.out)).mono ?_; rintro e w2 ⟨rfl, hb2⟩; (have y0 := ring_first (ring_drew HR.out) hb2 H0.out))
        | (go_at_call 56; refine (HW.out _).mono ?_; rintro e w' ⟨rfl, rfl⟩)))
    | fail
  all_goals
    have B2 := (Below.refl w.heap.size w).drew.trans hb2
    go_wp2
    exact bodyPost_ret (v := .tuple #[]) (by simp [results, Tryz.results107, go_sem]) rfl ⟨⟨_, rfl⟩, B2⟩
set_option maxHeartbeats 1000000 in
theorem hear_mask (base : Nat) (R : Rl) (b : Nat) (cs : List Value) (xs : List It) (next mask : Int) (w : World) (hb : b ≤ 1000000) (hn : xs.length ≤ 60) (hv : ∀ i (h : i < xs.length), -1 ≤ xs[i].since ∧ xs[i].since ≤ 3) (hr : Ring base R cs w) (hH : Holds b xs cs) (hyes : (b : Int) ≤ next ∧ next ≤ ((b + front xs : Nat) : Int)) (hno : ¬ (0 ≤ mask ∧ mask ≤ 255)) :
    Calls Tryz.prog 107 #[.pointer (some ⟨R, 0, none⟩), .int .i64 next, .int .i64 mask] w fun x w' => (∃ v, x = .returned v) ∧ Below w.heap.size w w' := by
  have hF := (hr.cell 240 (by omega)).trans hH.2.1
  have HS : Hid (∀ u : World, Ring base R cs u → Calls Tryz.prog 119 #[.pointer (some ⟨R, 0, none⟩)] u fun x w' => x = .returned (.int .i64 ((b + front xs : Nat) : Int)) ∧ Below u.heap.size u w') := fun u h => sentEnd_any base R b cs xs u hb hn hv h hH
  have HW : Hid (∀ u : World, Calls Tryz.prog 56 #[.int .i64 next, .int .i64 (b : Int), .int .i64 ((b + front xs : Nat) : Int)] u fun e w' => e = .returned (.bool true) ∧ u = w') := fun u => within_true next _ _ u hyes.1 hyes.2
  have HM : Hid (∀ u : World, Calls Tryz.prog 56 #[.int .i64 mask, .int .i64 0, .int .i64 255] u fun e w' => e = .returned (.bool false) ∧ u = w') := fun u => within_false mask _ _ u (by omega)
  have HR : Hid (Ring base R cs w) := hr
  have H0 : Hid (cs[240]? = some (.int .i64 (b : Int))) := hH.2.1
  clear hr hH hv hno hyes
  generalize front xs = fr at *
  go_enter Tryz.func107, Tryz.ntmps107
  go_wp2
  go_region_held3 (fun w' => w'.cell? ⟨R, 240, none⟩ = some (.int .i64 (b : Int)) ∧ Ring base R cs w' ∧ Below w.heap.size w w') (first | assumption | exact ⟨hF, ring_drew HR.out, (Below.refl _ _).drew⟩ | (go_split_ands; exact ⟨ring_first (by assumption) hb2 H0.out, Ring.keep (by assumption) hb2, kb (by assumption) hb2 (Nat.le_refl _)⟩)) (first | (go_at_call 119; refine (HS.out _ (by go_split_ands; assumption)).mono ?_; rintro e w2 ⟨rfl, hb2⟩) | (go_at_call_of 56 (Value.int IntKind.i64 255); refine (HM.out _).mono ?_; rintro e w' ⟨rfl, rfl⟩) | (go_at_call 56; refine (HW.out _).mono ?_; rintro e w' ⟨rfl, rfl⟩))
  have B2 : Below w.heap.size w w2 := by go_split_ands; assumption
  go_wp2
  exact bodyPost_ret (v := .tuple #[]) (by simp [results, Tryz.results107, go_sem]) rfl ⟨⟨_, rfl⟩, B2⟩
set_option maxRecDepth 100000 in
set_option maxHeartbeats 2000000 in
theorem hear_yes (base : Nat) (R : Rl) (b d m : Nat) (cs : List Value) (xs : List It) (w : World) (hb : b ≤ 1000000) (hn : xs.length ≤ 60) (hv : ∀ i (h : i < xs.length), -1 ≤ xs[i].since ∧ xs[i].since ≤ 3) (hr : Ring base R cs w) (hH : Holds b xs cs) (hd : d ≤ front xs) (hm : m ≤ 255) :
    Calls Tryz.prog 107 #[.pointer (some ⟨R, 0, none⟩), .int .i64 ((b + d : Nat) : Int), .int .i64 (m : Int)] w fun x w' => (∃ v cs', x = .returned v ∧ Ring base R cs' w' ∧ Holds (b + d) (hdn m (xs.drop d) 8) cs') ∧ w.grownBy w' (some R) := by
  have hfl := front_le xs
  have hF := (hr.cell 240 (by omega)).trans hH.2.1
  have f40 := hr.frozen 240
  have HS : Hid (∀ u : World, Ring base R cs u → Calls Tryz.prog 119 #[.pointer (some ⟨R, 0, none⟩)] u fun x w' => x = .returned (.int .i64 ((b + front xs : Nat) : Int)) ∧ Below u.heap.size u w') := fun u h => sentEnd_any base R b cs xs u hb hn hv h hH
  have HW : Hid (∀ u : World, Calls Tryz.prog 56 #[.int .i64 ((b + d : Nat) : Int), .int .i64 (b : Int), .int .i64 ((b + front xs : Nat) : Int)] u fun e w' => e = .returned (.bool true) ∧ u = w') := fun u => within_true _ _ _ u (by omega) (by omega)
  have HM : Hid (∀ u : World, Calls Tryz.prog 56 #[.int .i64 (m : Int), .int .i64 0, .int .i64 255] u fun e w' => e = .returned (.bool true) ∧ u = w') := fun u => within_true _ _ _ u (by omega) (by omega)
  have HR : Hid (Ring base R cs w) := hr
  have H0 : Hid (cs[240]? = some (.int .i64 (b : Int))) := hH.2.1
  have HD : Hid (Holds (b + d) (xs.drop d) (cs.set 240 (.int .i64 ((b + d : Nat) : Int)))) := hH.drop hn d (by omega)
  have HV : Hid (∀ i (h : i < (xs.drop d).length), -1 ≤ (xs.drop d)[i].since ∧ (xs.drop d)[i].since ≤ 3) := fun i h => by rw [List.getElem_drop]; exact hv _ _
  have hyl : (xs.drop d).length ≤ 60 := by rw [List.length_drop]; omega
  obtain ⟨ys, hys⟩ : ∃ ys, ys = xs.drop d := ⟨_, rfl⟩
  rw [← hys] at HD HV hyl ⊢
  have hcb : b + d ≤ 1000100 := by omega
  have hcy : b + d + ys.length ≤ 1000100 := by rw [hys, List.length_drop]; omega
  obtain ⟨c, hc⟩ : ∃ c, c = b + d := ⟨_, rfl⟩
  rw [← hc] at HW HD hcb hcy ⊢
  clear hr hH hv hd hys hfl hc
  generalize front xs = fr at *
  go_enter Tryz.func107, Tryz.ntmps107
  go_wp2
  go_region_held3 (fun w' => w'.cell? ⟨R, 240, none⟩ = some (.int .i64 (b : Int)) ∧ Ring base R cs w' ∧ Below w.heap.size w w') (first | assumption | exact ⟨hF, ring_drew HR.out, (Below.refl _ _).drew⟩ | (go_split_ands; exact ⟨ring_first (by assumption) hb2 H0.out, Ring.keep (by assumption) hb2, kb (by assumption) hb2 (Nat.le_refl _)⟩)) (first | (go_at_call 119; refine (HS.out _ (by go_split_ands; assumption)).mono ?_; rintro e w2 ⟨rfl, hb2⟩) | (go_at_call_of 56 (Value.int IntKind.i64 255); refine (HM.out _).mono ?_; rintro e w' ⟨rfl, rfl⟩) | (go_at_call 56; refine (HW.out _).mono ?_; rintro e w' ⟨rfl, rfl⟩))
  have B2 : Below w.heap.size w w2 := by go_split_ands; assumption
  have G2 : Ring base R cs w2 := by go_split_ands; assumption
  have z2 := G2.frozen 240
  have k2 := (G2.cell 240 (by omega)).trans H0.out
  have G3 := G2.put 240 (.int .i64 (c : Int))
  have gr3 : w.grownBy (w2.setCell ⟨R, 240, none⟩ (.int .i64 (c : Int))) (some R) := (grow_below _ B2).trans (grow_set _ ⟨R, 240, none⟩ (.int .i64 (c : Int)))
  clear HS HW HM HR H0 hF f40
  go_wp2
  go_loopw [6] (fun i wr => ∃ (k : Nat) (cs : List Value), k ≤ min 8 ys.length ∧ i = .int .i64 ((c + k : Nat) : Int) ∧ Ring base R cs wr ∧ Holds c (hdn m ys k) cs ∧ w.grownBy wr (some R)) (fun i _ => c + 8 - (intOf i).toNat)
  case atStart => exact ⟨0, _, Nat.zero_le _, rfl, G3, HD.out, gr3⟩
  case round =>
    clear G2 G3 gr3 HD z2 k2 B2
    obtain ⟨k, cs, hk, rfl, hring, hH, hgr⟩ := hrel
    have htl := hdn_length m ys k
    have hF := (hring.cell 240 (by omega)).trans hH.2.1
    have hE := (hring.cell 241 (by omega)).trans hH.2.2.1
    have H1 : Hid (cs[240]? = some (.int .i64 (c : Int))) := hH.2.1
    rw [htl] at hE
    have hWE := fun (u : World) (h1 : u.cell? ⟨R, 240, none⟩ = some (.int .i64 (c : Int))) (h2 : u.cell? ⟨R, 241, none⟩ = some (.int .i64 ((c + ys.length : Nat) : Int))) => windowEnd_any R c (c + ys.length) u (by omega) (by omega) h1 h2
    have hmin : min (c + 8) (c + ys.length) = c + min 8 ys.length := by omega
    rw [hmin] at hWE
    have HWE : Hid (∀ u : World, u.cell? ⟨R, 240, none⟩ = some (.int .i64 (c : Int)) → u.cell? ⟨R, 241, none⟩ = some (.int .i64 ((c + ys.length : Nat) : Int)) → Calls Tryz.prog 95 #[.pointer (some ⟨R, 0, none⟩)] u fun x w' => x = .returned (.int .i64 ((c + min 8 ys.length : Nat) : Int)) ∧ Below u.heap.size u w') := hWE
    clear hWE hmin
    obtain ⟨K, hK⟩ : ∃ K, K = min 8 ys.length := ⟨_, rfl⟩
    rw [← hK] at hk HWE
    have hK8 : K ≤ 8 := by omega
    have hKn : K ≤ ys.length := by omega
    have HK : Hid (K = min 8 ys.length) := hK
    clear hK
    obtain ⟨q, hq⟩ : ∃ q, q = c + k := ⟨_, rfl⟩
    obtain ⟨E, hEq⟩ : ∃ E, E = c + K := ⟨_, rfl⟩
    rw [← hEq] at HWE
    rw [← hq]
    have hqb : q ≤ 1000200 := by omega
    have hEb : E ≤ 1000200 := by omega
    by_cases hlk : k < K
    · have hkn : k < ys.length := by omega
      have hQE : q < E := by omega
      obtain ⟨c0, c1, c2, c3⟩ := hH.2.2.2 k (by rw [htl]; exact hkn)
      simp only [hdn_at m ys k hkn, ← hq] at c0 c1 c2 c3
      have hv := HV.out k hkn
      have HQ : Hid (q = c + k) := hq
      have hqc : (q : Int) - (c : Int) = (k : Int) := by omega
      by_cases hs : 0 ≤ ys[k].since
      · by_cases hbit : m / 2 ^ k % 2 = 1
        · have HN : Hid (Holds c (hdn m ys (k + 1)) (cs.set (q % 60 * 4 + 2) (.bool true))) := (by
            have := hH.had (by rw [htl]; exact hyl) k (by rw [htl]; exact hkn)
            simp only [hdn_at m ys k hkn] at this
            rw [hdn_yes m ys k hkn hbit hs, hq]
            exact this : Holds c (hdn m ys (k + 1)) (cs.set (q % 60 * 4 + 2) (.bool true)))
          have hbt := bit_at m k hm
          rw [hbit] at hbt
          clear hH hq hEq hbit
          generalize ys[k].text = s at *
          generalize ys[k].last = l at *
          generalize ys[k].has = h at *
          generalize ys[k].since = n at *
          go_wp2_with (first | (go_at_call 95; refine (HWE.out _ hF hE).mono ?_; rintro x w1 ⟨rfl, hb1⟩; (have g1 := hring.keep hb1); (have p0 := (g1.cell (q % 60 * 4) (by omega)).trans c0); (have p1 := (g1.cell (q % 60 * 4 + 1) (by omega)).trans c1); (have p2 := (g1.cell (q % 60 * 4 + 2) (by omega)).trans c2); (have p3 := (g1.cell (q % 60 * 4 + 3) (by omega)).trans c3)) | (go_at_call 96; refine (at_any R q _ (by omega)).mono ?_; rintro x w' ⟨rfl, rfl⟩) | (go_at_call 97; refine (wasSent_yes _ _ _ _ _ (by omega)).mono ?_; rintro x w2 ⟨rfl, hb2⟩; (have g2 := g1.keep hb2); (have u2 := (g2.cell (q % 60 * 4 + 2) (by omega)).trans c2); (have z2 := g2.frozen (q % 60 * 4 + 2)); (have u0 := (g2.cell 240 (by omega)).trans H1.out)))
          refine ⟨⟨k + 1, _, by have := HK.out; omega, by have := HQ.out; go_num, g2.put (q % 60 * 4 + 2) (.bool true), HN.out, ((hgr.trans (grow_below _ hb1)).trans (grow_below _ hb2)).trans (grow_set _ ⟨R, q % 60 * 4 + 2, none⟩ (.bool true))⟩, by have := HQ.out; simp [intOf]; omega⟩
        · have HN : Hid (Holds c (hdn m ys (k + 1)) cs) := (by rw [hdn_no m ys k (fun _ h => hbit h.1)]; exact hH : Holds c (hdn m ys (k + 1)) cs)
          have hbt := bit_at m k hm
          rw [show m / 2 ^ k % 2 = 0 by omega] at hbt
          clear hH hq hEq hbit
          generalize ys[k].text = s at *
          generalize ys[k].last = l at *
          generalize ys[k].has = h at *
          generalize ys[k].since = n at *
          go_wp2_with (first | (go_at_call 95; refine (HWE.out _ hF hE).mono ?_; rintro x w1 ⟨rfl, hb1⟩; (have g1 := hring.keep hb1); (have p0 := (g1.cell (q % 60 * 4) (by omega)).trans c0); (have p1 := (g1.cell (q % 60 * 4 + 1) (by omega)).trans c1); (have p2 := (g1.cell (q % 60 * 4 + 2) (by omega)).trans c2); (have p3 := (g1.cell (q % 60 * 4 + 3) (by omega)).trans c3)) | (go_at_call 96; refine (at_any R q _ (by omega)).mono ?_; rintro x w' ⟨rfl, rfl⟩) | (go_at_call 97; refine (wasSent_yes _ _ _ _ _ (by omega)).mono ?_; rintro x w2 ⟨rfl, hb2⟩; (have g2 := g1.keep hb2); (have u2 := (g2.cell (q % 60 * 4 + 2) (by omega)).trans c2); (have z2 := g2.frozen (q % 60 * 4 + 2)); (have u0 := (g2.cell 240 (by omega)).trans H1.out)))
          refine ⟨⟨k + 1, _, by have := HK.out; omega, by have := HQ.out; go_num, g2, HN.out, (hgr.trans (grow_below _ hb1)).trans (grow_below _ hb2)⟩, by have := HQ.out; simp [intOf]; omega⟩
      · have HN : Hid (Holds c (hdn m ys (k + 1)) cs) := (by rw [hdn_no m ys k (fun _ h => by rw [List.getElem?_eq_getElem hkn] at h; exact hs (by simpa using h.2))]; exact hH : Holds c (hdn m ys (k + 1)) cs)
        have hs1 : ys[k].since = -1 := by omega
        rw [hs1] at c3
        clear hH hq hEq hs hs1 hv
        generalize ys[k].text = s at *
        generalize ys[k].last = l at *
        generalize ys[k].has = h at *
        go_wp2_with (first | (go_at_call 95; refine (HWE.out _ hF hE).mono ?_; rintro x w1 ⟨rfl, hb1⟩; (have g1 := hring.keep hb1); (have p0 := (g1.cell (q % 60 * 4) (by omega)).trans c0); (have p1 := (g1.cell (q % 60 * 4 + 1) (by omega)).trans c1); (have p2 := (g1.cell (q % 60 * 4 + 2) (by omega)).trans c2); (have p3 := (g1.cell (q % 60 * 4 + 3) (by omega)).trans c3)) | (go_at_call 96; refine (at_any R q _ (by omega)).mono ?_; rintro x w' ⟨rfl, rfl⟩) | (go_at_call 97; refine (wasSent_no _ _ _ _).mono ?_; rintro x w2 ⟨rfl, hb2⟩))
        refine ⟨⟨k + 1, _, by have := HK.out; omega, by have := HQ.out; go_num, g1.keep hb2, HN.out, (hgr.trans (grow_below _ hb1)).trans (grow_below _ hb2)⟩, by have := HQ.out; simp [intOf]; omega⟩
    · obtain rfl : k = K := by omega
      have hQE : ¬ q < E := by omega
      have HN : Hid (Holds c (hdn m ys 8) cs) := (by rw [← hdn_min, ← HK.out]; exact hH : Holds c (hdn m ys 8) cs)
      clear hH hq hEq hlk
      go_wp2_with (go_at_call 95; refine (HWE.out _ hF hE).mono ?_; rintro x w1 ⟨rfl, hb1⟩)
      go_end0
      exact ⟨⟨_, cs, rfl, hring.keep hb1, HN.out⟩, hgr.trans (grow_below _ hb1)⟩
end Go.Proofs.YthjncmgjkejikaaGreat.mk
/-
  TICKING: impl.SendTick.
-/
namespace Go.Proofs.YthjncmgjkejikaaGreat.mk
open Go.RowKit
set_option linter.unusedVariables false

theorem two_below (w : World) (o p : Obj) : Below w.heap.size w ((w.alloc o).alloc p) := ((Below.refl _ _).alloc (Nat.le_refl _) _).alloc (by simp) _
end Go.Proofs.YthjncmgjkejikaaGreat.mk
/-
  WORDS: impl.SendWord.
-/
namespace Go.Proofs.YthjncmgjkejikaaGreat.mk
open Go.RowKit
set_option linter.unusedVariables false

/-- what the ring holds behind a word -/
def heard (b : Nat) (xs : List It) (next mask : Int) : Nat × List It :=
  if WdOk (b : Int) xs next mask then (next.toNat, hdn mask.toNat (xs.drop (next - (b : Int)).toNat) 8) else (b, xs)
theorem heard_le (b : Nat) (xs : List It) (next mask : Int) : (heard b xs next mask).2.length ≤ xs.length ∧ (heard b xs next mask).1 ≤ b + xs.length := by
  unfold heard
  have := front_le xs
  split
  · rename_i h
    unfold WdOk at h
    refine ⟨by rw [hdn_length, List.length_drop]; omega, ?_⟩
    show next.toNat ≤ _
    omega
  · exact ⟨Nat.le_refl _, Nat.le_add_right _ _⟩
theorem wordOf_yes {b : Nat} {xs : List It} (h : sdOk (b : Int) xs = true) (next mask : Int) : wordOf (b : Int) xs next mask = (((heard b xs next mask).1 : Int), (heard b xs next mask).2) := by
  unfold wordOf heard
  rw [if_pos h]
  split
  · rename_i h
    unfold WdOk at h
    show (next, _) = ((next.toNat : Int), _)
    rw [show (next.toNat : Int) = next by omega]
  · rfl
theorem wordOf_no {b : Int} {xs : List It} (h : sdOk b xs = false) (next mask : Int) : wordOf b xs next mask = (0, []) := by
  unfold wordOf
  rw [if_neg (by simp [h])]
theorem hear_any (base : Nat) (R : Rl) (b : Nat) (cs : List Value) (xs : List It) (next mask : Int) (w : World) (hb : b ≤ 1000000) (hn : xs.length ≤ 60) (hv : ∀ i (h : i < xs.length), -1 ≤ xs[i].since ∧ xs[i].since ≤ 3) (hr : Ring base R cs w) (hH : Holds b xs cs) :
    Calls Tryz.prog 107 #[.pointer (some ⟨R, 0, none⟩), .int .i64 next, .int .i64 mask] w fun x w' => (∃ v cs', x = .returned v ∧ Ring base R cs' w' ∧ Holds (heard b xs next mask).1 (heard b xs next mask).2 cs') ∧ w.grownBy w' (some R) := by
  by_cases h : WdOk (b : Int) xs next mask
  · have e : heard b xs next mask = (next.toNat, hdn mask.toNat (xs.drop (next - (b : Int)).toNat) 8) := by unfold heard; rw [if_pos h]
    rw [e]
    unfold WdOk at h
    obtain ⟨d, hd⟩ : ∃ d : Nat, next = ((b + d : Nat) : Int) := ⟨(next - b).toNat, by omega⟩
    obtain ⟨m, rfl⟩ : ∃ m : Nat, mask = (m : Int) := ⟨mask.toNat, by omega⟩
    subst hd
    rw [show (((b + d : Nat) : Int) - (b : Int)).toNat = d by omega, Int.toNat_natCast, Int.toNat_natCast]
    exact hear_yes base R b d m cs xs w hb hn hv hr hH (by omega) (by omega)
  · have e : heard b xs next mask = (b, xs) := by unfold heard; rw [if_neg h]
    rw [e]
    by_cases h1 : (b : Int) ≤ next ∧ next ≤ ((b + front xs : Nat) : Int)
    · refine (hear_mask base R b cs xs next mask w hb hn hv hr hH h1 (fun h2 => h ⟨h1.1, by have := h1.2; omega, h2.1, h2.2⟩)).mono ?_
      rintro x w' ⟨⟨v, rfl⟩, hb'⟩
      exact ⟨⟨v, cs, rfl, hr.keep hb', hH⟩, grow_below _ hb'⟩
    · refine (hear_low base R b cs xs next mask w hb hn hv hr hH h1).mono ?_
      rintro x w' ⟨⟨v, rfl⟩, hb'⟩
      exact ⟨⟨v, cs, rfl, hr.keep hb', hH⟩, grow_below _ hb'⟩
end Go.Proofs.YthjncmgjkejikaaGreat.mk
/-
  WORDS: spec.SendWord.
-/
namespace Go.Proofs.YthjncmgjkejikaaGreat.mk
open Go.RowKit
set_option linter.unusedVariables false

set_option maxHeartbeats 1000000 in
theorem specWord_no (b : Int) (ao : Option Addr) (cap : Nat) (xs : List It) (next mask : Int) (w : World) (hm : xs.length ≤ 1048576) (hz : ∀ i (h : i < xs.length), xs[i].text.size ≤ 1048576) (hr : Rs w ao xs.length (is xs)) (hao : ao = none → xs.length = 0 ∧ cap = 0) (hv : sdOk b xs = false) :
    Calls Tryz.prog 39 #[.agg #[.int .i64 b, .slice ao xs.length cap], .int .i64 next, .int .i64 mask] w fun e w' => WordPost w b xs next mask e w' := by
  have HC : Hid (∀ u : World, Rs u ao xs.length (is xs) → Calls Tryz.prog 46 #[.agg #[.int .i64 b, .slice ao xs.length cap]] u fun e w' => e = .returned (.bool false) ∧ Below u.heap.size u w') := fun u h => by have := specValid_any b ao cap xs u hm hz h; rw [hv] at this; exact this
  have R2 : Hid (Rs ((w.alloc (.cells #[.int .i64 b, .slice ao xs.length cap] 34)).alloc (.cells #[.int .i64 0, .slice none 0 0] 34)) ao xs.length (is xs)) := hr.keep (two_below _ _ _)
  have X1 : Hid (Bx ((w.alloc (.cells #[.int .i64 b, .slice ao xs.length cap] 34)).alloc (.cells #[.int .i64 0, .slice none 0 0] 34)) (w.heap.size + 1) 34 #[.int .i64 0, .slice none 0 0]) := (by have := Bx.new (w.alloc (.cells #[.int .i64 b, .slice ao xs.length cap] 34)) 34 #[.int .i64 0, .slice none 0 0]; rw [World.size_alloc] at this; exact this)
  have T0 : Hid (wordOf b xs next mask = (0, [])) := wordOf_no hv next mask
  have BB : Hid (Below w.heap.size w ((w.alloc (.cells #[.int .i64 b, .slice ao xs.length cap] 34)).alloc (.cells #[.int .i64 0, .slice none 0 0] 34))) := two_below _ _ _
  clear hz hr hv
  go_enter Tryz.func39, Tryz.ntmps39
  go_wp2_with (go_at_call 46; refine (HC.out _ R2.out).mono ?_; rintro e w1 ⟨rfl, hb1⟩; (have y0 := (X1.out.keep hb1).cell 0); (have y1 := (X1.out.keep hb1).cell 1); (have z0 := (X1.out.keep hb1).frozen 0); (have z1 := (X1.out.keep hb1).frozen 1); simp at y0 y1)
  have B1 := kb BB.out hb1 (Nat.le_refl _)
  refine bodyPost_ret (v := .agg #[.int .i64 0, .slice none 0 0]) (by simp [results, Tryz.results39, go_sem, y0, y1]) rfl ?_
  unfold WordPost
  rw [T0.out]
  exact ⟨⟨none, 0, rfl, World.ownsRow_nil _ _ _ _⟩, (B1.setCell (p := ⟨w.heap.size + 1, 0, none⟩) (by simp) _).setCell (p := ⟨w.heap.size + 1, 1, none⟩) (by simp) _⟩
end Go.Proofs.YthjncmgjkejikaaGreat.mk
/-
  WORDS: spec.SendWord, valid (UNDER WAY: does not build clean; see NOTES 5).
-/
namespace Go.Proofs.YthjncmgjkejikaaGreat.mk
open Go.RowKit
set_option linter.unusedVariables false

set_option maxHeartbeats 2000000 in
theorem specWord_stay (b : Nat) (ao : Option Addr) (cap : Nat) (xs : List It) (next mask : Int) (w : World) (hm : xs.length ≤ 1048576) (hz : ∀ i (h : i < xs.length), xs[i].text.size ≤ 1048576) (hr : Rs w ao xs.length (is xs)) (hao : ao = none → xs.length = 0 ∧ cap = 0) (hv : sdOk (b : Int) xs = true) (hno : ¬ WdOk (b : Int) xs next mask) :
    Calls Tryz.prog 39 #[.agg #[.int .i64 (b : Int), .slice ao xs.length cap], .int .i64 next, .int .i64 mask] w fun e w' => WordPost w (b : Int) xs next mask e w' := by
  have hok := sdOk_of hv
  have hbb : b ≤ 1000000 := by have := hok.1; unfold HdOk at this; omega
  have hnn : xs.length ≤ 60 := by have := hok.1; unfold HdOk at this; omega
  have hfl := front_le xs
  have HC : Hid (∀ u : World, Rs u ao xs.length (is xs) → Calls Tryz.prog 46 #[.agg #[.int .i64 (b : Int), .slice ao xs.length cap]] u fun e w' => e = .returned (.bool true) ∧ Below u.heap.size u w') := fun u h => by (have := specValid_any (b : Int) ao cap xs u hm hz h; rw [hv] at this; exact this)
  have HG : Hid (∀ u : World, Rs u ao xs.length (is xs) → Calls Tryz.prog 50 #[.agg #[.int .i64 (b : Int), .slice ao xs.length cap]] u fun e w' => (∃ g' c, e = .returned (.agg #[.int .i64 (b : Int), .slice (some ⟨g', 0, none⟩) xs.length c]) ∧ w'.ownsRow u.heap.size 67 4 (.slice (some ⟨g', 0, none⟩) xs.length c) xs.length (is xs)) ∧ Below u.heap.size u w') := fun u h => copy_opt (b : Int) ao cap xs u hm h hao
  have HL : Hid (∀ u : World, Rs u ao xs.length (is xs) → Calls Tryz.prog 78 #[.agg #[.int .i64 (b : Int), .slice ao xs.length cap]] u fun e w' => e = .returned (.int .i64 (front xs : Int)) ∧ Below u.heap.size u w') := fun u h => l4Front_any (b : Int) ao cap xs u hm h
  have R2 : Hid (Rs ((w.alloc (.cells #[.int .i64 (b : Int), .slice ao xs.length cap] 34)).alloc (.cells #[.int .i64 0, .slice none 0 0] 34)) ao xs.length (is xs)) := hr.keep (two_below _ _ _)
  have X0 : Hid (Bx ((w.alloc (.cells #[.int .i64 (b : Int), .slice ao xs.length cap] 34)).alloc (.cells #[.int .i64 0, .slice none 0 0] 34)) w.heap.size 34 #[.int .i64 (b : Int), .slice ao xs.length cap]) := (Bx.new w 34 _).alloc _
  have X1 : Hid (Bx ((w.alloc (.cells #[.int .i64 (b : Int), .slice ao xs.length cap] 34)).alloc (.cells #[.int .i64 0, .slice none 0 0] 34)) (w.heap.size + 1) 34 #[.int .i64 0, .slice none 0 0]) := (by have := Bx.new (w.alloc (.cells #[.int .i64 (b : Int), .slice ao xs.length cap] 34)) 34 #[.int .i64 0, .slice none 0 0]; rw [World.size_alloc] at this; exact this)
  have BB : Hid (Below w.heap.size w ((w.alloc (.cells #[.int .i64 (b : Int), .slice ao xs.length cap] 34)).alloc (.cells #[.int .i64 0, .slice none 0 0] 34))) := two_below _ _ _
  have T0 : Hid (wordOf (b : Int) xs next mask = ((b : Int), xs)) := (by rw [wordOf_yes hv]; unfold heard; rw [if_neg hno] : wordOf (b : Int) xs next mask = ((b : Int), xs))
  have HF : Hid (∀ u : World, Calls Tryz.prog 45 #[.int .i64 mask, .int .i64 0, .int .i64 255] u fun e w' => e = .returned (.bool (decide (0 ≤ mask ∧ mask ≤ 255))) ∧ u = w') := fun u => by
    by_cases h : 0 ≤ mask ∧ mask ≤ 255
    · rw [decide_eq_true h]; exact l1In_true mask 0 255 u h.1 h.2
    · rw [decide_eq_false h]; exact l1In_false mask 0 255 u (by omega)
  have hcase : next < (b : Int) ∨ ((b : Int) ≤ next ∧ (b : Int) + (front xs : Int) < next) ∨ ((b : Int) ≤ next ∧ next ≤ (b : Int) + (front xs : Int) ∧ decide (0 ≤ mask ∧ mask ≤ 255) = false) := by
    unfold WdOk at hno
    simp only [decide_eq_false_iff_not]
    omega
  clear hz hr hv hok hno
  generalize front xs = fr at *
  go_enter Tryz.func39, Tryz.ntmps39
  go_wp2_with (first | (go_at_call 46; refine (HC.out _ R2.out).mono ?_; rintro e w1 ⟨rfl, hb1⟩; (have u0 := (X0.out.keep hb1).cell 0); (have u1 := (X0.out.keep hb1).cell 1); simp at u0 u1) | (go_at_call 50; refine (HG.out _ (R2.out.keep hb1)).mono ?_; rintro e w2 ⟨⟨g2, c2, rfl, ho2⟩, hb2⟩))
  have s1 := hb1.size
  have s2 := hb2.size
  simp only [World.size_alloc] at s1
  obtain ⟨W3, hW3⟩ : ∃ W3, w2.alloc (.cells #[.int .i64 (b : Int), .slice (some ⟨g2, 0, none⟩) xs.length c2] 34) = W3 := ⟨_, rfl⟩
  have Z0 : Bx W3 w.heap.size 34 #[.int .i64 (b : Int), .slice ao xs.length cap] := (by rw [← hW3]; exact ((X0.out.keep hb1).keep hb2).alloc _); have Z1 : Bx W3 (w.heap.size + 1) 34 #[.int .i64 0, .slice none 0 0] := (by rw [← hW3]; exact ((X1.out.keep hb1).keep hb2).alloc _); have Z2 : Bx W3 w2.heap.size 34 #[.int .i64 (b : Int), .slice (some ⟨g2, 0, none⟩) xs.length c2] := (by rw [← hW3]; exact Bx.new w2 _ _); have RW : Hid (Rs W3 ao xs.length (is xs)) := (by rw [← hW3]; exact ((R2.out.keep hb1).keep hb2).keep ((Below.refl _ _).alloc (Nat.le_refl _) _)); have oW : W3.ownsRow w1.heap.size 67 4 (.slice (some ⟨g2, 0, none⟩) xs.length c2) xs.length (is xs) := (by rw [← hW3]; exact ho2.alloc _); have BW : Below w.heap.size w W3 := (by rw [← hW3]; exact (kb (kb BB.out hb1 (Nat.le_refl _)) hb2 (Nat.le_refl _)).alloc (kb (kb BB.out hb1 (Nat.le_refl _)) hb2 (Nat.le_refl _)).size _); have a0 : W3.cell? ⟨w.heap.size, 0, none⟩ = some (.int .i64 (b : Int)) := Z0.cell 0; have a1 : W3.cell? ⟨w.heap.size, 1, none⟩ = some (.slice ao xs.length cap) := Z0.cell 1
  rw [hW3]
  clear hW3 X0 X1 R2 BB HC HG hb1 hb2 ho2 u0 u1
  have hwr : IntKind.i64.wrap ((b : Int) + (fr : Int)) = (b : Int) + (fr : Int) := by rw [IntKind.wrap_i64]; omega
  rcases hcase with h | ⟨h1, h2⟩ | ⟨h1, h2, h3⟩
  · have hd : decide (next < (b : Int)) = true := by simpa using h
    refine wp_region_held_drew (S := (fun w' => Below W3.heap.size W3 w')) (by kernel_rfl) ?_ (fun hHeld => ?_)
    · exact (Below.refl _ _).drew
    refine tkF 0 (some 15) ?_
    refine tkF 1 (some 16) ?_
    refine tkE 2 (some 17) ?_ ?_ ?_
    rotate_left
    · (intro w hSw; (have t0 := cell_keep a0 hSw); (have t1 := cell_keep a1 hSw); go_simp <;> with_reducible rfl)
    refine tkF 3 (some 18) ?_
    refine tkF 4 (some 19) ?_
    refine tkS 5 (some 20) ?_
    refine tkS 6 (some 21) ?_
    refine tkS 7 (some 22) ?_
    refine tkS 8 (some 23) ?_
    refine tkS 9 (some 24) ?_
    refine tkS 10 (some 25) ?_
    refine tkS 11 (some 26) ?_
    refine tkF 12 (some 27) ?_
    refine tkF 13 (some 28) ?_
    refine tkS 14 (some 29) ?_
    refine tkS 15 (some 30) ?_
    refine tkS 16 (some 31) ?_
    refine tkF 17 (some 32) ?_
    refine wpAnyH_done (by kernel_rfl) ?_ _
    generalize W3.drew = W4 at hHeld ⊢
    have hU := hHeld
    have v0 := (Z2.keep hU).cell 0; have v1 := (Z2.keep hU).cell 1; have y0 := (Z1.keep hU).cell 0; have y1 := (Z1.keep hU).cell 1; have z0 := (Z1.keep hU).frozen 0; have z1 := (Z1.keep hU).frozen 1; have oU := owns_keep oW hU; have bU := kb BW hU (Nat.le_refl _); simp at v0 v1 y0 y1; go_wp2; have P4 := ownsRow_setCell_below (ownsRow_setCell_below oU (a := ⟨w.heap.size + 1, 0, none⟩) (by show w.heap.size + 1 < _; omega) (.int .i64 (b : Int))) (a := ⟨w.heap.size + 1, 1, none⟩) (by show w.heap.size + 1 < _; omega) (.slice (some ⟨g2, 0, none⟩) xs.length c2); refine bodyPost_ret (v := .agg #[.int .i64 (b : Int), .slice (some ⟨g2, 0, none⟩) xs.length c2]) (by simp [results, Tryz.results39, go_sem, y0, y1]) rfl ?_; unfold WordPost; rw [T0.out]; exact ⟨⟨_, _, rfl, owns_mono P4 (by omega)⟩, (bU.setCell (p := ⟨w.heap.size + 1, 0, none⟩) (by simp) _).setCell (p := ⟨w.heap.size + 1, 1, none⟩) (by simp) _⟩
  · have hd : decide (next < (b : Int)) = false := by simp; omega
    have hd2 : decide ((b : Int) + (fr : Int) < next) = true := by simpa using h2
    refine wp_region_held_drew (S := (fun w' => Below W3.heap.size W3 w')) (by kernel_rfl) ?_ (fun hHeld => ?_)
    · exact (Below.refl _ _).drew
    refine tkF 0 (some 15) ?_
    refine tkF 1 (some 16) ?_
    refine tkE 2 (some 17) ?_ ?_ ?_
    rotate_left
    · (intro w hSw; (have t0 := cell_keep a0 hSw); (have t1 := cell_keep a1 hSw); go_simp <;> with_reducible rfl)
    refine tkF 3 (some 18) ?_
    refine tkF 4 (some 19) ?_
    refine tkF 5 (some 20) ?_
    refine tkF 6 (some 21) ?_
    refine tkE 7 (some 22) ?_ ?_ ?_
    rotate_left
    · (intro w hSw; (have t0 := cell_keep a0 hSw); (have t1 := cell_keep a1 hSw); go_simp <;> with_reducible rfl)
    refine tkE 8 (some 23) ?_ ?_ ?_
    rotate_left
    · (intro w hSw; (have t0 := cell_keep a0 hSw); (have t1 := cell_keep a1 hSw); go_simp <;> with_reducible rfl)
    refine wpAnyH_ready (rs := [9]) (by kernel_rfl) (by simp) ?_
    refine AllReadyH.cons rfl (fun K hK => ?_) AllReadyH.nil
    go_simp
    refine (HL.out _ (RW.out.keep (by assumption))).mono ?_
    rintro e w4 ⟨rfl, hb4⟩
    go_wp2_with fail
    refine hK.out _ _ ?_ (fun hHeld => ?_)
    · exact kb (by assumption) hb4 (Nat.le_refl _)
    clear hK K
    try simp only [Act.put, List.setIfInBounds_toArray, List.set_cons_zero, List.set_cons_succ]
    refine tkF 10 (some 25) ?_
    refine tkF 11 (some 26) ?_
    refine tkF 12 (some 27) ?_
    refine tkF 13 (some 28) ?_
    refine tkS 14 (some 29) ?_
    refine tkS 15 (some 30) ?_
    refine tkS 16 (some 31) ?_
    refine tkF 17 (some 32) ?_
    refine wpAnyH_done (by kernel_rfl) ?_ _
    have hU := hHeld
    have v0 := (Z2.keep hU).cell 0; have v1 := (Z2.keep hU).cell 1; have y0 := (Z1.keep hU).cell 0; have y1 := (Z1.keep hU).cell 1; have z0 := (Z1.keep hU).frozen 0; have z1 := (Z1.keep hU).frozen 1; have oU := owns_keep oW hU; have bU := kb BW hU (Nat.le_refl _); simp at v0 v1 y0 y1; go_wp2; have P4 := ownsRow_setCell_below (ownsRow_setCell_below oU (a := ⟨w.heap.size + 1, 0, none⟩) (by show w.heap.size + 1 < _; omega) (.int .i64 (b : Int))) (a := ⟨w.heap.size + 1, 1, none⟩) (by show w.heap.size + 1 < _; omega) (.slice (some ⟨g2, 0, none⟩) xs.length c2); refine bodyPost_ret (v := .agg #[.int .i64 (b : Int), .slice (some ⟨g2, 0, none⟩) xs.length c2]) (by simp [results, Tryz.results39, go_sem, y0, y1]) rfl ?_; unfold WordPost; rw [T0.out]; exact ⟨⟨_, _, rfl, owns_mono P4 (by omega)⟩, (bU.setCell (p := ⟨w.heap.size + 1, 0, none⟩) (by simp) _).setCell (p := ⟨w.heap.size + 1, 1, none⟩) (by simp) _⟩
  · have hd : decide (next < (b : Int)) = false := by simp; omega
    have hd2 : decide ((b : Int) + (fr : Int) < next) = false := by simp; omega
    rw [h3] at HF
    refine wp_region_held_drew (S := (fun w' => Below W3.heap.size W3 w')) (by kernel_rfl) ?_ (fun hHeld => ?_)
    · exact (Below.refl _ _).drew
    refine tkF 0 (some 15) ?_
    refine tkF 1 (some 16) ?_
    refine tkE 2 (some 17) ?_ ?_ ?_
    rotate_left
    · (intro w hSw; (have t0 := cell_keep a0 hSw); (have t1 := cell_keep a1 hSw); go_simp <;> with_reducible rfl)
    refine tkF 3 (some 18) ?_
    refine tkF 4 (some 19) ?_
    refine tkF 5 (some 20) ?_
    refine tkF 6 (some 21) ?_
    refine tkE 7 (some 22) ?_ ?_ ?_
    rotate_left
    · (intro w hSw; (have t0 := cell_keep a0 hSw); (have t1 := cell_keep a1 hSw); go_simp <;> with_reducible rfl)
    refine tkE 8 (some 23) ?_ ?_ ?_
    rotate_left
    · (intro w hSw; (have t0 := cell_keep a0 hSw); (have t1 := cell_keep a1 hSw); go_simp <;> with_reducible rfl)
    refine wpAnyH_ready (rs := [9]) (by kernel_rfl) (by simp) ?_
    refine AllReadyH.cons rfl (fun K hK => ?_) AllReadyH.nil
    go_simp
    refine (HL.out _ (RW.out.keep (by assumption))).mono ?_
    rintro e w4 ⟨rfl, hb4⟩
    go_wp2_with fail
    refine hK.out _ _ ?_ (fun hHeld => ?_)
    · exact kb (by assumption) hb4 (Nat.le_refl _)
    clear hK K
    try simp only [Act.put, List.setIfInBounds_toArray, List.set_cons_zero, List.set_cons_succ]
    refine tkF 10 (some 25) ?_
    refine tkF 11 (some 26) ?_
    refine tkF 12 (some 27) ?_
    refine tkF 13 (some 28) ?_
    refine tkF 14 (some 29) ?_
    refine wpAnyH_ready (rs := [15]) (by kernel_rfl) (by simp) ?_
    refine AllReadyH.cons rfl (fun K hK => ?_) AllReadyH.nil
    go_simp
    refine (HF.out _).mono ?_
    rintro e w' ⟨rfl, rfl⟩
    go_wp2_with fail
    refine hK.out _ _ ?_ (fun hHeld => ?_)
    · assumption
    clear hK K
    try simp only [Act.put, List.setIfInBounds_toArray, List.set_cons_zero, List.set_cons_succ]
    refine tkF 16 (some 31) ?_
    refine tkF 17 (some 32) ?_
    refine wpAnyH_done (by kernel_rfl) ?_ _
    have hU := hHeld
    have v0 := (Z2.keep hU).cell 0; have v1 := (Z2.keep hU).cell 1; have y0 := (Z1.keep hU).cell 0; have y1 := (Z1.keep hU).cell 1; have z0 := (Z1.keep hU).frozen 0; have z1 := (Z1.keep hU).frozen 1; have oU := owns_keep oW hU; have bU := kb BW hU (Nat.le_refl _); simp at v0 v1 y0 y1; go_wp2; have P4 := ownsRow_setCell_below (ownsRow_setCell_below oU (a := ⟨w.heap.size + 1, 0, none⟩) (by show w.heap.size + 1 < _; omega) (.int .i64 (b : Int))) (a := ⟨w.heap.size + 1, 1, none⟩) (by show w.heap.size + 1 < _; omega) (.slice (some ⟨g2, 0, none⟩) xs.length c2); refine bodyPost_ret (v := .agg #[.int .i64 (b : Int), .slice (some ⟨g2, 0, none⟩) xs.length c2]) (by simp [results, Tryz.results39, go_sem, y0, y1]) rfl ?_; unfold WordPost; rw [T0.out]; exact ⟨⟨_, _, rfl, owns_mono P4 (by omega)⟩, (bU.setCell (p := ⟨w.heap.size + 1, 0, none⟩) (by simp) _).setCell (p := ⟨w.heap.size + 1, 1, none⟩) (by simp) _⟩
end Go.Proofs.YthjncmgjkejikaaGreat.mk
/-
  WORDS: spec.SendWord, where the word is heeded (UNDER WAY).
-/
namespace Go.Proofs.YthjncmgjkejikaaGreat.mk
open Go.RowKit
set_option linter.unusedVariables false

theorem is_drop (xs : List It) (d : Nat) : is (xs.drop d) = (is xs).drop (d * 4) := by
  induction d generalizing xs with
  | zero => simp
  | succ d ih =>
    cases xs with
    | nil => simp [is]
    | cons x xs =>
      rw [List.drop_succ_cons, ih xs, show (d + 1) * 4 = d * 4 + 4 by omega]
      simp [is, It.vals]
theorem drop_cells {w : World} {base g n cap : Nat} {e : TypeId} {xs : List It} (h : w.ownsRow base e 4 (.slice (some ⟨g, 0, none⟩) n cap) n (is xs)) (d : Nat) : ∀ j u, (is (xs.drop d))[j]? = some u → w.cell? ((⟨g, d * 4, none⟩ : Addr).add j) = some u := by
  intro j u hj
  rw [is_drop, List.getElem?_drop] at hj
  have hl : d * 4 + j < (is xs).length := by
    rcases Nat.lt_or_ge (d * 4 + j) (is xs).length with q | q
    · exact q
    · rw [List.getElem?_eq_none q] at hj; simp at hj
  have ea : (⟨g, d * 4, none⟩ : Addr).add j = ⟨g, d * 4 + j, none⟩ := by unfold Addr.add; split <;> simp_all
  have hc := h.cellAt (d * 4 + j) (by have := h.1; omega)
  rw [ea, hc, hj]
theorem owns_pos {w : World} {base n size : Nat} {e : TypeId} {v : Value} {cs : List Value} (h : w.ownsRow base e size v n cs) (hn : 0 < n) : ∃ g c, v = .slice (some ⟨g, 0, none⟩) n c ∧ base ≤ g := by
  rcases h.2 with ⟨_, h0⟩ | ⟨g, cap, cur, h1, h2, h3⟩
  · omega
  · exact ⟨g, cap, h1, h2⟩
theorem owns1 (W : World) (base : Nat) (hb : base ≤ W.heap.size) (H : Nat) (hH : W.heap.size = H) : (W.alloc (.cells #[] 67)).ownsRow base 67 4 (.slice (some ⟨H, 0, none⟩) 0 0) 0 (is []) := by
  subst hH
  exact World.ownsRow_lit W #[] 0 hb (Nat.zero_le _) rfl
theorem half (m k : Nat) : m / 2 ^ k / 2 = m / 2 ^ (k + 1) := by rw [Nat.div_div_eq_div_mul, Nat.pow_succ]
theorem hdn_yes' (m : Nat) (ys : List It) (k : Nat) (h : k < ys.length) (h1 : m / 2 ^ k % 2 = 1) (h2 : 0 ≤ ys[k].since) : is (hdn m ys (k + 1)) = (is (hdn m ys k)).set (k * 4 + 2) (.bool true) := by
  have hl : k < (hdn m ys k).length := by rw [hdn_length]; exact h
  rw [hdn_yes m ys k h h1 h2, is_had (hdn m ys k) k hl, hdn_at m ys k h]
set_option maxRecDepth 100000 in
set_option maxHeartbeats 4000000 in
theorem specWord_yes (b d m : Nat) (ao : Option Addr) (cap : Nat) (xs : List It) (w : World) (hm : xs.length ≤ 1048576) (hz : ∀ i (h : i < xs.length), xs[i].text.size ≤ 1048576) (hr : Rs w ao xs.length (is xs)) (hao : ao = none → xs.length = 0 ∧ cap = 0) (hv : sdOk (b : Int) xs = true) (hd : d ≤ front xs) (hm8 : m ≤ 255) :
    Calls Tryz.prog 39 #[.agg #[.int .i64 (b : Int), .slice ao xs.length cap], .int .i64 ((b + d : Nat) : Int), .int .i64 (m : Int)] w fun e w' => WordPost w (b : Int) xs ((b + d : Nat) : Int) (m : Int) e w' := by
  have hok := sdOk_of hv
  have hbb : b ≤ 1000000 := by have := hok.1; unfold HdOk at this; omega
  have hnn : xs.length ≤ 60 := by have := hok.1; unfold HdOk at this; omega
  have hfl := front_le xs
  have HC : Hid (∀ u : World, Rs u ao xs.length (is xs) → Calls Tryz.prog 46 #[.agg #[.int .i64 (b : Int), .slice ao xs.length cap]] u fun e w' => e = .returned (.bool true) ∧ Below u.heap.size u w') := fun u h => by (have := specValid_any (b : Int) ao cap xs u hm hz h; rw [hv] at this; exact this)
  have HG : Hid (∀ u : World, Rs u ao xs.length (is xs) → Calls Tryz.prog 50 #[.agg #[.int .i64 (b : Int), .slice ao xs.length cap]] u fun e w' => (∃ g' c, e = .returned (.agg #[.int .i64 (b : Int), .slice (some ⟨g', 0, none⟩) xs.length c]) ∧ w'.ownsRow u.heap.size 67 4 (.slice (some ⟨g', 0, none⟩) xs.length c) xs.length (is xs)) ∧ Below u.heap.size u w') := fun u h => copy_opt (b : Int) ao cap xs u hm h hao
  have HL : Hid (∀ u : World, Rs u ao xs.length (is xs) → Calls Tryz.prog 78 #[.agg #[.int .i64 (b : Int), .slice ao xs.length cap]] u fun e w' => e = .returned (.int .i64 (front xs : Int)) ∧ Below u.heap.size u w') := fun u h => l4Front_any (b : Int) ao cap xs u hm h
  have R2 : Hid (Rs ((w.alloc (.cells #[.int .i64 (b : Int), .slice ao xs.length cap] 34)).alloc (.cells #[.int .i64 0, .slice none 0 0] 34)) ao xs.length (is xs)) := hr.keep (two_below _ _ _)
  have X0 : Hid (Bx ((w.alloc (.cells #[.int .i64 (b : Int), .slice ao xs.length cap] 34)).alloc (.cells #[.int .i64 0, .slice none 0 0] 34)) w.heap.size 34 #[.int .i64 (b : Int), .slice ao xs.length cap]) := (Bx.new w 34 _).alloc _
  have X1 : Hid (Bx ((w.alloc (.cells #[.int .i64 (b : Int), .slice ao xs.length cap] 34)).alloc (.cells #[.int .i64 0, .slice none 0 0] 34)) (w.heap.size + 1) 34 #[.int .i64 0, .slice none 0 0]) := (by have := Bx.new (w.alloc (.cells #[.int .i64 (b : Int), .slice ao xs.length cap] 34)) 34 #[.int .i64 0, .slice none 0 0]; rw [World.size_alloc] at this; exact this)
  have BB : Hid (Below w.heap.size w ((w.alloc (.cells #[.int .i64 (b : Int), .slice ao xs.length cap] 34)).alloc (.cells #[.int .i64 0, .slice none 0 0] 34))) := two_below _ _ _
  have T0 : Hid (wordOf (b : Int) xs ((b + d : Nat) : Int) (m : Int) = (((b + d : Nat) : Int), hdn m (xs.drop d) 8)) := (by
    rw [wordOf_yes hv]
    unfold heard
    rw [if_pos (by unfold WdOk; omega), show (((b + d : Nat) : Int) - (b : Int)).toNat = d by omega, Int.toNat_natCast, Int.toNat_natCast] : wordOf (b : Int) xs ((b + d : Nat) : Int) (m : Int) = (((b + d : Nat) : Int), hdn m (xs.drop d) 8))
  have HF : Hid (∀ u : World, Calls Tryz.prog 45 #[.int .i64 (m : Int), .int .i64 0, .int .i64 255] u fun e w' => e = .returned (.bool true) ∧ u = w') := fun u => l1In_true _ 0 255 u (by omega) (by omega)
  obtain ⟨n, hn⟩ : ∃ n, n = b + d := ⟨_, rfl⟩
  rw [← hn] at T0 ⊢
  have hd1 : decide ((n : Int) < (b : Int)) = false := by simp; omega
  have hd2 : decide ((b : Int) + (front xs : Int) < (n : Int)) = false := by simp; omega
  have hd3 : decide (n < b) = false := by simp; omega
  have hd4 : decide (b + front xs < n) = false := by simp; omega
  have hwr : IntKind.i64.wrap ((b : Int) + (front xs : Int)) = (b : Int) + (front xs : Int) := by rw [IntKind.wrap_i64]; omega
  have hdx : d ≤ xs.length := by omega
  have hsub : (n : Int) - (b : Int) = (d : Int) := by omega
  have hnb : n ≤ 1000100 := by omega
  have HN : Hid (n = b + d) := hn
  clear hz hr hv hok hd hfl hn
  generalize front xs = fr at *
  obtain ⟨i0, hi, hz0, hz1, hz2⟩ := info_parts info_item
  go_enter Tryz.func39, Tryz.ntmps39
  go_wp2_with (first | (go_at_call 46; refine (HC.out _ R2.out).mono ?_; rintro e w1 ⟨rfl, hb1⟩; (have u0 := (X0.out.keep hb1).cell 0); (have u1 := (X0.out.keep hb1).cell 1); simp at u0 u1) | (go_at_call 50; refine (HG.out _ (R2.out.keep hb1)).mono ?_; rintro e w2 ⟨⟨g2, c2, rfl, ho2⟩, hb2⟩))
  have s1 := hb1.size
  have s2 := hb2.size
  simp only [World.size_alloc] at s1
  obtain ⟨W3, hW3⟩ : ∃ W3, w2.alloc (.cells #[.int .i64 (b : Int), .slice (some ⟨g2, 0, none⟩) xs.length c2] 34) = W3 := ⟨_, rfl⟩
  have Z0 : Bx W3 w.heap.size 34 #[.int .i64 (b : Int), .slice ao xs.length cap] := (by rw [← hW3]; exact ((X0.out.keep hb1).keep hb2).alloc _); have Z1 : Bx W3 (w.heap.size + 1) 34 #[.int .i64 0, .slice none 0 0] := (by rw [← hW3]; exact ((X1.out.keep hb1).keep hb2).alloc _); have Z2 : Bx W3 w2.heap.size 34 #[.int .i64 (b : Int), .slice (some ⟨g2, 0, none⟩) xs.length c2] := (by rw [← hW3]; exact Bx.new w2 _ _); have RW : Hid (Rs W3 ao xs.length (is xs)) := (by rw [← hW3]; exact ((R2.out.keep hb1).keep hb2).keep ((Below.refl _ _).alloc (Nat.le_refl _) _)); have oW : W3.ownsRow w1.heap.size 67 4 (.slice (some ⟨g2, 0, none⟩) xs.length c2) xs.length (is xs) := (by rw [← hW3]; exact ho2.alloc _); have BW : Below w.heap.size w W3 := (by rw [← hW3]; exact (kb (kb BB.out hb1 (Nat.le_refl _)) hb2 (Nat.le_refl _)).alloc (kb (kb BB.out hb1 (Nat.le_refl _)) hb2 (Nat.le_refl _)).size _); have a0 : W3.cell? ⟨w.heap.size, 0, none⟩ = some (.int .i64 (b : Int)) := Z0.cell 0; have a1 : W3.cell? ⟨w.heap.size, 1, none⟩ = some (.slice ao xs.length cap) := Z0.cell 1
  rw [hW3]
  clear hW3 X0 X1 R2 BB HC HG hb1 hb2 ho2 u0 u1
  go_region_held3 (fun w' => w'.cell? ⟨w.heap.size, 0, none⟩ = some (.int .i64 (b : Int)) ∧ w'.cell? ⟨w.heap.size, 1, none⟩ = some (.slice ao xs.length cap) ∧ Below W3.heap.size W3 w') (first | assumption | exact ⟨a0, a1, (Below.refl _ _).drew⟩ | (go_split_ands; exact ⟨(Z0.keep (kb (by assumption) hb4 (Nat.le_refl _))).cell 0, (Z0.keep (kb (by assumption) hb4 (Nat.le_refl _))).cell 1, kb (by assumption) hb4 (Nat.le_refl _)⟩)) (first | (go_at_call 78; refine (HL.out _ (RW.out.keep (by go_split_ands; assumption))).mono ?_; rintro e w4 ⟨rfl, hb4⟩) | (go_at_call 45; refine (HF.out _).mono ?_; rintro e w' ⟨rfl, rfl⟩))
  have hU : Below W3.heap.size W3 w4 := by go_split_ands; assumption
  have v0 := (Z2.keep hU).cell 0
  have v1 := (Z2.keep hU).cell 1
  have vf := (Z2.keep hU).frozen 0
  have vg := (Z2.keep hU).frozen 1
  have e0 : w4.cell? ⟨w.heap.size, 0, none⟩ = some (.int .i64 (b : Int)) := (Z0.keep hU).cell 0
  have oU := owns_keep oW hU
  have bU := kb BW hU (Nat.le_refl _)
  simp at v0 v1
  have l0 := (Z0.keep hU).lt
  have l1 := (Z1.keep hU).lt
  have l2 := (Z2.keep hU).lt
  have hcap : xs.length ≤ c2 := by
    obtain ⟨ao, cap', he, h1, h2, h3⟩ := rs_of_owns oU
    cases he
    exact h1
  have hdn : (d : Int) ≤ (xs.length : Int) := by omega
  have s3 := BW.size
  have OU : Hid (w4.ownsRow w1.heap.size 67 4 (.slice (some ⟨g2, 0, none⟩) xs.length c2) xs.length (is xs)) := oU
  have ZZ2 : Hid (Bx w4 w2.heap.size 34 #[.int .i64 (b : Int), .slice (some ⟨g2, 0, none⟩) xs.length c2]) := Z2.keep hU
  have ZZ1 : Hid (Bx w4 (w.heap.size + 1) 34 #[.int .i64 0, .slice none 0 0]) := Z1.keep hU
  have BU : Hid (Below w.heap.size w w4) := bU
  obtain ⟨ys, hys⟩ : ∃ ys, ys = xs.drop d := ⟨_, rfl⟩
  have hyl : ys.length = xs.length - d := by rw [hys, List.length_drop]
  clear oU oW Z0 Z1 Z2 bU BW
  rcases Nat.lt_or_ge d xs.length with hdc | hdc
  · have hdc1 : d < c2 := by omega
    have hdc2 : (d : Int) < (c2 : Int) := by omega
    have hn0 : ¬ xs.length - d = 0 := by omega
    have HYS : Hid (ys = xs.drop d) := hys
    have HYX : Hid (ys.length = xs.length - d) := hyl
    obtain ⟨L, hL⟩ : ∃ L, L = xs.length - d := ⟨_, rfl⟩
    have HLL : Hid (L = xs.length - d) := hL
    have HYL : Hid (ys.length = L) := hyl.trans hL.symm
    clear hys hyl hL
    go_wp2_with (at_builtin; go_must (refine wpList_append_own _ rfl _ _ 32 rfl w4.heap.size 67 i0 (.agg #[.string ⟨#[]⟩, .bool false, .bool false, .int .i64 0]) 4 40 Tryz.underlying32 hi hz0 hz1 hz2 rfl (by decide) (.slice (some ⟨w4.heap.size, 0, none⟩) 0 0) 0 [] rfl (World.ownsRow_lit w4 #[] 0 (Nat.le_refl _) (Nat.zero_le _) rfl) ⟨g2, d * 4, none⟩ (xs.length - d) (c2 - d) (is ys) rfl (by rw [is_length, HYX.out]) (by rw [HYS.out]; exact drop_cells (OU.out.alloc _) d) (is_one _) (by unfold maxLen; omega) (by omega) (by simp) ?_); intro v' w5 hown' hgrow _; rw [Nat.zero_add, List.nil_append, ← HLL.out] at hown'; obtain ⟨g5, c5, rfl, hg5⟩ := owns_pos hown' (by have := HLL.out; omega); (have X2 := (ZZ2.out.alloc (.cells #[] 67)).kept hgrow (by simp [Value.ownBlock]; omega)); (have X1 := (ZZ1.out.alloc (.cells #[] 67)).kept hgrow (by simp [Value.ownBlock]; omega)); (have q0 := X2.cell 0); (have q1 := X2.cell 1); (have f0 := X2.frozen 0); (have f1 := X2.frozen 1); simp at q0 q1)
    have B5 : Below w.heap.size w w5 := (BU.out.alloc BU.out.size _).grown hgrow (by have := BU.out.size; simp; omega) (fun k hk => by simp [Value.ownBlock] at hk; have := BU.out.size; omega)
    have hg6 := BU.out.size
    obtain ⟨W6, hW6⟩ : ∃ W6, (w5.setCell ⟨w2.heap.size, 1, none⟩ (.slice (some ⟨g5, 0, none⟩) L c5)).setCell ⟨w2.heap.size, 0, none⟩ (.int .i64 (n : Int)) = W6 := ⟨_, rfl⟩
    have Y2 : Bx W6 w2.heap.size 34 #[.int .i64 (n : Int), .slice (some ⟨g5, 0, none⟩) L c5] := by rw [← hW6]; exact (X2.put 1 _).put 0 _
    have Y1 : Bx W6 (w.heap.size + 1) 34 #[.int .i64 0, .slice none 0 0] := by rw [← hW6]; exact (X1.other _ (by show w.heap.size + 1 ≠ w2.heap.size; omega) _).other _ (by show w.heap.size + 1 ≠ w2.heap.size; omega) _
    have OR : W6.ownsRow w4.heap.size 67 4 (.slice (some ⟨g5, 0, none⟩) L c5) L (is ys) := by rw [← hW6]; exact ownsRow_setCell_other (ownsRow_setCell_other hown' (a := ⟨w2.heap.size, 1, none⟩) (by simp [Value.ownBlock]; omega) _) (a := ⟨w2.heap.size, 0, none⟩) (by simp [Value.ownBlock]; omega) _
    have B6 : Below w.heap.size w W6 := by rw [← hW6]; exact (B5.setCell (p := ⟨w2.heap.size, 1, none⟩) (by show w.heap.size ≤ w2.heap.size; omega) _).setCell (p := ⟨w2.heap.size, 0, none⟩) (by show w.heap.size ≤ w2.heap.size; omega) _
    rw [hW6]
    clear hW6 X2 X1 hown' B5 q0 q1 f0 f1
    go_loopw [2, 8] (fun q i wr => ∃ k : Nat, k ≤ 8 ∧ i = .int .i64 k ∧ q = .int .i64 ((m / 2 ^ k : Nat) : Int) ∧ Bx wr w2.heap.size 34 #[.int .i64 (n : Int), .slice (some ⟨g5, 0, none⟩) L c5] ∧ Bx wr (w.heap.size + 1) 34 #[.int .i64 0, .slice none 0 0] ∧ wr.ownsRow w4.heap.size 67 4 (.slice (some ⟨g5, 0, none⟩) L c5) L (is (mk.hdn m ys k)) ∧ Below w.heap.size w wr) (fun _ i _ => 8 - (intOf i).toNat)
    case atStart => exact ⟨0, by omega, rfl, by simp, Y2, Y1, OR, B6⟩
    case round =>
      clear Y2 Y1 OR B6
      obtain ⟨k, hk, rfl, rfl, y2, y1, oo, bb⟩ := hrel
      have e0 := y2.cell 0
      have e1 := y2.cell 1
      simp at e0 e1
      have OO : Hid (wr.ownsRow w4.heap.size 67 4 (.slice (some ⟨g5, 0, none⟩) L c5) L (is (mk.hdn m ys k))) := oo
      have YY2 : Hid (Bx wr w2.heap.size 34 #[.int .i64 (n : Int), .slice (some ⟨g5, 0, none⟩) L c5]) := y2
      have YY1 : Hid (Bx wr (w.heap.size + 1) 34 #[.int .i64 0, .slice none 0 0]) := y1
      have hlen := oo.1
      clear oo
      obtain ⟨q, hq⟩ : ∃ q, q = m / 2 ^ k := ⟨_, rfl⟩
      have hqb : q ≤ 255 := by rw [hq]; exact Nat.le_trans (Nat.div_le_self _ _) hm8
      rw [← hq]
      have HQ : Hid (q = m / 2 ^ k) := hq
      have HQ2 : Hid (q / 2 = m / 2 ^ (k + 1)) := (by rw [hq]; exact half m k : q / 2 = m / 2 ^ (k + 1))
      clear hq
      by_cases hk8 : k < 8
      · have hk8i : (k : Int) < 8 := by omega
        by_cases hbit : q % 2 = 1
        · have hbi : (q : Int) % 2 = 1 := by omega
          by_cases hkl : k < L
          · have hkli : (k : Int) < (L : Int) := by omega
            have hky : k < ys.length := by have := HYL.out; omega
            have hkh : k < (mk.hdn m ys k).length := by rw [hdn_length]; exact hky
            obtain ⟨r0, r1, r2, r3⟩ := is_at (mk.hdn m ys k) k hkh
            rw [hdn_at m ys k hky] at r0 r1 r2 r3
            have c2' := (OO.out.cellAt (k * 4 + 2) (by omega)).trans r2
            have c3' := (OO.out.cellAt (k * 4 + 3) (by omega)).trans r3
            have f2' := OO.out.frozenAt (k * 4 + 2)
            have HNO : Hid (¬ (0 ≤ ys[k].since) → mk.hdn m ys (k + 1) = mk.hdn m ys k) := fun h => hdn_no m ys k (fun _ h2 => h (by have := h2.2; rw [List.getElem?_eq_getElem hky] at this; simpa using this))
            have HYES : Hid (0 ≤ ys[k].since → is (mk.hdn m ys (k + 1)) = (is (mk.hdn m ys k)).set (k * 4 + 2) (.bool true)) := fun h => hdn_yes' m ys k hky (by rw [← HQ.out]; exact hbit) h
            clear r0 r1 r2 r3 hkh
            generalize ys[k].since = z at *
            generalize ys[k].has = hh at *
            by_cases hs : 0 ≤ z
            · go_wp2
              refine ⟨⟨k + 1, by omega, by go_num, by have := HQ2.out; go_num, YY2.out.other _ (by show w2.heap.size ≠ g5; omega) _, YY1.out.other _ (by show w.heap.size + 1 ≠ g5; omega) _, by rw [HYES.out hs]; exact (OO.out.stored (k * 4 + 2) (.bool true)).1, bb.setCell (p := ⟨g5, k * 4 + 2, none⟩) (by show w.heap.size ≤ g5; omega) _⟩, by simp [intOf] <;> omega⟩
            · go_wp2
              refine ⟨⟨k + 1, by omega, by go_num, by have := HQ2.out; go_num, YY2.out, YY1.out, by rw [HNO.out hs]; exact OO.out, bb⟩, by simp [intOf] <;> omega⟩
          · have hkli : decide ((k : Int) < (L : Int)) = false := by simp; omega
            have HNO : Hid (mk.hdn m ys (k + 1) = mk.hdn m ys k) := hdn_no m ys k (fun h => by have := HYL.out; omega)
            go_wp2
            refine ⟨⟨k + 1, by omega, by go_num, by have := HQ2.out; go_num, YY2.out, YY1.out, by rw [HNO.out]; exact OO.out, bb⟩, by simp [intOf] <;> omega⟩
        · have hbi : (q : Int) % 2 = 0 := by omega
          have HNO : Hid (mk.hdn m ys (k + 1) = mk.hdn m ys k) := hdn_no m ys k (fun _ h => hbit (by rw [HQ.out]; exact h.1))
          go_wp2
          refine ⟨⟨k + 1, by omega, by go_num, by have := HQ2.out; go_num, YY2.out, YY1.out, by rw [HNO.out]; exact OO.out, bb⟩, by simp [intOf] <;> omega⟩
      · obtain rfl : k = 8 := by omega
        have x0 := YY1.out.cell 0
        have x1 := YY1.out.cell 1
        have z0 := YY1.out.frozen 0
        have z1 := YY1.out.frozen 1
        simp at x0 x1
        go_wp2
        have e8 : (mk.hdn m (xs.drop d) 8).length = L := by rw [hdn_length, ← HYS.out, HYL.out]
        have P4 := ownsRow_setCell_other (ownsRow_setCell_other OO.out (a := ⟨w.heap.size + 1, 0, none⟩) (by simp [Value.ownBlock]; omega) (.int .i64 (n : Int))) (a := ⟨w.heap.size + 1, 1, none⟩) (by simp [Value.ownBlock]; omega) (.slice (some ⟨g5, 0, none⟩) L c5)
        refine bodyPost_ret (v := .agg #[.int .i64 (n : Int), .slice (some ⟨g5, 0, none⟩) L c5]) (by simp [results, Tryz.results39, go_sem, x0, x1]) rfl ?_
        unfold WordPost
        rw [T0.out]
        refine ⟨⟨some ⟨g5, 0, none⟩, c5, ?_, ?_⟩, (bb.setCell (p := ⟨w.heap.size + 1, 0, none⟩) (by simp) _).setCell (p := ⟨w.heap.size + 1, 1, none⟩) (by simp) _⟩
        · dsimp only
          rw [e8]
        · dsimp only
          rw [e8, ← HYS.out]
          exact owns_mono P4 (by omega)
  · obtain rfl : d = xs.length := by omega
    have HYS : Hid (ys = xs.drop xs.length) := hys
    have HYL : Hid (ys.length = 0) := (by rw [hyl]; omega : ys.length = 0)
    clear hys hyl hdc
    go_wp2
    all_goals
      obtain ⟨W6, hW6⟩ : ∃ W6, ((w4.setCell ⟨w2.heap.size, 1, none⟩ (.slice (some ⟨w4.heap.size, 0, none⟩) 0 0)).setCell ⟨w2.heap.size, 0, none⟩ (.int .i64 (n : Int))).alloc (.cells #[] 67) = W6 := ⟨_, rfl⟩
      have Y2 : Bx W6 w2.heap.size 34 #[.int .i64 (n : Int), .slice (some ⟨w4.heap.size, 0, none⟩) 0 0] := by rw [← hW6]; exact ((ZZ2.out.put 1 _).put 0 _).alloc _
      have Y1 : Bx W6 (w.heap.size + 1) 34 #[.int .i64 0, .slice none 0 0] := by rw [← hW6]; exact ((ZZ1.out.other _ (by show w.heap.size + 1 ≠ w2.heap.size; omega) _).other _ (by show w.heap.size + 1 ≠ w2.heap.size; omega) _).alloc _
      have OR : W6.ownsRow w4.heap.size 67 4 (.slice (some ⟨w4.heap.size, 0, none⟩) 0 0) 0 (is ys) := by
        rw [← hW6, List.eq_nil_of_length_eq_zero HYL.out]
        exact owns1 _ _ (by simp) _ (by simp)
      have B6 : Below w.heap.size w W6 := by rw [← hW6]; exact ((BU.out.setCell (p := ⟨w2.heap.size, 1, none⟩) (by show w.heap.size ≤ w2.heap.size; omega) _).setCell (p := ⟨w2.heap.size, 0, none⟩) (by show w.heap.size ≤ w2.heap.size; omega) _).alloc (by have := BU.out.size; simp; omega) _
      have hg6 := BU.out.size
      rw [hW6]
      clear hW6
      go_loopw [2, 8] (fun q i wr => ∃ k : Nat, k ≤ 8 ∧ i = .int .i64 k ∧ q = .int .i64 ((m / 2 ^ k : Nat) : Int) ∧ Bx wr w2.heap.size 34 #[.int .i64 (n : Int), .slice (some ⟨w4.heap.size, 0, none⟩) 0 0] ∧ Bx wr (w.heap.size + 1) 34 #[.int .i64 0, .slice none 0 0] ∧ wr.ownsRow w4.heap.size 67 4 (.slice (some ⟨w4.heap.size, 0, none⟩) 0 0) 0 (is (mk.hdn m ys k)) ∧ Below w.heap.size w wr) (fun _ i _ => 8 - (intOf i).toNat)
      case atStart => exact ⟨0, by omega, rfl, by simp, Y2, Y1, OR, B6⟩
      case round =>
        clear Y2 Y1 OR B6
        obtain ⟨k, hk, rfl, rfl, y2, y1, oo, bb⟩ := hrel
        have e0 := y2.cell 0
        have e1 := y2.cell 1
        simp at e0 e1
        have OO : Hid (wr.ownsRow w4.heap.size 67 4 (.slice (some ⟨w4.heap.size, 0, none⟩) 0 0) 0 (is (mk.hdn m ys k))) := oo
        have YY2 : Hid (Bx wr w2.heap.size 34 #[.int .i64 (n : Int), .slice (some ⟨w4.heap.size, 0, none⟩) 0 0]) := y2
        have YY1 : Hid (Bx wr (w.heap.size + 1) 34 #[.int .i64 0, .slice none 0 0]) := y1
        have hlen := oo.1
        clear oo
        obtain ⟨q, hq⟩ : ∃ q, q = m / 2 ^ k := ⟨_, rfl⟩
        have hqb : q ≤ 255 := by rw [hq]; exact Nat.le_trans (Nat.div_le_self _ _) hm8
        rw [← hq]
        have HQ : Hid (q = m / 2 ^ k) := hq
        have HQ2 : Hid (q / 2 = m / 2 ^ (k + 1)) := (by rw [hq]; exact half m k : q / 2 = m / 2 ^ (k + 1))
        clear hq
        by_cases hk8 : k < 8
        · have hk8i : (k : Int) < 8 := by omega
          by_cases hbit : q % 2 = 1
          · have hbi : (q : Int) % 2 = 1 := by omega
            have hkli : decide ((k : Int) < 0) = false := decide_eq_false (by omega)
            have HNO : Hid (mk.hdn m ys (k + 1) = mk.hdn m ys k) := hdn_no m ys k (fun h => by have := HYL.out; omega)
            go_wp2
            refine ⟨⟨k + 1, by omega, by go_num, by have := HQ2.out; go_num, YY2.out, YY1.out, by rw [HNO.out]; exact OO.out, bb⟩, by simp [intOf] <;> omega⟩
          · have hbi : (q : Int) % 2 = 0 := by omega
            have HNO : Hid (mk.hdn m ys (k + 1) = mk.hdn m ys k) := hdn_no m ys k (fun _ h => hbit (by rw [HQ.out]; exact h.1))
            go_wp2
            refine ⟨⟨k + 1, by omega, by go_num, by have := HQ2.out; go_num, YY2.out, YY1.out, by rw [HNO.out]; exact OO.out, bb⟩, by simp [intOf] <;> omega⟩
        · obtain rfl : k = 8 := by omega
          have x0 := YY1.out.cell 0
          have x1 := YY1.out.cell 1
          have z0 := YY1.out.frozen 0
          have z1 := YY1.out.frozen 1
          simp at x0 x1
          go_wp2
          have e8 : (mk.hdn m (xs.drop xs.length) 8).length = 0 := by rw [hdn_length, ← HYS.out, HYL.out]
          have P4 := ownsRow_setCell_other (ownsRow_setCell_other OO.out (a := ⟨w.heap.size + 1, 0, none⟩) (by simp [Value.ownBlock]; omega) (.int .i64 (n : Int))) (a := ⟨w.heap.size + 1, 1, none⟩) (by simp [Value.ownBlock]; omega) (.slice (some ⟨w4.heap.size, 0, none⟩) 0 0)
          refine bodyPost_ret (v := .agg #[.int .i64 (n : Int), .slice (some ⟨w4.heap.size, 0, none⟩) 0 0]) (by simp [results, Tryz.results39, go_sem, x0, x1]) rfl ?_
          unfold WordPost
          rw [T0.out]
          refine ⟨⟨some ⟨w4.heap.size, 0, none⟩, 0, ?_, ?_⟩, (bb.setCell (p := ⟨w.heap.size + 1, 0, none⟩) (by simp) _).setCell (p := ⟨w.heap.size + 1, 1, none⟩) (by simp) _⟩
          · dsimp only
            rw [e8]
          · dsimp only
            rw [e8, ← HYS.out]
            exact owns_mono P4 (by omega)
end Go.Proofs.YthjncmgjkejikaaGreat.mk
/-
  WORDS: spec.SendWord, whole.
-/
namespace Go.Proofs.YthjncmgjkejikaaGreat.mk
open Go.RowKit
set_option linter.unusedVariables false

theorem specWord_opt (b : Int) (ao : Option Addr) (cap : Nat) (xs : List It) (next mask : Int) (w : World) (hm : xs.length ≤ 1048576) (hz : ∀ i (h : i < xs.length), xs[i].text.size ≤ 1048576) (hr : Rs w ao xs.length (is xs)) (hao : ao = none → xs.length = 0 ∧ cap = 0) :
    Calls Tryz.prog 39 #[.agg #[.int .i64 b, .slice ao xs.length cap], .int .i64 next, .int .i64 mask] w fun e w' => WordPost w b xs next mask e w' := by
  cases hv : sdOk b xs
  · exact specWord_no b ao cap xs next mask w hm hz hr hao hv
  · obtain ⟨n, rfl⟩ : ∃ n : Nat, b = (n : Int) := ⟨b.toNat, by have := (sdOk_of hv).1; unfold HdOk at this; omega⟩
    by_cases h : WdOk (n : Int) xs next mask
    · unfold WdOk at h
      obtain ⟨d, rfl⟩ : ∃ d : Nat, next = ((n + d : Nat) : Int) := ⟨(next - n).toNat, by omega⟩
      obtain ⟨m, rfl⟩ : ∃ m : Nat, mask = (m : Int) := ⟨mask.toNat, by omega⟩
      exact specWord_yes n d m ao cap xs w hm hz hr hao hv (by omega) (by omega)
    · exact specWord_stay n ao cap xs next mask w hm hz hr hao hv h
end Go.Proofs.YthjncmgjkejikaaGreat.mk

/-
  MARKS: the text of a number, and what the laws' eq, mark and held functions do to a slice of parts.
-/
import Derived.Test.YtfjedpnagnnobaaProg
import Derived.Test.YtfjedpnagnnobaaPlain
import Derived.WalkKit
import Derived.WalkSpells
import Derived.WalkLawsBesides
import Derived.Outline
import Derived.Maps.AppendAt
import Derived.Maps.RangeWalk
import Derived.Deep.RegionHeld3
namespace Go.Proofs.Ytfjedpnagnnobaa.mk
open Go.RowKit
set_option linter.unusedVariables false

/-- the decimal text, digit by digit ahead of what there is -/
def fin (m : Nat) (o : ByteArray) : ByteArray :=
  if h : m = 0 then ⟨#[109]⟩ ++ o else fin (m / 10) (strOfNums [((48 + m % 10 : Nat) : Int)] ++ o)
termination_by m
decreasing_by omega
theorem fin_zero (o : ByteArray) : fin 0 o = ⟨#[109]⟩ ++ o := by rw [fin]; simp
theorem fin_step (m : Nat) (o : ByteArray) (h : 0 < m) : fin m o = fin (m / 10) (strOfNums [((48 + m % 10 : Nat) : Int)] ++ o) := by
  rw [fin, dif_neg (by omega)]
def mkt (k : Nat) : ByteArray := fin k ⟨#[]⟩
theorem strOne_size (z : Int) : (strOfNums [z]).size = 1 := by rw [strOfNums_size]; rfl
/-- 'string([]byte{z})': the one byte that was just laid -/
theorem conv_one (u : World) (z : Int) :
    (convert 139 9 (.slice (some ⟨u.heap.size, 0, none⟩) 1 1)).run Try.prog (u.alloc (.cells #[.int .u8 z] 5)) = .ok (.string (strOfNums [z])) (u.alloc (.cells #[.int .u8 z] 5)) :=
  run_convert_bytes_arg (P := Try.prog) _ 139 5 Try.underlying139 Try.underlying5 u.heap.size 0 1 1 [z] rfl
    (fun i hi => by
      obtain rfl : i = 0 := by omega
      rw [World.cell?_alloc_at (hn := rfl)]; rfl) 9 Try.underlying9
theorem markText_any (k : Nat) (w : World) (h0 : 0 < k) (h : k ≤ 1000000000000) :
    Calls Try.prog 74 #[.int .i64 k] w fun e w' => e = .returned (.string (mkt k)) ∧ Below w.heap.size w w' := by
  have hcv := conv_one
  have hs1 := strOne_size
  go_enter Try.func74, Try.ntmps74
  go_wp2
  go_loopw [0, 3] (fun i o wr => ∃ (m : Nat) (O : ByteArray), i = .int .i64 m ∧ o = .string O ∧ O.size + m ≤ k ∧ fin m O = mkt k ∧ Below w.heap.size w wr) (fun i _ _ => (intOf i).toNat)
  case atStart => exact ⟨k, ⟨#[]⟩, rfl, rfl, by show 0 + k ≤ k; omega, rfl, Below.refl _ _⟩
  case round =>
    obtain ⟨m, O, rfl, rfl, hO, hf, hbel⟩ := hrel
    by_cases hlt : 0 < m
    · have HF : Hid (fin (m / 10) (strOfNums [((48 + m % 10 : Nat) : Int)] ++ O) = mkt k) := by rw [← fin_step m O hlt]; exact hf
      clear hf
      go_wp2
      go_roundw
      case rel =>
        refine ⟨m / 10, _, by go_num, rfl, ?_, ?_, hbel.alloc hbel.size _⟩
        · rw [ByteArray.size_append, strOne_size]; omega
        · rw [← HF.out]; rfl
      case measure => simp only [intOf]; omega
    · obtain rfl : m = 0 := by omega
      rw [fin_zero] at hf
      have HF : Hid (⟨#[109]⟩ ++ O = mkt k) := hf
      clear hf
      go_wp2
      go_ret
      exact ⟨by rw [← HF.out]; rfl, hbel⟩

/-! ### slices of parts -/
def ps (xs : List (ByteArray × Bool)) : List Value := xs.flatMap fun x => [.string x.1, .bool x.2]
theorem ps_length (xs : List (ByteArray × Bool)) : (ps xs).length = xs.length * 2 := by
  induction xs with
  | nil => rfl
  | cons x xs ih => simp only [ps, List.flatMap_cons, List.length_append, List.length_cons, List.length_nil] at ih ⊢; omega
theorem ps_append (xs ys : List (ByteArray × Bool)) : ps (xs ++ ys) = ps xs ++ ps ys := by simp [ps]
theorem ps_at (xs : List (ByteArray × Bool)) (i : Nat) (h : i < xs.length) : (ps xs)[i * 2]? = some (.string xs[i].1) ∧ (ps xs)[i * 2 + 1]? = some (.bool xs[i].2) := by
  induction xs generalizing i with
  | nil => simp at h
  | cons x xs ih =>
    cases i with
    | zero => simp [ps]
    | succ i =>
      have := ih i (by simpa using h)
      have e : (i + 1) * 2 = i * 2 + 2 := by omega
      rw [e]
      simpa [ps] using this
theorem eqPart_same (a : ByteArray) (b : Bool) (w : World) :
    Calls Try.prog 98 #[.agg #[.string a, .bool b], .agg #[.string a, .bool b]] w fun e w' => e = .returned (.bool true) ∧ Below w.heap.size w w' := by
  go_enter Try.func98, Try.ntmps98
  go_wp2
  go_ret
  exact ⟨rfl, ((Below.refl _ _).alloc (Nat.le_refl _) _).alloc (by simp) _⟩
theorem kp {w w1 w2 : World} {p : Addr} {v : Value} (h : w1.cell? p = some v) (hb1 : Below w.heap.size w w1) (hb2 : Below w1.heap.size w1 w2) (hp : p.block < w.heap.size) : w2.cell? p = some v :=
  (hb2.cell (Nat.lt_of_lt_of_le hp hb1.size)).trans h
theorem kb {B : Nat} {w w1 w2 : World} (hb1 : Below B w w1) (hb2 : Below w1.heap.size w1 w2) (hB : B ≤ w.heap.size) : Below B w w2 :=
  hb1.trans (hb2.mono (Nat.le_trans hB hb1.size))
/-- a slice whose cells are xs, to be read -/
structure Rs (w : World) (ao : Option Addr) (n : Nat) (xs : List Value) : Prop where
  ex : n = 0 ∨ ∃ g, ao = some ⟨g, 0, none⟩ ∧ g < w.heap.size ∧ ∀ j, j < xs.length → w.cell? ⟨g, j, none⟩ = xs[j]?
theorem Rs.keep {w w' : World} {ao : Option Addr} {n : Nat} {xs : List Value} (h : Rs w ao n xs) (hb : Below w.heap.size w w') : Rs w' ao n xs := by
  rcases h.ex with h | ⟨g, h1, h2, h3⟩
  · exact ⟨.inl h⟩
  · exact ⟨.inr ⟨g, h1, Nat.lt_of_lt_of_le h2 hb.size, fun j hj => (hb.cell (p := ⟨g, j, none⟩) h2).trans (h3 j hj)⟩⟩
theorem rs_of_owns {w : World} {base : Nat} {e : TypeId} {size : Nat} {v : Value} {n : Nat} {xs : List Value} (h : w.ownsRow base e size v n xs) : ∃ ao cap, v = .slice ao n cap ∧ n ≤ cap ∧ cap ≤ maxLen ∧ Rs w ao n xs := by
  rcases h.2 with ⟨rfl, rfl⟩ | ⟨g, cap, cur, rfl, h1, h2, h3, h4, h5, h6⟩
  · exact ⟨none, 0, rfl, Nat.le_refl _, Nat.zero_le _, ⟨.inl rfl⟩⟩
  · refine ⟨_, cap, rfl, h3, h4, ⟨.inr ⟨g, rfl, (Array.getElem?_eq_some_iff.1 h2).1, fun j hj => ?_⟩⟩⟩
    exact h.cellAt j (by rw [← h.1]; exact hj)
/-- the cells as the marks from k on have left them -/
def Mp (k n : Nat) (cs : List Value) : Prop := ∀ i, i < n → cs[i * 2]? = some (.string (mkt (k + i * 2))) ∧ cs[i * 2 + 1]? = some (.bool ((((k + i * 2 : Nat) : Int) + 1) % 3 == 0))
theorem grow_below {w w' : World} (row : Option Nat) (h : Below w.heap.size w w') : w.grownBy w' row := ⟨h.os, h.tape, h.output, h.size, fun k hk _ => h.block k hk⟩
theorem below_grow {w w' : World} (h : w.grownBy w' none) : Below w.heap.size w w' := ⟨h.os, h.tape, h.output, h.size, fun k hk => h.block k hk (by simp)⟩
theorem grow_set (w : World) (p : Addr) (u : Value) : w.grownBy (w.setCell p u) (some p.block) :=
  ⟨rfl, rfl, rfl, by simp, fun k _ hk => Below.heap_setCell _ _ _ k (fun e => hk (by rw [e]))⟩
theorem Mp.step {k i : Nat} {cs : List Value} (h : Mp k i cs) (hl : i * 2 + 1 < cs.length) :
    Mp k (i + 1) ((cs.set (i * 2) (.string (mkt (k + i * 2)))).set (i * 2 + 1) (.bool ((((k + i * 2 : Nat) : Int) + 1) % 3 == 0))) := by
  intro j hj
  rcases Nat.lt_or_ge j i with h1 | h1
  · have := h j h1
    rw [List.getElem?_set_ne (by omega), List.getElem?_set_ne (by omega), List.getElem?_set_ne (by omega), List.getElem?_set_ne (by omega)]
    exact this
  · obtain rfl : j = i := by omega
    rw [List.getElem?_set_ne (by omega), List.getElem?_set_self (by omega), List.getElem?_set_self (by simp; omega)]
    exact ⟨rfl, rfl⟩
theorem grow1 {w wr w2 : World} {g a n cap : Nat} (u : Value) (h : w.grownBy wr (Value.slice (some ⟨g, 0, none⟩) n cap).ownBlock) (hb : Below wr.heap.size wr w2) : w.grownBy (w2.setCell ⟨g, a, none⟩ u) (Value.slice (some ⟨g, 0, none⟩) n cap).ownBlock :=
  (World.grownBy.trans h (grow_below _ hb)).trans (grow_set _ _ _)
/-- what is owned lies on where all that lay lies on -/
theorem owns_keep {w w' : World} {base : Nat} {e : TypeId} {size : Nat} {v : Value} {n : Nat} {xs : List Value} (h : w.ownsRow base e size v n xs) (hb : Below w.heap.size w w') : w'.ownsRow base e size v n xs :=
  h.kept (grow_below none hb) (by cases v.ownBlock <;> simp)
/-- a slice that is read lies on where another's own block turned -/
theorem Rs.other {w w' : World} {ao : Option Addr} {n B : Nat} {xs : List Value} {row : Option Nat} (h : Rs w ao n xs) (hB : n = 0 ∨ ∃ a, ao = some a ∧ a.block < B) (hg : w.grownBy w' row) (hr : ∀ k, row = some k → B ≤ k) : Rs w' ao n xs := by
  rcases h.ex with h | ⟨g, h1, h2, h3⟩
  · exact ⟨.inl h⟩
  rcases hB with h | ⟨a, ha, hlt⟩
  · exact ⟨.inl h⟩
  · subst h1
    obtain rfl : (⟨g, 0, none⟩ : Addr) = a := by simpa using ha
    have hb : w'.heap[g]? = w.heap[g]? := hg.block g h2 (fun e => by have := hr g e.symm; simp at hlt; omega)
    exact ⟨.inr ⟨g, rfl, Nat.lt_of_lt_of_le h2 hg.size, fun j hj => (World.cell?_of_block (w := w) (a := ⟨g, j, none⟩) hb).trans (h3 j hj)⟩⟩
theorem Rs.lt {w : World} {ao : Option Addr} {n : Nat} {xs : List Value} (h : Rs w ao n xs) : n = 0 ∨ ∃ a, ao = some a ∧ a.block < w.heap.size := by
  rcases h.ex with h | ⟨g, h1, h2, h3⟩
  · exact .inl h
  · exact .inr ⟨_, h1, h2⟩
theorem owns_rs {w : World} {base : Nat} {e : TypeId} {size : Nat} {ao : Option Addr} {n cap : Nat} {xs : List Value} (h : w.ownsRow base e size (.slice ao n cap) n xs) : Rs w ao n xs := by
  obtain ⟨_, _, e, _, _, hr⟩ := rs_of_owns h
  cases e
  exact hr
theorem rows_lt {v v' : Value} {B : Nat} (h : ∀ k, v.ownBlock = some k → k < B) (h' : ∀ k, v'.ownBlock = some k → B ≤ k) : v.ownBlock = none ∨ v.ownBlock ≠ v'.ownBlock := by
  cases e : v.ownBlock with
  | none => exact .inl rfl
  | some k =>
    refine .inr fun e2 => ?_
    have := h k e
    have := h' k e2.symm
    omega
end Go.Proofs.Ytfjedpnagnnobaa.mk

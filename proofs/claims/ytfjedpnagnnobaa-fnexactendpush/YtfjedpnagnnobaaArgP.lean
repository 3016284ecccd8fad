/-
  AN ARGUMENT THAT IS A SLICE OF PARTS: its size, and its copy.
-/
import Derived.Test.YtfjedpnagnnobaaCutA
import Derived.Laws.ResultCell
namespace Go.Proofs.Ytfjedpnagnnobaa.mk
open Go.RowKit
set_option linter.unusedVariables false

/-- a slice of parts that came in -/
structure Ap (w : World) (ao : Option Addr) (xs : List (ByteArray × Bool)) : Prop where
  ex : xs.length = 0 ∨ ∃ g o, ao = some ⟨g, o, none⟩ ∧ ∀ i (h : i < xs.length), w.cell? ⟨g, o + i * 2, none⟩ = some (.string xs[i].1) ∧ w.cell? ⟨g, o + i * 2 + 1, none⟩ = some (.bool xs[i].2)
theorem cell_lt {w : World} {a : Addr} {v : Value} (h : w.cell? a = some v) : a.block < w.heap.size := by
  rcases Nat.lt_or_ge a.block w.heap.size with hl | hl
  · exact hl
  · have : w.heap[a.block]? = none := Array.getElem?_eq_none hl
    simp [World.cell?, this] at h
theorem cell_keep {w w' : World} {a : Addr} {v : Value} (h : w.cell? a = some v) (hb : Below w.heap.size w w') : w'.cell? a = some v := (hb.cell (cell_lt h)).trans h
theorem Ap.keep {w w' : World} {ao : Option Addr} {xs : List (ByteArray × Bool)} (h : Ap w ao xs) (hb : Below w.heap.size w w') : Ap w' ao xs := by
  rcases h.ex with h | ⟨g, o, h1, h2⟩
  · exact ⟨.inl h⟩
  · exact ⟨.inr ⟨g, o, h1, fun i hi => ⟨cell_keep (h2 i hi).1 hb, cell_keep (h2 i hi).2 hb⟩⟩⟩
theorem szPart_any (s : ByteArray) (b : Bool) (z : Int) (w : World) (hs : s.size ≤ maxLen) (hz : 0 ≤ z ∧ z ≤ 1048576) :
    Calls Try.prog 90 #[.agg #[.string s, .bool b], .int .i64 z] w fun e w' => e = .returned (.int .i64 (if z < s.size then -1 else z - s.size)) ∧ Below w.heap.size w w' := by
  have hs' : (s.size : Int) ≤ 9223372036854775807 := by unfold maxLen at hs; omega
  by_cases h : z < s.size
  · rw [if_pos h]
    go_enter Try.func90, Try.ntmps90
    go_wp2
    go_ret
    exact ⟨rfl, (Below.refl _ _).alloc (Nat.le_refl _) _⟩
  · rw [if_neg h]
    go_enter Try.func90, Try.ntmps90
    go_wp2
    go_ret
    exact ⟨rfl, (Below.refl _ _).alloc (Nat.le_refl _) _⟩
theorem toPart_any (s : ByteArray) (b : Bool) (w : World) :
    Calls Try.prog 91 #[.agg #[.string s, .bool b]] w fun e w' => e = .returned (.agg #[.string s, .bool b]) ∧ Below w.heap.size w w' := by
  go_enter Try.func91, Try.ntmps91
  go_wp2
  exact bodyPost_ret (v := .agg #[.string s, .bool b]) (by simp [results, Try.results91, go_sem]) rfl
    ⟨rfl, (((Below.refl _ _).alloc (Nat.le_refl _) _).alloc (by simp) _).alloc (by simp; omega) _⟩
/-- the first k parts have been laid -/
def Tp (xs : List (ByteArray × Bool)) (k : Nat) (cs : List Value) : Prop := ∀ i (h : i < xs.length), i < k → cs[i * 2]? = some (.string xs[i].1) ∧ cs[i * 2 + 1]? = some (.bool xs[i].2)
theorem Tp.step {xs : List (ByteArray × Bool)} {k : Nat} {cs : List Value} (h : Tp xs k cs) (hk : k < xs.length) (hl : k * 2 + 1 < cs.length) :
    Tp xs (k + 1) ((cs.set (k * 2) (.string xs[k].1)).set (k * 2 + 1) (.bool xs[k].2)) := by
  intro j hj hj2
  rcases Nat.lt_or_ge j k with h1 | h1
  · rw [List.getElem?_set_ne (by omega), List.getElem?_set_ne (by omega), List.getElem?_set_ne (by omega), List.getElem?_set_ne (by omega)]
    exact h j hj h1
  · obtain rfl : j = k := by omega
    rw [List.getElem?_set_ne (by omega), List.getElem?_set_self (by omega), List.getElem?_set_self (by simp; omega)]
    exact ⟨rfl, rfl⟩
theorem Tp.all {xs : List (ByteArray × Bool)} {cs : List Value} (h : Tp xs xs.length cs) (hl : cs.length = xs.length * 2) : cs = ps xs := by
  apply List.ext_getElem?
  intro j
  rcases Nat.lt_or_ge j (xs.length * 2) with hj | hj
  · have hi : j / 2 < xs.length := by omega
    have a := h (j / 2) hi hi
    have b := ps_at xs (j / 2) hi
    rcases (show j = j / 2 * 2 ∨ j = j / 2 * 2 + 1 by omega) with e | e
    · rw [e, a.1, b.1]
    · rw [e, a.2, b.2]
  · rw [List.getElem?_eq_none (by omega), List.getElem?_eq_none (by rw [ps_length]; omega)]
end Go.Proofs.Ytfjedpnagnnobaa.mk

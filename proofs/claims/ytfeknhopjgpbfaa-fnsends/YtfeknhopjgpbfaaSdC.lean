/-
  DRAWN SENDS: an item's has or text is turned; the Base alone.
-/
import Derived.Test.YtfeknhopjgpbfaaSdB
namespace Go.Proofs.Ytfeknhopjgpbfaa.draw
open Go.RowKit mk
set_option linter.unusedVariables false

theorem is_has (xs : List It) (k : Nat) (h : k < xs.length) (n : Bool) : (is xs).set (k * 4 + 2) (.bool n) = is (xs.set k ⟨xs[k].text, xs[k].last, n, xs[k].since⟩) := by
  apply List.ext_getElem?
  intro j
  have hl := is_length xs
  have hl2 := is_length (xs.set k ⟨xs[k].text, xs[k].last, n, xs[k].since⟩)
  rw [List.length_set] at hl2
  rcases Nat.lt_or_ge j (xs.length * 4) with hj | hj
  · obtain ⟨m, r, hr, rfl⟩ : ∃ m r, r < 4 ∧ j = m * 4 + r := ⟨j / 4, j % 4, by omega, by omega⟩
    have hi : m < xs.length := by omega
    have hi2 : m < (xs.set k ⟨xs[k].text, xs[k].last, n, xs[k].since⟩).length := by rw [List.length_set]; exact hi
    obtain ⟨a0, a1, a2, a3⟩ := is_at xs m hi
    obtain ⟨b0, b1, b2, b3⟩ := is_at (xs.set k ⟨xs[k].text, xs[k].last, n, xs[k].since⟩) m hi2
    by_cases ek : m = k
    · subst ek
      rw [List.getElem_set_self] at b0 b1 b2 b3
      rcases (show r = 0 ∨ r = 1 ∨ r = 2 ∨ r = 3 by omega) with rfl | rfl | rfl | rfl
      · rw [List.getElem?_set_ne (by omega), Nat.add_zero, a0, b0]
      · rw [List.getElem?_set_ne (by omega), a1, b1]
      · rw [List.getElem?_set_self (by omega), b2]
      · rw [List.getElem?_set_ne (by omega), a3, b3]
    · rw [List.getElem_set_ne (by omega)] at b0 b1 b2 b3
      rw [List.getElem?_set_ne (by omega)]
      rcases (show r = 0 ∨ r = 1 ∨ r = 2 ∨ r = 3 by omega) with rfl | rfl | rfl | rfl
      · rw [Nat.add_zero, a0, b0]
      · rw [a1, b1]
      · rw [a2, b2]
      · rw [a3, b3]
  · rw [List.getElem?_eq_none (by rw [List.length_set]; omega), List.getElem?_eq_none (by omega)]
theorem is_text (xs : List It) (k : Nat) (h : k < xs.length) (n : ByteArray) : (is xs).set (k * 4) (.string n) = is (xs.set k ⟨n, xs[k].last, xs[k].has, xs[k].since⟩) := by
  apply List.ext_getElem?
  intro j
  have hl := is_length xs
  have hl2 := is_length (xs.set k ⟨n, xs[k].last, xs[k].has, xs[k].since⟩)
  rw [List.length_set] at hl2
  rcases Nat.lt_or_ge j (xs.length * 4) with hj | hj
  · obtain ⟨m, r, hr, rfl⟩ : ∃ m r, r < 4 ∧ j = m * 4 + r := ⟨j / 4, j % 4, by omega, by omega⟩
    have hi : m < xs.length := by omega
    have hi2 : m < (xs.set k ⟨n, xs[k].last, xs[k].has, xs[k].since⟩).length := by rw [List.length_set]; exact hi
    obtain ⟨a0, a1, a2, a3⟩ := is_at xs m hi
    obtain ⟨b0, b1, b2, b3⟩ := is_at (xs.set k ⟨n, xs[k].last, xs[k].has, xs[k].since⟩) m hi2
    by_cases ek : m = k
    · subst ek
      rw [List.getElem_set_self] at b0 b1 b2 b3
      rcases (show r = 0 ∨ r = 1 ∨ r = 2 ∨ r = 3 by omega) with rfl | rfl | rfl | rfl
      · rw [Nat.add_zero, List.getElem?_set_self (by omega), b0]
      · rw [List.getElem?_set_ne (by omega), a1, b1]
      · rw [List.getElem?_set_ne (by omega), a2, b2]
      · rw [List.getElem?_set_ne (by omega), a3, b3]
    · rw [List.getElem_set_ne (by omega)] at b0 b1 b2 b3
      rw [List.getElem?_set_ne (by omega)]
      rcases (show r = 0 ∨ r = 1 ∨ r = 2 ∨ r = 3 by omega) with rfl | rfl | rfl | rfl
      · rw [Nat.add_zero, a0, b0]
      · rw [a1, b1]
      · rw [a2, b2]
      · rw [a3, b3]
  · rw [List.getElem?_eq_none (by rw [List.length_set]; omega), List.getElem?_eq_none (by omega)]
theorem S4.base {B R y : Nat} {k : Int} {w0 w : World} {b : Int} {ao : Option Addr} {cap : Nat} {xs : List It} (h : S4 B R y k w0 w b ao cap xs) (b' : Int) : S4 B R y k w0 (w.setCell ⟨y, 0, none⟩ (.int .i64 b')) b' ao cap xs := by
  have hl := h.lt
  have hx := h.bx.put 0 (.int .i64 b')
  simp only [List.setIfInBounds_toArray, List.set_cons_zero] at hx
  have n1 : (Value.slice ao xs.length cap).ownBlock ≠ some y := fun e => h.bx.ne (by decide) h.row e.symm
  exact ⟨rd_far h.rd 0 _ (by omega), h.but.setCell (p := ⟨y, 0, none⟩) (.inr hl.2.2.1) _, hl, hx, h.res.other ⟨y, 0, none⟩ hl.2.2.2 _, ownsRow_setCell_other h.row (a := ⟨y, 0, none⟩) n1 _⟩
theorem S4.some {B R y : Nat} {k : Int} {w0 w : World} {b : Int} {ao : Option Addr} {cap : Nat} {xs : List It} (h : S4 B R y k w0 w b ao cap xs) (hp : 0 < xs.length) : ∃ g, ao = .some ⟨g, 0, none⟩ := by
  rcases h.row.2 with ⟨e, h0⟩ | ⟨g, c, cur, e, _⟩
  · omega
  · injection e with e1 _ _
    exact ⟨g, e1⟩
theorem wl_set {b : Int} {xs : List It} (h : Wl b xs) (i : Nat) (x : It) (hx : x.text.size ≤ 50) : Wl b (xs.set i x) :=
  ⟨h.1, h.2.1, by rw [List.length_set]; exact h.2.2.1, fun j hj => by
    rw [List.length_set] at hj
    by_cases e : i = j
    · subst e; rw [List.getElem_set_self]; exact hx
    · rw [List.getElem_set_ne e]; exact h.2.2.2 j hj⟩
theorem S4.row_cells {B R y g : Nat} {k : Int} {w0 w : World} {b : Int} {cap : Nat} {xs : List It} (h : S4 B R y k w0 w b (.some ⟨g, 0, none⟩) cap xs) (i : Nat) (hi : i < xs.length) :
    w.cell? ⟨g, i * 4, none⟩ = .some (.string xs[i].text) ∧ w.cell? ⟨g, i * 4 + 2, none⟩ = .some (.bool xs[i].has) ∧ w.cell? ⟨g, i * 4 + 3, none⟩ = .some (.int .i64 xs[i].since) ∧ w.frozen? ⟨g, i * 4, none⟩ = false ∧ w.frozen? ⟨g, i * 4 + 2, none⟩ = false ∧ w.frozen? ⟨g, i * 4 + 3, none⟩ = false ∧ ¬ g = y ∧ ¬ g = R ∧ g < w.heap.size := by
  obtain ⟨c0, c1, c2, c3⟩ := is_at xs i hi
  exact ⟨(h.row.cellAt (i * 4) (by omega)).trans c0, (h.row.cellAt (i * 4 + 2) (by omega)).trans c2, (h.row.cellAt (i * 4 + 3) (by omega)).trans c3, h.row.frozenAt _, h.row.frozenAt _, h.row.frozenAt _, fun e => h.bx.ne (by decide) h.row (by rw [← e]; rfl), fun e => h.res.ne (by decide) h.row (by rw [← e]; rfl), (h.row.lt g rfl).2⟩
end Go.Proofs.Ytfeknhopjgpbfaa.draw

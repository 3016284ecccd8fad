/-
  DRAWN SENDS: an item is appended to a Send in the making.
-/
import Derived.Test.YtfeknhopjgpbfaaSdA
import Derived.Deep.LoopGhost
namespace Go.Proofs.Ytfeknhopjgpbfaa.draw
open Go.RowKit mk
set_option linter.unusedVariables false

theorem rd_low {B N : Nat} {k : Int} {w w' : World} (h : Rd B k w) (hb : Below N w w') (hB : B < N) : Rd B k w' := by
  obtain ⟨v, len, cap, b0, b1, b2⟩ := h.buf
  refine ⟨Nat.lt_of_lt_of_le h.lt hb.size, (hb.frozen (p := ⟨B, 1, none⟩) hB).trans h.frozen, (hb.cell (p := ⟨B, 1, none⟩) hB).trans h.pos, h.nonneg, v, len, cap, (hb.cell (p := ⟨B, 0, none⟩) hB).trans b0, b1, ?_⟩
  rcases b2 with b2 | ⟨C, o, b3, b4, b5, b6⟩
  · exact .inl b2
  · exact .inr ⟨C, o, b3, b4, Nat.lt_of_lt_of_le b5 hb.size, fun i hi => by obtain ⟨c, c0, c1⟩ := b6 i hi; exact ⟨c, (hb.cell (p := ⟨C, o + i, none⟩) (show C < N by omega)).trans c0, c1⟩⟩
theorem but_low {B N : Nat} {a w w' : World} (h : But B a w) (hb : Below N w w') (hN : a.heap.size ≤ N) : But B a w' :=
  ⟨hb.os.trans h.os, hb.tape.trans h.tape, hb.output.trans h.output, Nat.le_trans h.size hb.size, fun k hk hn => (hb.block k (by omega)).trans (h.block k hk hn)⟩
theorem S4.own_low {B R y : Nat} {k : Int} {w0 w : World} {b : Int} {ao : Option Addr} {cap : Nat} {xs : List It} (h : S4 B R y k w0 w b ao cap xs) {w' : World} (hg : w.grownBy w' (Value.slice ao xs.length cap).ownBlock) : Below w0.heap.size w w' :=
  (Below.refl w0.heap.size w).grown hg h.but.size (fun q hq => (h.row.lt q hq).1)
theorem S4.app_cells {B R y : Nat} {k : Int} {w0 w : World} {b : Int} {ao : Option Addr} {cap : Nat} {xs : List It} (h : S4 B R y k w0 w b ao cap xs) {w' : World} (hg : w.grownBy w' (Value.slice ao xs.length cap).ownBlock) : w'.cell? ⟨y, 1, none⟩ = some (.slice ao xs.length cap) ∧ w'.frozen? ⟨y, 1, none⟩ = false := by
  have hx := h.bx.kept hg (h.bx.ne (by decide) h.row)
  exact ⟨hx.cell 1, hx.frozen 1⟩
theorem S4.append {B R y : Nat} {k : Int} {w0 w : World} {b : Int} {ao : Option Addr} {cap : Nat} {xs : List It} (h : S4 B R y k w0 w b ao cap xs) {w' : World} (hg : w.grownBy w' (Value.slice ao xs.length cap).ownBlock) {a' : Option Addr} {c' : Nat} {zs : List It} (ho : w'.ownsRow w0.heap.size 37 4 (.slice a' zs.length c') zs.length (is zs)) :
    S4 B R y k w0 (w'.setCell ⟨y, 1, none⟩ (.slice a' zs.length c')) b a' c' zs := by
  have hl := h.lt
  have hb := h.own_low hg
  have hx := (h.bx.kept hg (h.bx.ne (by decide) h.row))
  have hr := (h.res.kept hg (h.res.ne (by decide) h.row))
  have n1 : (Value.slice a' zs.length c').ownBlock ≠ some y := fun e => hx.ne (by decide) ho e.symm
  have hx2 := hx.put 1 (.slice a' zs.length c')
  simp only [List.setIfInBounds_toArray, List.set_cons_zero, List.set_cons_succ] at hx2
  exact ⟨rd_far (rd_low h.rd hb hl.1) 1 _ (by omega), (but_low h.but hb (Nat.le_refl _)).setCell (p := ⟨y, 1, none⟩) (.inr hl.2.2.1) _, hl, hx2, hr.other ⟨y, 1, none⟩ hl.2.2.2 _, ownsRow_setCell_other ho (a := ⟨y, 1, none⟩) n1 _⟩
/-- one cell of the row is stored -/
theorem S4.cell {B R y : Nat} {k : Int} {w0 w : World} {b : Int} {ao : Option Addr} {cap : Nat} {xs : List It} {g : Nat} (h : S4 B R y k w0 w b (some ⟨g, 0, none⟩) cap xs) (j : Nat) (u : Value) (zs : List It) (hz : (is xs).set j u = is zs) (hl : zs.length = xs.length) :
    S4 B R y k w0 (w.setCell ⟨g, j, none⟩ u) b (some ⟨g, 0, none⟩) cap zs := by
  have ht := h.lt
  have hg := (h.row.lt g rfl).1
  have ny : y ≠ g := fun e => h.bx.ne (by decide) h.row (by rw [e]; rfl)
  have nR : R ≠ g := fun e => h.res.ne (by decide) h.row (by rw [e]; rfl)
  have ho := (h.row.stored j u).1
  rw [hz] at ho
  rw [← hl] at ho
  have hx := h.bx.other ⟨g, j, none⟩ ny u
  rw [← hl] at hx
  exact ⟨rd_far h.rd j _ (by omega), h.but.setCell (p := ⟨g, j, none⟩) (.inr hg) _, ht, hx, h.res.other ⟨g, j, none⟩ nR _, ho⟩
theorem wk_app {b : Int} {xs : List It} (h : Wk b xs) (x : It) (hx : x.text.size ≤ 20) (hl : xs.length < 60) : Wk b (xs ++ [x]) :=
  ⟨h.1, h.2.1, by simp; omega, fun i hi => by
    by_cases hi2 : i < xs.length
    · rw [List.getElem_append_left hi2]; exact h.2.2.2 i hi2
    · rw [List.getElem_append_right (by omega)]; simpa using hx⟩
theorem wl_app {b : Int} {xs : List It} (h : Wl b xs) (x : It) (hx : x.text.size ≤ 20) (hl : xs.length < 61) : Wl b (xs ++ [x]) :=
  ⟨h.1, h.2.1, by simp; omega, fun i hi => by
    by_cases hi2 : i < xs.length
    · rw [List.getElem_append_left hi2]; exact h.2.2.2 i hi2
    · rw [List.getElem_append_right (by omega)]; simp; omega⟩
end Go.Proofs.Ytfeknhopjgpbfaa.draw

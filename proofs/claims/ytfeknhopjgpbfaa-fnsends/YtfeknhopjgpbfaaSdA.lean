/-
  DRAWN SENDS: a Send in the making.
-/
import Derived.Test.YtfeknhopjgpbfaaSdP
import Derived.Test.YtfeknhopjgpbfaaDrawC
import Derived.Deep.RegionWith
import Derived.BigRegion
namespace Go.Proofs.Ytfeknhopjgpbfaa.draw
open Go.RowKit mk
set_option linter.unusedVariables false

theorem bx_but {D : Nat} {w w' : World} {B : Nat} {t : TypeId} {cs : Array Value} (h : Bx w B t cs) (hb : But D w w') (hn : B ≠ D) : Bx w' B t cs := (hb.block B h.lt hn).trans h
theorem owns_but {B : Nat} {w w' : World} {base : Nat} {e : TypeId} {size : Nat} {v : Value} {n : Nat} {xs : List Value} (h : w.ownsRow base e size v n xs) (hb : But B w w') (hB : B < base) : w'.ownsRow base e size v n xs := by
  refine ⟨h.1, ?_⟩
  rcases h.2 with h0 | ⟨g, cap, cur, e1, hg, hgb, h2⟩
  · exact .inl h0
  · exact .inr ⟨g, cap, cur, e1, hg, (hb.block g (Array.getElem?_eq_some_iff.1 hgb).1 (by omega)).trans hgb, h2⟩
theorem rd_far {B : Nat} {k : Int} {w : World} {y : Nat} (h : Rd B k w) (j : Nat) (v : Value) (hn : B < y) : Rd B k (w.setCell ⟨y, j, none⟩ v) := by
  have hne : y ≠ B := by omega
  have q : ∀ (C m : Nat), C ≠ y → (w.setCell ⟨y, j, none⟩ v).cell? ⟨C, m, none⟩ = w.cell? ⟨C, m, none⟩ := fun C m hC => World.cell?_setCell_far w ⟨y, j, none⟩ ⟨C, m, none⟩ v (fun e => hC e.symm)
  obtain ⟨v', len, cap, b0, b1, b2⟩ := h.buf
  refine ⟨by simpa using h.lt, ?_, ?_, h.nonneg, v', len, cap, ?_, b1, ?_⟩
  · rw [World.frozen?_setCell]; exact h.frozen
  · rw [q _ _ (by omega)]; exact h.pos
  · rw [q _ _ (by omega)]; exact b0
  · rcases b2 with b2 | ⟨C, o, b3, b4, b5, b6⟩
    · exact .inl b2
    · exact .inr ⟨C, o, b3, b4, by simpa using b5, fun i hi => by rw [q _ _ (by omega)]; exact b6 i hi⟩
/-- a Send in the making at y, the answer's block R, the reader B -/
structure S4 (B R y : Nat) (k : Int) (w0 w : World) (b : Int) (ao : Option Addr) (cap : Nat) (xs : List It) : Prop where
  rd : Rd B k w
  but : But B w0 w
  lt : B < w0.heap.size ∧ w0.heap.size ≤ R ∧ w0.heap.size ≤ y ∧ R ≠ y
  bx : Bx w y 25 #[.int .i64 b, .slice ao xs.length cap]
  res : Bx w R 25 #[.int .i64 0, .slice none 0 0]
  row : w.ownsRow w0.heap.size 37 4 (.slice ao xs.length cap) xs.length (is xs)
theorem S4.turn {B R y : Nat} {k : Int} {w0 w : World} {b : Int} {ao : Option Addr} {cap : Nat} {xs : List It} {k' : Int} {w' : World} (h : S4 B R y k w0 w b ao cap xs) (hb : But B w w') (hr : Rd B k' w') : S4 B R y k' w0 w' b ao cap xs := by
  have := h.lt
  exact ⟨hr, h.but.trans hb, h.lt, bx_but h.bx hb (by omega), bx_but h.res hb (by omega), owns_but h.row hb h.lt.1⟩
theorem S4.keep {B R y : Nat} {k : Int} {w0 w : World} {b : Int} {ao : Option Addr} {cap : Nat} {xs : List It} {w' : World} (h : S4 B R y k w0 w b ao cap xs) (hb : Below w.heap.size w w') : S4 B R y k w0 w' b ao cap xs := h.turn (But.ofBelow hb) (h.rd.keep hb)
theorem S4.alloc {B R y : Nat} {k : Int} {w0 w : World} {b : Int} {ao : Option Addr} {cap : Nat} {xs : List It} (h : S4 B R y k w0 w b ao cap xs) (o : Obj) : S4 B R y k w0 (w.alloc o) b ao cap xs := h.turn ((But.refl _ _).alloc o) (h.rd.made o)
theorem S4.drew {B R y : Nat} {k : Int} {w0 w : World} {b : Int} {ao : Option Addr} {cap : Nat} {xs : List It} (h : S4 B R y k w0 w b ao cap xs) : S4 B R y k w0 w.drew b ao cap xs := h.keep (Below.refl _ _).drew
theorem S4.rs {B R y : Nat} {k : Int} {w0 w : World} {b : Int} {ao : Option Addr} {cap : Nat} {xs : List It} (h : S4 B R y k w0 w b ao cap xs) : Rs w ao xs.length (is xs) := by
  obtain ⟨ao', cap', e, _, _, hr⟩ := rs_of_owns h.row
  cases e
  exact hr
theorem S4.nil {B R y : Nat} {k : Int} {w0 w : World} {b : Int} {ao : Option Addr} {cap : Nat} {xs : List It} (h : S4 B R y k w0 w b ao cap xs) : ao = none → xs.length = 0 ∧ cap = 0 := by
  rintro rfl
  rcases h.row.2 with ⟨e, h0⟩ | ⟨g, cap', cur, e, _⟩
  · injection e with _ e2 e3
    exact ⟨e2, e3⟩
  · cases e
theorem S4.cells {B R y : Nat} {k : Int} {w0 w : World} {b : Int} {ao : Option Addr} {cap : Nat} {xs : List It} (h : S4 B R y k w0 w b ao cap xs) : w.cell? ⟨y, 0, none⟩ = some (.int .i64 b) ∧ w.cell? ⟨y, 1, none⟩ = some (.slice ao xs.length cap) ∧ w.frozen? ⟨y, 0, none⟩ = false ∧ w.frozen? ⟨y, 1, none⟩ = false ∧ w.cell? ⟨R, 0, none⟩ = some (.int .i64 0) ∧ w.cell? ⟨R, 1, none⟩ = some (.slice none 0 0) ∧ w.frozen? ⟨R, 0, none⟩ = false ∧ w.frozen? ⟨R, 1, none⟩ = false :=
  ⟨h.bx.cell 0, h.bx.cell 1, h.bx.frozen 0, h.bx.frozen 1, h.res.cell 0, h.res.cell 1, h.res.frozen 0, h.res.frozen 1⟩
/-- another Send is stored at y -/
theorem S4.store {B R y : Nat} {k : Int} {w0 w : World} {b : Int} {ao : Option Addr} {cap : Nat} {xs : List It} (h : S4 B R y k w0 w b ao cap xs) (b' : Int) (a1 : Option Addr) (c1 : Nat) (ys : List It) (hrow : w.ownsRow w0.heap.size 37 4 (.slice a1 ys.length c1) ys.length (is ys)) :
    S4 B R y k w0 ((w.setCell ⟨y, 0, none⟩ (.int .i64 b')).setCell ⟨y, 1, none⟩ (.slice a1 ys.length c1)) b' a1 c1 ys := by
  have hl := h.lt
  have hx := (h.bx.put 0 (.int .i64 b')).put 1 (.slice a1 ys.length c1)
  simp only [List.setIfInBounds_toArray, List.set_cons_zero, List.set_cons_succ] at hx
  have n1 : (Value.slice a1 ys.length c1).ownBlock ≠ some y := fun e => h.bx.ne (by decide) hrow e.symm
  exact ⟨rd_far (rd_far h.rd 0 _ (by omega)) 1 _ (by omega), (h.but.setCell (p := ⟨y, 0, none⟩) (.inr hl.2.2.1) _).setCell (p := ⟨y, 1, none⟩) (.inr hl.2.2.1) _, hl, hx,
    (h.res.other ⟨y, 0, none⟩ hl.2.2.2 _).other ⟨y, 1, none⟩ hl.2.2.2 _, ownsRow_setCell_other (ownsRow_setCell_other hrow (a := ⟨y, 0, none⟩) n1 _) (a := ⟨y, 1, none⟩) n1 _⟩
/-- a fresh row is owned from the start on -/
theorem S4.fresh {B R y : Nat} {k : Int} {w0 w : World} {b : Int} {ao : Option Addr} {cap : Nat} {xs : List It} (h : S4 B R y k w0 w b ao cap xs) {w' : World} {v : Value} {n : Nat} {vs : List Value} (ho : w'.ownsRow w.heap.size 37 4 v n vs) : w'.ownsRow w0.heap.size 37 4 v n vs := owns_mono ho h.but.size
/-- the answer is stored -/
theorem S4.fin {B R y : Nat} {k : Int} {w0 w : World} {b : Int} {ao : Option Addr} {cap : Nat} {xs : List It} (h : S4 B R y k w0 w b ao cap xs) (c0 c1 : Value) {n : Nat} {vs : List Value} {v : Value} (ho : w.ownsRow w0.heap.size 37 4 v n vs) :
    Rd B k ((w.setCell ⟨R, 0, none⟩ c0).setCell ⟨R, 1, none⟩ c1) ∧ But B w0 ((w.setCell ⟨R, 0, none⟩ c0).setCell ⟨R, 1, none⟩ c1) ∧ ((w.setCell ⟨R, 0, none⟩ c0).setCell ⟨R, 1, none⟩ c1).ownsRow w0.heap.size 37 4 v n vs := by
  have hl := h.lt
  have n1 : v.ownBlock ≠ some R := fun e => h.res.ne (by decide) ho e.symm
  exact ⟨rd_far (rd_far h.rd 0 _ (by omega)) 1 _ (by omega), (h.but.setCell (p := ⟨R, 0, none⟩) (.inr hl.2.1) _).setCell (p := ⟨R, 1, none⟩) (.inr hl.2.1) _, ownsRow_setCell_other (ownsRow_setCell_other ho (a := ⟨R, 0, none⟩) n1 _) (a := ⟨R, 1, none⟩) n1 _⟩
/-- another Send is stored at z -/
theorem S4.side {B R y : Nat} {k : Int} {w0 w : World} {b : Int} {ao : Option Addr} {cap : Nat} {xs : List It} (h : S4 B R y k w0 w b ao cap xs) {z : Nat} {cs : Array Value} (hz : Bx w z 25 cs) (hc : cs.size = 2) (hge : w0.heap.size ≤ z) (hny : ¬ z = y) (hnR : ¬ z = R) (b' : Int) (a1 : Option Addr) (c1 : Nat) (ys : List It) (hrow : w.ownsRow w0.heap.size 37 4 (.slice a1 ys.length c1) ys.length (is ys)) :
    S4 B R y k w0 ((w.setCell ⟨z, 0, none⟩ (.int .i64 b')).setCell ⟨z, 1, none⟩ (.slice a1 ys.length c1)) b ao cap xs ∧ Bx ((w.setCell ⟨z, 0, none⟩ (.int .i64 b')).setCell ⟨z, 1, none⟩ (.slice a1 ys.length c1)) z 25 #[.int .i64 b', .slice a1 ys.length c1] ∧ ((w.setCell ⟨z, 0, none⟩ (.int .i64 b')).setCell ⟨z, 1, none⟩ (.slice a1 ys.length c1)).ownsRow w0.heap.size 37 4 (.slice a1 ys.length c1) ys.length (is ys) := by
  have hl := h.lt
  have hx := (hz.put 0 (.int .i64 b')).put 1 (.slice a1 ys.length c1)
  have ec : (cs.setIfInBounds 0 (.int .i64 b')).setIfInBounds 1 (.slice a1 ys.length c1) = #[.int .i64 b', .slice a1 ys.length c1] := by
    obtain ⟨l⟩ := cs
    match l, hc with
    | [c0, c1], _ => simp
  rw [ec] at hx
  have n1 : (Value.slice a1 ys.length c1).ownBlock ≠ some z := fun e => hz.ne (by decide) hrow e.symm
  have n2 : (Value.slice ao xs.length cap).ownBlock ≠ some z := fun e => hz.ne (by decide) h.row e.symm
  exact ⟨⟨rd_far (rd_far h.rd 0 _ (by omega)) 1 _ (by omega), (h.but.setCell (p := ⟨z, 0, none⟩) (.inr hge) _).setCell (p := ⟨z, 1, none⟩) (.inr hge) _, hl, (h.bx.other ⟨z, 0, none⟩ (Ne.symm hny) _).other ⟨z, 1, none⟩ (Ne.symm hny) _,
    (h.res.other ⟨z, 0, none⟩ (Ne.symm hnR) _).other ⟨z, 1, none⟩ (Ne.symm hnR) _, ownsRow_setCell_other (ownsRow_setCell_other h.row (a := ⟨z, 0, none⟩) n2 _) (a := ⟨z, 1, none⟩) n2 _⟩, hx, ownsRow_setCell_other (ownsRow_setCell_other hrow (a := ⟨z, 0, none⟩) n1 _) (a := ⟨z, 1, none⟩) n1 _⟩
/-- what a drawing of a Send gives -/
def SPost (W : Int → List It → Prop) (B : Nat) (k : Int) (m : Int) (w : World) (e : Ending) (w' : World) : Prop :=
  (∃ (b : Int) (ao : Option Addr) (cap : Nat) (xs : List It), e = .returned (.agg #[.int .i64 b, .slice ao xs.length cap]) ∧ W b xs ∧ w'.ownsRow w.heap.size 37 4 (.slice ao xs.length cap) xs.length (is xs)) ∧ (∃ k', Rd B k' w' ∧ k' ≤ k + m) ∧ But B w w'
end Go.Proofs.Ytfeknhopjgpbfaa.draw

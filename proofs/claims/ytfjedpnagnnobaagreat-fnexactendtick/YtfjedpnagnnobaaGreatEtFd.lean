/-
  A TICK of an end: what spec.EndTick keeps.
-/
import Derived.Test.YtfjedpnagnnobaaGreatEpA
import Derived.Test.YtfjedpnagnnobaaGreatEtC
import Derived.Test.YtfjedpnagnnobaaGreatEtE
namespace Go.Proofs.YtfjedpnagnnobaaGreat.mk
open Go.RowKit
set_option linter.unusedVariables false

structure EtI (w : World) (ts : TypeId) (X S R : Nat) (cx cs cz : Array Value) (vY : Value) (nY : Nat) (xY : List Value) (vQ : Value) (nQ : Nat) (xQ : List Value) (vH : Value) (nH : Nat) (xH : List Value) (vS : Value) (nS : Nat) (xS : List Value) (u : World) : Prop where
  x : Bx u X 39 cx
  s : Bx u S ts cs
  z : Bx u R 42 cz
  y : u.ownsRow w.heap.size 67 4 vY nY xY
  q : u.ownsRow w.heap.size 3 1 vQ nQ xQ
  h : u.ownsRow w.heap.size 95 3 vH nH xH
  t : u.ownsRow w.heap.size 9 1 vS nS xS
  b : Below w.heap.size w u
  n : ts ≠ 54
theorem EtI.keep {w : World} {ts : TypeId} {X S R : Nat} {cx cs cz : Array Value} {vY : Value} {nY : Nat} {xY : List Value} {vQ : Value} {nQ : Nat} {xQ : List Value} {vH : Value} {nH : Nat} {xH : List Value} {vS : Value} {nS : Nat} {xS : List Value} {u u' : World} (h : EtI w ts X S R cx cs cz vY nY xY vQ nQ xQ vH nH xH vS nS xS u) (hb : Below u.heap.size u u') : EtI w ts X S R cx cs cz vY nY xY vQ nQ xQ vH nH xH vS nS xS u' :=
  ⟨h.x.keep hb, h.s.keep hb, h.z.keep hb, owns_keep h.y hb, owns_keep h.q hb, owns_keep h.h hb, owns_keep h.t hb, kb h.b hb (Nat.le_refl _), h.n⟩
theorem EtI.grown {w : World} {ts : TypeId} {X S R : Nat} {cx cs cz : Array Value} {vY : Value} {nY : Nat} {xY : List Value} {vQ : Value} {nQ : Nat} {xQ : List Value} {vH : Value} {nH : Nat} {xH : List Value} {vS : Value} {nS : Nat} {xS : List Value} {u u' : World} {v : Value} {n : Nat} {ps : List Value} (h : EtI w ts X S R cx cs cz vY nY xY vQ nQ xQ vH nH xH vS nS xS u) (hp : u.ownsRow w.heap.size 54 9 v n ps) (hg : u.grownBy u' v.ownBlock) : EtI w ts X S R cx cs cz vY nY xY vQ nQ xQ vH nH xH vS nS xS u' :=
  ⟨h.x.kept hg (h.x.ne (by decide) hp), h.s.kept hg (h.s.ne h.n hp), h.z.kept hg (h.z.ne (by decide) hp), h.y.kept hg (rows_ne6 h.y hp (by decide)), h.q.kept hg (rows_ne6 h.q hp (by decide)), h.h.kept hg (rows_ne6 h.h hp (by decide)), h.t.kept hg (rows_ne6 h.t hp (by decide)), h.b.grown hg h.b.size (fun j hj => (hp.lt j hj).1), h.n⟩
theorem farc {u u' : World} {row : Option Nat} (hg : u.grownBy u' row) {p : Addr} {v : Value} (h : u.cell? p = some v) (hne : some p.block ≠ row) : u'.cell? p = some v := (hg.cell_far p (cell_lt h) hne).trans h
theorem ne_row {w : World} {b b' : Nat} {e e' : TypeId} {sz sz' n n' g l c : Nat} {v : Value} {xs xs' : List Value} (h : w.ownsRow b e sz (.slice (some ⟨g, 0, none⟩) l c) n xs) (h' : w.ownsRow b' e' sz' v n' xs') (hne : e ≠ e') : some g ≠ v.ownBlock := by
  rcases rows_ne6 h h' hne with q | q
  · simp [Value.ownBlock] at q
  · simpa [Value.ownBlock] using q
theorem own15o {w : World} {base n size : Nat} {e : TypeId} {v : Value} {xs : List Value} (h : w.ownsRow base e size v n xs) (B : Nat) (hB : v.ownBlock ≠ some B) (c0 c1 c2 c3 c4 c5 c6 c7 c8 c9 c10 c11 c12 c13 c14 : Value) :
    (((((((((((((((w.setCell ⟨B, 0, none⟩ c0).setCell ⟨B, 1, none⟩ c1).setCell ⟨B, 2, none⟩ c2).setCell ⟨B, 3, none⟩ c3).setCell ⟨B, 4, none⟩ c4).setCell ⟨B, 5, none⟩ c5).setCell ⟨B, 6, none⟩ c6).setCell ⟨B, 7, none⟩ c7).setCell ⟨B, 8, none⟩ c8).setCell ⟨B, 9, none⟩ c9).setCell ⟨B, 10, none⟩ c10).setCell ⟨B, 11, none⟩ c11).setCell ⟨B, 12, none⟩ c12).setCell ⟨B, 13, none⟩ c13).setCell ⟨B, 14, none⟩ c14).ownsRow base e size v n xs :=
  (ownsRow_setCell_other (ownsRow_setCell_other (ownsRow_setCell_other (ownsRow_setCell_other (ownsRow_setCell_other (ownsRow_setCell_other (ownsRow_setCell_other (ownsRow_setCell_other (ownsRow_setCell_other (ownsRow_setCell_other (ownsRow_setCell_other (ownsRow_setCell_other (ownsRow_setCell_other (ownsRow_setCell_other (ownsRow_setCell_other h (a := ⟨B, 0, none⟩) hB c0) (a := ⟨B, 1, none⟩) hB c1) (a := ⟨B, 2, none⟩) hB c2) (a := ⟨B, 3, none⟩) hB c3) (a := ⟨B, 4, none⟩) hB c4) (a := ⟨B, 5, none⟩) hB c5) (a := ⟨B, 6, none⟩) hB c6) (a := ⟨B, 7, none⟩) hB c7) (a := ⟨B, 8, none⟩) hB c8) (a := ⟨B, 9, none⟩) hB c9) (a := ⟨B, 10, none⟩) hB c10) (a := ⟨B, 11, none⟩) hB c11) (a := ⟨B, 12, none⟩) hB c12) (a := ⟨B, 13, none⟩) hB c13) (a := ⟨B, 14, none⟩) hB c14)
theorem EtI.put {w : World} {ts : TypeId} {X S R : Nat} {cx cs cz : Array Value} {vY : Value} {nY : Nat} {xY : List Value} {vQ : Value} {nQ : Nat} {xQ : List Value} {vH : Value} {nH : Nat} {xH : List Value} {vS : Value} {nS : Nat} {xS : List Value} {u : World} (h : EtI w ts X S R cx cs cz vY nY xY vQ nQ xQ vH nH xH vS nS xS u) (j : Nat) (v : Value) (hX : w.heap.size ≤ X) (hS : S ≠ X) (hR : R ≠ X) : EtI w ts X S R (cx.setIfInBounds j v) cs cz vY nY xY vQ nQ xQ vH nH xH vS nS xS (u.setCell ⟨X, j, none⟩ v) :=
  ⟨h.x.put j v, h.s.kept (grow_set u ⟨X, j, none⟩ v) (by simpa using hS), h.z.kept (grow_set u ⟨X, j, none⟩ v) (by simpa using hR), ownsRow_setCell_other h.y (a := ⟨X, j, none⟩) (Ne.symm (h.x.ne (by decide) h.y)) v, ownsRow_setCell_other h.q (a := ⟨X, j, none⟩) (Ne.symm (h.x.ne (by decide) h.q)) v, ownsRow_setCell_other h.h (a := ⟨X, j, none⟩) (Ne.symm (h.x.ne (by decide) h.h)) v, ownsRow_setCell_other h.t (a := ⟨X, j, none⟩) (Ne.symm (h.x.ne (by decide) h.t)) v, h.b.setCell (p := ⟨X, j, none⟩) hX v, h.n⟩
theorem pks_lit (W : World) (H : Nat) (hH : W.heap.size = H) (base : Nat) (hb : base ≤ W.heap.size) : (W.alloc (.cells #[] 54)).ownsRow base 54 9 (.slice (some ⟨H, 0, none⟩) 0 0) 0 [] := by
  subst hH
  exact World.ownsRow_lit (base := base) (e := 54) (size := 9) W #[] 0 hb (by unfold maxLen; omega) (by simp)
end Go.Proofs.YtfjedpnagnnobaaGreat.mk

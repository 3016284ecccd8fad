import Derived.Test.YtmliinglojmojabBase
/-
  MARKS: what the laws' mark and held functions do to a Send.
-/
namespace Go.Proofs.Ytmliinglojmojab.mk
open Go.RowKit
set_option linter.unusedVariables false

/-- the cells as the marks from k on have left them -/
def Mi (k n : Nat) (cs : List Value) : Prop := ∀ i, i < n → cs[i * 4]? = some (.string (mkt (k + i * 4))) ∧ cs[i * 4 + 1]? = some (.bool ((((k + i * 4 : Nat) : Int) + 1) % 3 == 0)) ∧ cs[i * 4 + 2]? = some (.bool ((((k + i * 4 : Nat) : Int) + 1 + 1) % 3 == 0)) ∧ cs[i * 4 + 3]? = some (.int .i64 (((k + i * 4 : Nat) : Int) + 1 + 1 + 1))
theorem Mi.step {k i : Nat} {cs : List Value} (h : Mi k i cs) (hl : i * 4 + 3 < cs.length) :
    Mi k (i + 1) (put4 cs i (.string (mkt (k + i * 4))) (.bool ((((k + i * 4 : Nat) : Int) + 1) % 3 == 0)) (.bool ((((k + i * 4 : Nat) : Int) + 1 + 1) % 3 == 0)) (.int .i64 (((k + i * 4 : Nat) : Int) + 1 + 1 + 1))) := by
  intro j hj
  rcases Nat.lt_or_ge j i with h1 | h1
  · rw [put4_other (by omega), put4_other (by omega), put4_other (by omega), put4_other (by omega)]
    exact h j h1
  · obtain rfl : j = i := by omega
    exact put4_at hl
end Go.Proofs.Ytmliinglojmojab.mk
/-
  MARKS: what the laws' mark and held functions do to a slice of held parts.
-/
namespace Go.Proofs.Ytmliinglojmojab.mk
open Go.RowKit
set_option linter.unusedVariables false

/-- the cells as the marks from k on have left them -/
def Mh (k n : Nat) (cs : List Value) : Prop := ∀ i, i < n → cs[i * 3]? = some (.int .i64 ((k + i * 3 : Nat) : Int)) ∧ cs[i * 3 + 1]? = some (.string (mkt (k + i * 3 + 1))) ∧ cs[i * 3 + 2]? = some (.bool ((((k + i * 3 : Nat) : Int) + 1 + 1) % 3 == 0))
theorem Mh.step {k i : Nat} {cs : List Value} (h : Mh k i cs) (hl : i * 3 + 2 < cs.length) :
    Mh k (i + 1) (put3 cs i (.int .i64 ((k + i * 3 : Nat) : Int)) (.string (mkt (k + i * 3 + 1))) (.bool ((((k + i * 3 : Nat) : Int) + 1 + 1) % 3 == 0))) := by
  intro j hj
  rcases Nat.lt_or_ge j i with h1 | h1
  · rw [put3_other (by omega), put3_other (by omega), put3_other (by omega)]
    exact h j h1
  · obtain rfl : j = i := by omega
    exact put3_at hl
end Go.Proofs.Ytmliinglojmojab.mk
/-
  MARKS: what the laws' mark and held functions do to a Take.
-/
namespace Go.Proofs.Ytmliinglojmojab.mk
open Go.RowKit
set_option linter.unusedVariables false

theorem rows_ne6 {w : World} {b b' : Nat} {e e' : TypeId} {sz sz' n n' : Nat} {v v' : Value} {xs xs' : List Value} (h : w.ownsRow b e sz v n xs) (h' : w.ownsRow b' e' sz' v' n' xs') (hne : e ≠ e') : v.ownBlock = none ∨ v.ownBlock ≠ v'.ownBlock := by
  rcases h.2 with ⟨rfl, _⟩ | ⟨g, cap, cur, rfl, _, hg, _⟩
  · exact .inl rfl
  right
  rcases h'.2 with ⟨rfl, _⟩ | ⟨g', cap', cur', rfl, _, hg', _⟩
  · simp [Value.ownBlock]
  · intro e2
    simp only [Value.ownBlock, Option.some.injEq] at e2
    subst e2
    rw [hg] at hg'
    simp at hg'
    exact hne hg'.2
end Go.Proofs.Ytmliinglojmojab.mk
/-
  MARKS OF AN END.
-/
namespace Go.Proofs.Ytmliinglojmojab.mk
open Go.RowKit
set_option linter.unusedVariables false

theorem Ex.kept {u u' : World} {B : Nat} {cs : Array Value} {row : Option Nat} (h : Ex u B cs) (hg : u.grownBy u' row) (hne : some B ≠ row) : Ex u' B cs := by
  have := h.lt
  obtain ⟨t, h⟩ := h
  exact ⟨t, (hg.block B this hne).trans h⟩
end Go.Proofs.Ytmliinglojmojab.mk
/-
  WHILE A LAW ON ENDS RUNS: what is kept where a stretch of blocks turns.
-/
namespace Go.Proofs.Ytmliinglojmojab.mk
open Go.RowKit
set_option linter.unusedVariables false

/-- all blocks but those from lo on and below hi are kept -/
structure Bet (lo hi : Nat) (w w' : World) : Prop where
  os : w'.os = w.os
  tape : w'.tape = w.tape
  output : w'.output = w.output
  size : w.heap.size ≤ w'.heap.size
  block : ∀ k, k < w.heap.size → k < lo ∨ hi ≤ k → w'.heap[k]? = w.heap[k]?
theorem Bet.trans {lo hi : Nat} {a b c : World} (h : Bet lo hi a b) (k : Bet lo hi b c) : Bet lo hi a c :=
  ⟨k.os.trans h.os, k.tape.trans h.tape, k.output.trans h.output, Nat.le_trans h.size k.size, fun i hi' ho => (k.block i (Nat.lt_of_lt_of_le hi' h.size) ho).trans (h.block i hi' ho)⟩
theorem Bet.of_below {lo hi : Nat} {w w' : World} (h : Below w.heap.size w w') : Bet lo hi w w' := ⟨h.os, h.tape, h.output, h.size, fun k hk _ => h.block k hk⟩
theorem Bet.of_grown {lo hi : Nat} {w w' : World} {row : Option Nat} (h : w.grownBy w' row) (hr : ∀ r, row = some r → lo ≤ r ∧ r < hi) : Bet lo hi w w' :=
  ⟨h.os, h.tape, h.output, h.size, fun k hk ho => h.block k hk (fun e => by have := hr k e.symm; omega)⟩
theorem Bet.below {lo hi B : Nat} {w w' : World} (h : Bet lo hi w w') (hB : B ≤ lo) (hs : B ≤ w.heap.size) : Below B w w' := ⟨h.os, h.tape, h.output, h.size, fun k hk => h.block k (by omega) (.inl (by omega))⟩
theorem owns_same {w w' : World} {base : Nat} {e : TypeId} {size : Nat} {v : Value} {n : Nat} {xs : List Value} (h : w.ownsRow base e size v n xs) (hb : ∀ g, v.ownBlock = some g → w'.heap[g]? = w.heap[g]?) : w'.ownsRow base e size v n xs := by
  refine ⟨h.1, ?_⟩
  rcases h.2 with h2 | ⟨g, cap, cur, rfl, h1, h2, h3, h4, h5, h6⟩
  · exact .inl h2
  · exact .inr ⟨g, cap, cur, rfl, h1, (hb g rfl).trans h2, h3, h4, h5, h6⟩
theorem Ex.bet {u u' : World} {B lo hi : Nat} {cs : Array Value} (h : Ex u B cs) (hb : Bet lo hi u u') (ho : B < lo ∨ hi ≤ B) : Ex u' B cs := by
  have := h.lt
  obtain ⟨t, h⟩ := h
  exact ⟨t, (hb.block B this ho).trans h⟩
/-- an owned row below hi -/
structure Rw (u : World) (lo hi : Nat) (t : TypeId) (z : Nat) (v : Value) (n : Nat) (xs : List Value) : Prop where
  own : u.ownsRow lo t z v n xs
  lt : ∀ r, v.ownBlock = some r → r < hi
theorem Rw.of {u : World} {lo : Nat} {t : TypeId} {z : Nat} {v : Value} {n : Nat} {xs : List Value} (h : u.ownsRow lo t z v n xs) : Rw u lo u.heap.size t z v n xs := ⟨h, fun r e => (h.lt r e).2⟩
theorem Rw.keep {u u' : World} {lo hi : Nat} {t : TypeId} {z : Nat} {v : Value} {n : Nat} {xs : List Value} (h : Rw u lo hi t z v n xs) (hb : Below u.heap.size u u') : Rw u' lo hi t z v n xs := ⟨owns_keep h.own hb, h.lt⟩
theorem Rw.bet {u u' : World} {lo hi lo' hi' : Nat} {t : TypeId} {z : Nat} {v : Value} {n : Nat} {xs : List Value} (h : Rw u lo hi t z v n xs) (hb : Bet lo' hi' u u') (ho : hi ≤ lo' ∨ hi' ≤ lo) : Rw u' lo hi t z v n xs :=
  ⟨owns_same h.own (fun g e => hb.block g (h.own.lt g e).2 (by have := h.lt g e; have := (h.own.lt g e).1; omega)), h.lt⟩
/-- the three rows of an end, in a stretch of blocks -/
structure R3 (u : World) (lo hi : Nat) (v1 : Value) (n1 : Nat) (x1 : List Value) (v2 : Value) (n2 : Nat) (x2 : List Value) (v3 : Value) (n3 : Nat) (x3 : List Value) : Prop where
  i : Rw u lo hi 101 4 v1 n1 x1
  h : Rw u lo hi 103 3 v2 n2 x2
  s : Rw u lo hi 9 1 v3 n3 x3
theorem R3.of {u : World} {lo : Nat} {v1 : Value} {n1 : Nat} {x1 : List Value} {v2 : Value} {n2 : Nat} {x2 : List Value} {v3 : Value} {n3 : Nat} {x3 : List Value} (h1 : u.ownsRow lo 101 4 v1 n1 x1) (h2 : u.ownsRow lo 103 3 v2 n2 x2) (h3 : u.ownsRow lo 9 1 v3 n3 x3) : R3 u lo u.heap.size v1 n1 x1 v2 n2 x2 v3 n3 x3 := ⟨.of h1, .of h2, .of h3⟩
theorem R3.keep {u u' : World} {lo hi : Nat} {v1 : Value} {n1 : Nat} {x1 : List Value} {v2 : Value} {n2 : Nat} {x2 : List Value} {v3 : Value} {n3 : Nat} {x3 : List Value} (h : R3 u lo hi v1 n1 x1 v2 n2 x2 v3 n3 x3) (hb : Below u.heap.size u u') : R3 u' lo hi v1 n1 x1 v2 n2 x2 v3 n3 x3 := ⟨h.i.keep hb, h.h.keep hb, h.s.keep hb⟩
theorem R3.alloc {u : World} {lo hi : Nat} {v1 : Value} {n1 : Nat} {x1 : List Value} {v2 : Value} {n2 : Nat} {x2 : List Value} {v3 : Value} {n3 : Nat} {x3 : List Value} (h : R3 u lo hi v1 n1 x1 v2 n2 x2 v3 n3 x3) (o : Obj) : R3 (u.alloc o) lo hi v1 n1 x1 v2 n2 x2 v3 n3 x3 := h.keep ((Below.refl _ _).alloc (Nat.le_refl _) _)
theorem R3.bet {u u' : World} {lo hi lo' hi' : Nat} {v1 : Value} {n1 : Nat} {x1 : List Value} {v2 : Value} {n2 : Nat} {x2 : List Value} {v3 : Value} {n3 : Nat} {x3 : List Value} (h : R3 u lo hi v1 n1 x1 v2 n2 x2 v3 n3 x3) (hb : Bet lo' hi' u u') (ho : hi ≤ lo' ∨ hi' ≤ lo) : R3 u' lo hi v1 n1 x1 v2 n2 x2 v3 n3 x3 := ⟨h.i.bet hb ho, h.h.bet hb ho, h.s.bet hb ho⟩
theorem R3.re {u : World} {lo hi : Nat} {E : En} {a b c : Option Addr} {ca cb cc : Nat} (h : R3 u lo hi (.slice a E.xs.length ca) E.xs.length (is E.xs) (.slice b E.hs.length cb) E.hs.length (hs E.hs) (.slice c E.rs.length cc) E.rs.length (ss E.rs)) : Re u E a b c := ⟨owns_rs h.i.own, owns_rs h.h.own, owns_rs h.s.own⟩
end Go.Proofs.Ytmliinglojmojab.mk

/-
  WHILE A LAW ON TAKES RUNS: rows in a stretch of blocks; the messages may be the tail of a row.
-/
import Derived.Test.YthjncmgjkejikaaOsB
import Derived.Test.YthjncmgjkejikaaMarks
namespace Go.Proofs.Ythjncmgjkejikaa.mp
open Go.RowKit mk
set_option linter.unusedVariables false

theorem bx_bet {u u' : World} {B lo hi : Nat} {t : TypeId} {cs : Array Value} (h : Bx u B t cs) (hb : Bet lo hi u u') (ho : B < lo ∨ hi ≤ B) : Bx u' B t cs := (hb.block B h.lt ho).trans h
theorem orw_same {w w' : World} {base : Nat} {v : Value} {n : Nat} {xs : List Value} (h : Orw base v n xs w) (hb : ∀ g, v.ownBlock = some g → w'.heap[g]? = w.heap[g]?) : Orw base v n xs w' :=
  h.lift fun g _ _ _ e q => owns_same q fun g' e' => by cases e'; exact hb g e
/-- strings below hi -/
structure Rwo (u : World) (lo hi : Nat) (v : Value) (n : Nat) (xs : List Value) : Prop where
  own : Orw lo v n xs u
  lt : ∀ r, v.ownBlock = some r → r < hi
theorem Rwo.of {u : World} {lo : Nat} {v : Value} {n : Nat} {xs : List Value} (h : Orw lo v n xs u) : Rwo u lo u.heap.size v n xs := ⟨h, fun r e => (h.lt r e).2⟩
theorem Rwo.keep {u u' : World} {lo hi : Nat} {v : Value} {n : Nat} {xs : List Value} (h : Rwo u lo hi v n xs) (hb : Below u.heap.size u u') : Rwo u' lo hi v n xs := ⟨h.own.keep hb, h.lt⟩
theorem Rwo.bet {u u' : World} {lo hi lo' hi' : Nat} {v : Value} {n : Nat} {xs : List Value} (h : Rwo u lo hi v n xs) (hb : Bet lo' hi' u u') (ho : hi ≤ lo' ∨ hi' ≤ lo) : Rwo u' lo hi v n xs :=
  ⟨orw_same h.own (fun g e => hb.block g (h.own.lt g e).2 (by have := h.lt g e; have := (h.own.lt g e).1; omega)), h.lt⟩
/-- the two rows of a take, in a stretch of blocks -/
structure R2 (u : World) (lo hi : Nat) (v2 : Value) (n2 : Nat) (x2 : List Value) (v3 : Value) (n3 : Nat) (x3 : List Value) : Prop where
  h : Rw u lo hi 107 3 v2 n2 x2
  s : Rwo u lo hi v3 n3 x3
theorem R2.of {u : World} {lo : Nat} {v2 : Value} {n2 : Nat} {x2 : List Value} {v3 : Value} {n3 : Nat} {x3 : List Value} (h2 : u.ownsRow lo 107 3 v2 n2 x2) (h3 : Orw lo v3 n3 x3 u) : R2 u lo u.heap.size v2 n2 x2 v3 n3 x3 := ⟨.of h2, .of h3⟩
theorem R2.keep {u u' : World} {lo hi : Nat} {v2 : Value} {n2 : Nat} {x2 : List Value} {v3 : Value} {n3 : Nat} {x3 : List Value} (h : R2 u lo hi v2 n2 x2 v3 n3 x3) (hb : Below u.heap.size u u') : R2 u' lo hi v2 n2 x2 v3 n3 x3 := ⟨h.h.keep hb, h.s.keep hb⟩
theorem R2.alloc {u : World} {lo hi : Nat} {v2 : Value} {n2 : Nat} {x2 : List Value} {v3 : Value} {n3 : Nat} {x3 : List Value} (h : R2 u lo hi v2 n2 x2 v3 n3 x3) (o : Obj) : R2 (u.alloc o) lo hi v2 n2 x2 v3 n3 x3 := h.keep ((Below.refl _ _).alloc (Nat.le_refl _) _)
theorem R2.bet {u u' : World} {lo hi lo' hi' : Nat} {v2 : Value} {n2 : Nat} {x2 : List Value} {v3 : Value} {n3 : Nat} {x3 : List Value} (h : R2 u lo hi v2 n2 x2 v3 n3 x3) (hb : Bet lo' hi' u u') (ho : hi ≤ lo' ∨ hi' ≤ lo) : R2 u' lo hi v2 n2 x2 v3 n3 x3 := ⟨h.h.bet hb ho, h.s.bet hb ho⟩
theorem R2.rt {u : World} {lo hi : Nat} {xs : List Hd} {rs : List ByteArray} {b c : Option Addr} {cb cc : Nat} (h : R2 u lo hi (.slice b xs.length cb) xs.length (hs xs) (.slice c rs.length cc) rs.length (ss rs)) : Rt u b c xs rs := ⟨owns_rs h.h.own, h.s.own.rr⟩
theorem markTake_bet (lo hi : Nat) (z : Int) (o : ByteArray) (hv rv : Value) (n m : Nat) (xs ys : List Value) (w : World) (hn : n ≤ 2000000) (hm : m ≤ 2000000) (h : R2 w lo hi hv n xs rv m ys) (K : Nat) (hK : K = 1 + n * 3 + m) :
    Calls Try.prog 12 #[.agg #[.int .i64 z, hv, .string o, rv], .int .i64 1] w fun e w' => e = .returned (.int .i64 (K : Int)) ∧ (∃ xs' ys', R2 w' lo hi hv n xs' rv m ys' ∧ Mh 1 n xs' ∧ Ms (1 + n * 3) m ys') ∧ Bet lo hi w w' := by
  subst hK
  refine (markTake_any lo lo z hv rv o n m 1 xs ys w (by omega) (by omega) hn hm h.h.own h.s.own).mono ?_
  rintro e w' ⟨rfl, ⟨cs, o1, M1⟩, ⟨ds, o2, M2⟩, wm, g1, g2⟩
  have r1 : ∀ r, hv.ownBlock = some r → lo ≤ r ∧ r < hi := fun r e => ⟨(h.h.own.lt r e).1, h.h.lt r e⟩
  have r2 : ∀ r, rv.ownBlock = some r → lo ≤ r ∧ r < hi := fun r e => ⟨(h.s.own.lt r e).1, h.s.lt r e⟩
  exact ⟨rfl, ⟨cs, ds, ⟨⟨o1, h.h.lt⟩, ⟨o2, h.s.lt⟩⟩, M1, M2⟩, (Bet.of_grown g1 r1).trans (Bet.of_grown g2 r2)⟩
theorem heldTake_bet (lo hi : Nat) (z : Int) (o : ByteArray) (hv rv : Value) (n m : Nat) (xs ys : List Value) (w : World) (hn : n ≤ 2000000) (hm : m ≤ 2000000) (h : R2 w lo hi hv n xs rv m ys) (M1 : Mh 1 n xs) (M2 : Ms (1 + n * 3) m ys) (K : Nat) (hK : K = 1 + n * 3 + m) :
    Calls Try.prog 13 #[.agg #[.int .i64 z, hv, .string o, rv], .int .i64 1] w fun e w' => e = .returned (.int .i64 (K : Int)) ∧ Below w.heap.size w w' := by
  subst hK
  exact heldTake_any lo lo z hv rv o n m 1 xs ys w (by omega) (by omega) hn hm h.h.own h.s.own M1 M2
end Go.Proofs.Ythjncmgjkejikaa.mp

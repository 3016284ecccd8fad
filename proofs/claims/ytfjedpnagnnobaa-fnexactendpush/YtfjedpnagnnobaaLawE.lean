/-
  WHILE A LAW ON ENDS RUNS: what is kept where a stretch of blocks turns.
-/
import Derived.Test.YtfjedpnagnnobaaMkE
import Derived.Test.YtfjedpnagnnobaaBxA
namespace Go.Proofs.Ytfjedpnagnnobaa.mk
open Go.RowKit
set_option linter.unusedVariables false

/-- all blocks but those from lo on and below hi are kept -/
structure Bet (lo hi : Nat) (w w' : World) : Prop where
  os : w'.os = w.os
  tape : w'.tape = w.tape
  output : w'.output = w.output
  size : w.heap.size ≤ w'.heap.size
  block : ∀ k, k < w.heap.size → k < lo ∨ hi ≤ k → w'.heap[k]? = w.heap[k]?
theorem Bet.trans {lo hi : Nat} {a b c : World} (h : Bet lo hi a b) (k : Bet lo hi b c) : Bet lo hi a c :=
  ⟨k.os.trans h.os, k.tape.trans h.tape, k.output.trans h.output, Nat.le_trans h.size k.size, fun i hi' ho => (k.block i (Nat.lt_of_lt_of_le hi' h.size) ho).trans (h.block i hi' ho)⟩
theorem Bet.of_below {lo hi : Nat} {w w' : World} (h : Below w.heap.size w w') : Bet lo hi w w' := ⟨h.os, h.tape, h.output, h.size, fun k hk _ => h.block k hk⟩
theorem Bet.of_grown {lo hi : Nat} {w w' : World} {row : Option Nat} (h : w.grownBy w' row) (hr : ∀ r, row = some r → lo ≤ r ∧ r < hi) : Bet lo hi w w' :=
  ⟨h.os, h.tape, h.output, h.size, fun k hk ho => h.block k hk (fun e => by have := hr k e.symm; omega)⟩
theorem Bet.below {lo hi B : Nat} {w w' : World} (h : Bet lo hi w w') (hB : B ≤ lo) (hs : B ≤ w.heap.size) : Below B w w' := ⟨h.os, h.tape, h.output, h.size, fun k hk => h.block k (by omega) (.inl (by omega))⟩
theorem owns_same {w w' : World} {base : Nat} {e : TypeId} {size : Nat} {v : Value} {n : Nat} {xs : List Value} (h : w.ownsRow base e size v n xs) (hb : ∀ g, v.ownBlock = some g → w'.heap[g]? = w.heap[g]?) : w'.ownsRow base e size v n xs := by
  refine ⟨h.1, ?_⟩
  rcases h.2 with h2 | ⟨g, cap, cur, rfl, h1, h2, h3, h4, h5, h6⟩
  · exact .inl h2
  · exact .inr ⟨g, cap, cur, rfl, h1, (hb g rfl).trans h2, h3, h4, h5, h6⟩
theorem Ex.bet {u u' : World} {B lo hi : Nat} {cs : Array Value} (h : Ex u B cs) (hb : Bet lo hi u u') (ho : B < lo ∨ hi ≤ B) : Ex u' B cs := by
  have := h.lt
  obtain ⟨t, h⟩ := h
  exact ⟨t, (hb.block B this ho).trans h⟩
/-- an owned row below hi -/
structure Rw (u : World) (lo hi : Nat) (t : TypeId) (z : Nat) (v : Value) (n : Nat) (xs : List Value) : Prop where
  own : u.ownsRow lo t z v n xs
  lt : ∀ r, v.ownBlock = some r → r < hi
theorem Rw.of {u : World} {lo : Nat} {t : TypeId} {z : Nat} {v : Value} {n : Nat} {xs : List Value} (h : u.ownsRow lo t z v n xs) : Rw u lo u.heap.size t z v n xs := ⟨h, fun r e => (h.lt r e).2⟩
theorem Rw.keep {u u' : World} {lo hi : Nat} {t : TypeId} {z : Nat} {v : Value} {n : Nat} {xs : List Value} (h : Rw u lo hi t z v n xs) (hb : Below u.heap.size u u') : Rw u' lo hi t z v n xs := ⟨owns_keep h.own hb, h.lt⟩
theorem Rw.bet {u u' : World} {lo hi lo' hi' : Nat} {t : TypeId} {z : Nat} {v : Value} {n : Nat} {xs : List Value} (h : Rw u lo hi t z v n xs) (hb : Bet lo' hi' u u') (ho : hi ≤ lo' ∨ hi' ≤ lo) : Rw u' lo hi t z v n xs :=
  ⟨owns_same h.own (fun g e => hb.block g (h.own.lt g e).2 (by have := h.lt g e; have := (h.own.lt g e).1; omega)), h.lt⟩
/-- the three rows of an end, in a stretch of blocks -/
structure R3 (u : World) (lo hi : Nat) (v1 : Value) (n1 : Nat) (x1 : List Value) (v2 : Value) (n2 : Nat) (x2 : List Value) (v3 : Value) (n3 : Nat) (x3 : List Value) : Prop where
  i : Rw u lo hi 70 4 v1 n1 x1
  h : Rw u lo hi 125 3 v2 n2 x2
  s : Rw u lo hi 9 1 v3 n3 x3
theorem R3.of {u : World} {lo : Nat} {v1 : Value} {n1 : Nat} {x1 : List Value} {v2 : Value} {n2 : Nat} {x2 : List Value} {v3 : Value} {n3 : Nat} {x3 : List Value} (h1 : u.ownsRow lo 70 4 v1 n1 x1) (h2 : u.ownsRow lo 125 3 v2 n2 x2) (h3 : u.ownsRow lo 9 1 v3 n3 x3) : R3 u lo u.heap.size v1 n1 x1 v2 n2 x2 v3 n3 x3 := ⟨.of h1, .of h2, .of h3⟩
theorem R3.keep {u u' : World} {lo hi : Nat} {v1 : Value} {n1 : Nat} {x1 : List Value} {v2 : Value} {n2 : Nat} {x2 : List Value} {v3 : Value} {n3 : Nat} {x3 : List Value} (h : R3 u lo hi v1 n1 x1 v2 n2 x2 v3 n3 x3) (hb : Below u.heap.size u u') : R3 u' lo hi v1 n1 x1 v2 n2 x2 v3 n3 x3 := ⟨h.i.keep hb, h.h.keep hb, h.s.keep hb⟩
theorem R3.alloc {u : World} {lo hi : Nat} {v1 : Value} {n1 : Nat} {x1 : List Value} {v2 : Value} {n2 : Nat} {x2 : List Value} {v3 : Value} {n3 : Nat} {x3 : List Value} (h : R3 u lo hi v1 n1 x1 v2 n2 x2 v3 n3 x3) (o : Obj) : R3 (u.alloc o) lo hi v1 n1 x1 v2 n2 x2 v3 n3 x3 := h.keep ((Below.refl _ _).alloc (Nat.le_refl _) _)
theorem R3.bet {u u' : World} {lo hi lo' hi' : Nat} {v1 : Value} {n1 : Nat} {x1 : List Value} {v2 : Value} {n2 : Nat} {x2 : List Value} {v3 : Value} {n3 : Nat} {x3 : List Value} (h : R3 u lo hi v1 n1 x1 v2 n2 x2 v3 n3 x3) (hb : Bet lo' hi' u u') (ho : hi ≤ lo' ∨ hi' ≤ lo) : R3 u' lo hi v1 n1 x1 v2 n2 x2 v3 n3 x3 := ⟨h.i.bet hb ho, h.h.bet hb ho, h.s.bet hb ho⟩
theorem R3.re {u : World} {lo hi : Nat} {E : En} {a b c : Option Addr} {ca cb cc : Nat} (h : R3 u lo hi (.slice a E.xs.length ca) E.xs.length (is E.xs) (.slice b E.hs.length cb) E.hs.length (hs E.hs) (.slice c E.rs.length cc) E.rs.length (ss E.rs)) : Re u E a b c := ⟨owns_rs h.i.own, owns_rs h.h.own, owns_rs h.s.own⟩
theorem markEnd_bet (lo hi : Nat) (num : Int) (up : Bool) (life peer since : Int) (owes : Bool) (b nx : Int) (o : ByteArray) (av hv rv : Value) (n m l : Nat) (xs ys zs : List Value) (w : World) (hn : n ≤ 2000000) (hm : m ≤ 2000000) (hl : l ≤ 2000000) (hbs : lo ≤ w.heap.size) (h : R3 w lo hi av n xs hv m ys rv l zs) (K : Nat) (hK : K = 1 + n * 4 + m * 3 + l) :
    Calls Try.prog 10 #[.agg #[.int .i64 num, .bool up, .int .i64 life, .int .i64 peer, .int .i64 since, .bool owes, .int .i64 b, av, .int .i64 nx, hv, .string o, rv], .int .i64 1] w fun e w' => e = .returned (.int .i64 (K : Int)) ∧ (∃ xs' ys' zs', R3 w' lo hi av n xs' hv m ys' rv l zs' ∧ Mi 1 n xs' ∧ Mh (1 + n * 4) m ys' ∧ Ms (1 + n * 4 + m * 3) l zs') ∧ Bet lo hi w w' := by
  subst hK
  refine (markEnd_any lo num up life peer since owes b nx o av hv rv n m l xs ys zs w hn hm hl hbs h.i.own h.h.own h.s.own).mono ?_
  rintro e w' ⟨rfl, ⟨cs, o1, M1⟩, ⟨ds, o2, M2⟩, ⟨ts, o3, M3⟩, wa, wb, g1, g2, g3⟩
  have r1 : ∀ r, av.ownBlock = some r → lo ≤ r ∧ r < hi := fun r e => ⟨(h.i.own.lt r e).1, h.i.lt r e⟩
  have r2 : ∀ r, hv.ownBlock = some r → lo ≤ r ∧ r < hi := fun r e => ⟨(h.h.own.lt r e).1, h.h.lt r e⟩
  have r3 : ∀ r, rv.ownBlock = some r → lo ≤ r ∧ r < hi := fun r e => ⟨(h.s.own.lt r e).1, h.s.lt r e⟩
  exact ⟨rfl, ⟨cs, ds, ts, ⟨⟨o1, h.i.lt⟩, ⟨o2, h.h.lt⟩, ⟨o3, h.s.lt⟩⟩, M1, M2, M3⟩, ((Bet.of_grown g1 r1).trans (Bet.of_grown g2 r2)).trans (Bet.of_grown g3 r3)⟩
theorem heldEnd_bet (lo hi : Nat) (num : Int) (up : Bool) (life peer since : Int) (owes : Bool) (b nx : Int) (o : ByteArray) (av hv rv : Value) (n m l : Nat) (xs ys zs : List Value) (w : World) (hn : n ≤ 2000000) (hm : m ≤ 2000000) (hl : l ≤ 2000000) (h : R3 w lo hi av n xs hv m ys rv l zs) (M1 : Mi 1 n xs) (M2 : Mh (1 + n * 4) m ys) (M3 : Ms (1 + n * 4 + m * 3) l zs) (K : Nat) (hK : K = 1 + n * 4 + m * 3 + l) :
    Calls Try.prog 11 #[.agg #[.int .i64 num, .bool up, .int .i64 life, .int .i64 peer, .int .i64 since, .bool owes, .int .i64 b, av, .int .i64 nx, hv, .string o, rv], .int .i64 1] w fun e w' => e = .returned (.int .i64 (K : Int)) ∧ Below w.heap.size w w' := by
  subst hK
  exact heldEnd_any lo num up life peer since owes b nx o av hv rv n m l xs ys zs w hn hm hl h.i.own h.h.own h.s.own M1 M2 M3
end Go.Proofs.Ytfjedpnagnnobaa.mk

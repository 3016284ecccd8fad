/-
  AN END, AN ACTION whose messages may be the tail of a row: eq, mark, held.
-/
import Derived.Test.YthjncmgjkejikaaLawP
import Derived.Test.YthjncmgjkejikaaAdA
namespace Go.Proofs.Ythjncmgjkejikaa.mp
open Go.RowKit mk
set_option linter.unusedVariables false

structure Re (w : World) (e : En) (ao ho so : Option Addr) : Prop where
  send : Rs w ao e.xs.length (is e.xs)
  take : Rt w ho so e.hs e.rs
theorem Re.keep {w w' : World} {e : En} {ao ho so : Option Addr} (h : Re w e ao ho so) (hb : Below w.heap.size w w') : Re w' e ao ho so := ⟨h.send.keep hb, h.take.keep hb⟩
theorem eqEnd_same (e : En) (ao ho so bo io to : Option Addr) (ci ch cs di dh ds : Nat) (w : World) (hl1 : e.xs.length ≤ 1000000000) (hl2 : e.hs.length ≤ 1000000000) (hl3 : e.rs.length ≤ 1000000000) (ha : Re w e ao ho so) (hb : Re w e bo io to) :
    Calls Try.prog 18 #[.agg #[.int .i64 e.num, .bool e.up, .int .i64 e.life, .int .i64 e.peer, .int .i64 e.since, .bool e.owes, .int .i64 e.b, .slice ao e.xs.length ci, .int .i64 e.nx, .slice ho e.hs.length ch, .string e.o, .slice so e.rs.length cs], .agg #[.int .i64 e.num, .bool e.up, .int .i64 e.life, .int .i64 e.peer, .int .i64 e.since, .bool e.owes, .int .i64 e.b, .slice bo e.xs.length di, .int .i64 e.nx, .slice io e.hs.length dh, .string e.o, .slice to e.rs.length ds]] w fun e' w' => e' = .returned (.bool true) ∧ Below w.heap.size w w' := by
  have HA : Hid (Re w e ao ho so) := ha
  have HB : Hid (Re w e bo io to) := hb
  clear ha hb
  have b0 : ∀ (o p : Obj), Below w.heap.size w ((w.alloc o).alloc p) := fun o p => ((Below.refl _ _).alloc (Nat.le_refl _) _).alloc (by simp) _
  have HB0 : Hid (∀ (o p : Obj), Below w.heap.size w ((w.alloc o).alloc p)) := b0
  clear b0
  go_enter Try.func18, Try.ntmps18
  go_wp2_with (first
    | (go_at_call 52; refine (eqSend_same e.b _ _ _ _ e.xs _ hl1 (HA.out.send.keep (HB0.out _ _)) (HB.out.send.keep (HB0.out _ _))).mono ?_; rintro e' w1 ⟨rfl, hb1⟩; (have c8 := hb1.cell (p := ⟨w.heap.size, 8, none⟩) (by simp; omega)); (have d8 := hb1.cell (p := ⟨w.heap.size + 1, 8, none⟩) (by simp)); (have c9 := hb1.cell (p := ⟨w.heap.size, 9, none⟩) (by simp; omega)); (have d9 := hb1.cell (p := ⟨w.heap.size + 1, 9, none⟩) (by simp)); (have c10 := hb1.cell (p := ⟨w.heap.size, 10, none⟩) (by simp; omega)); (have d10 := hb1.cell (p := ⟨w.heap.size + 1, 10, none⟩) (by simp)); (have c11 := hb1.cell (p := ⟨w.heap.size, 11, none⟩) (by simp; omega)); (have d11 := hb1.cell (p := ⟨w.heap.size + 1, 11, none⟩) (by simp)); simp [go_sem] at c8 c9 c10 c11 d8 d9 d10 d11)
    | (go_at_call 11; refine (eqTake_same e.nx _ _ _ _ _ _ _ _ e.hs e.o e.rs _ hl2 hl3 ((HA.out.take.keep (HB0.out _ _)).keep hb1) ((HB.out.take.keep (HB0.out _ _)).keep hb1)).mono ?_; rintro e' w2 ⟨rfl, hb2⟩)
    | fail)
  go_ret
  exact ⟨rfl, kb (kb (HB0.out _ _) hb1 (Nat.le_refl _)) hb2 (Nat.le_refl _)⟩
set_option maxHeartbeats 1000000 in
theorem markEnd_any (base : Nat) (num : Int) (up : Bool) (life peer since : Int) (owes : Bool) (b nx : Int) (o : ByteArray) (av hv rv : Value) (n m l : Nat) (xs ys zs : List Value) (w : World) (hn : n ≤ 2000000) (hm : m ≤ 2000000) (hl : l ≤ 2000000) (hbs : base ≤ w.heap.size) (h1 : w.ownsRow base 88 4 av n xs) (h2 : w.ownsRow base 107 3 hv m ys) (h3 : Orw base rv l zs w) :
    Calls Try.prog 19 #[.agg #[.int .i64 num, .bool up, .int .i64 life, .int .i64 peer, .int .i64 since, .bool owes, .int .i64 b, av, .int .i64 nx, hv, .string o, rv], .int .i64 1] w fun e w' => e = .returned (.int .i64 ((1 + n * 4 + m * 3 + l : Nat) : Int)) ∧ (∃ cs, w'.ownsRow base 88 4 av n cs ∧ Mi 1 n cs) ∧ (∃ cs, w'.ownsRow base 107 3 hv m cs ∧ Mh (1 + n * 4) m cs) ∧ (∃ ts, Orw base rv l ts w' ∧ Ms (1 + n * 4 + m * 3) l ts) ∧ ∃ wa wb, w.grownBy wa av.ownBlock ∧ wa.grownBy wb hv.ownBlock ∧ wb.grownBy w' rv.ownBlock := by
  obtain ⟨ao, ca, rfl, -, -, -⟩ := rs_of_owns h1
  obtain ⟨io, cb, rfl, -, -, -⟩ := rs_of_owns h2
  obtain ⟨so, cc, rfl, -, -, -⟩ := h3.slice
  obtain ⟨K, hK⟩ : ∃ K : Nat, K = 1 + n * 4 := ⟨_, rfl⟩
  have hKb : 0 < K ∧ K ≤ 10000000 := by omega
  have HK : Hid (K = 1 + n * 4) := hK
  rw [← hK]
  have HC : Hid (∀ u : World, base ≤ u.heap.size → u.ownsRow base 88 4 (.slice ao n ca) n xs → Calls Try.prog 53 #[.agg #[.int .i64 b, .slice ao n ca], .int .i64 1] u fun e w' => e = .returned (.int .i64 (K : Int)) ∧ (∃ cs, w'.ownsRow base 88 4 (.slice ao n ca) n cs ∧ Mi 1 n cs) ∧ u.grownBy w' (Value.slice ao n ca).ownBlock) := fun u hb h => by rw [hK]; exact markSend_one base b _ n xs u hn hb h
  have HD : Hid (∀ u : World, u.ownsRow base 107 3 (.slice io m cb) m ys → Orw base (.slice so l cc) l zs u → Calls Try.prog 12 #[.agg #[.int .i64 nx, .slice io m cb, .string o, .slice so l cc], .int .i64 (K : Int)] u fun e w' => e = .returned (.int .i64 ((K + m * 3 + l : Nat) : Int)) ∧ (∃ cs, w'.ownsRow base 107 3 (.slice io m cb) m cs ∧ Mh K m cs) ∧ (∃ ts, Orw base (.slice so l cc) l ts w' ∧ Ms (K + m * 3) l ts) ∧ ∃ wm, u.grownBy wm (Value.slice io m cb).ownBlock ∧ wm.grownBy w' (Value.slice so l cc).ownBlock) := fun u g1 g2 => markTake_any base base nx _ _ o m l K ys zs u hKb.1 (by omega) hm hl g1 g2
  have X0 : Hid (Ex (w.alloc (.cells #[.int .i64 num, .bool up, .int .i64 life, .int .i64 peer, .int .i64 since, .bool owes, .int .i64 b, .slice ao n ca, .int .i64 nx, .slice io m cb, .string o, .slice so l cc] 46)) w.heap.size #[.int .i64 num, .bool up, .int .i64 life, .int .i64 peer, .int .i64 since, .bool owes, .int .i64 b, .slice ao n ca, .int .i64 nx, .slice io m cb, .string o, .slice so l cc]) := Ex.new w _ _
  have H1 : Hid ((w.alloc (.cells #[.int .i64 num, .bool up, .int .i64 life, .int .i64 peer, .int .i64 since, .bool owes, .int .i64 b, .slice ao n ca, .int .i64 nx, .slice io m cb, .string o, .slice so l cc] 46)).ownsRow base 88 4 (.slice ao n ca) n xs) := h1.alloc _
  have H2 : Hid ((w.alloc (.cells #[.int .i64 num, .bool up, .int .i64 life, .int .i64 peer, .int .i64 since, .bool owes, .int .i64 b, .slice ao n ca, .int .i64 nx, .slice io m cb, .string o, .slice so l cc] 46)).ownsRow base 107 3 (.slice io m cb) m ys) := h2.alloc _
  have H3 : Hid (Orw base (.slice so l cc) l zs (w.alloc (.cells #[.int .i64 num, .bool up, .int .i64 life, .int .i64 peer, .int .i64 since, .bool owes, .int .i64 b, .slice ao n ca, .int .i64 nx, .slice io m cb, .string o, .slice so l cc] 46))) := h3.alloc _
  have HNB : Hid (some w.heap.size ≠ (Value.slice ao n ca).ownBlock) := fun e => by have := (h1.lt _ e.symm).2; omega
  have HBS : Hid (base ≤ (w.alloc (.cells #[.int .i64 num, .bool up, .int .i64 life, .int .i64 peer, .int .i64 since, .bool owes, .int .i64 b, .slice ao n ca, .int .i64 nx, .slice io m cb, .string o, .slice so l cc] 46)).heap.size) := (by simp; omega : base ≤ (w.alloc (.cells #[.int .i64 num, .bool up, .int .i64 life, .int .i64 peer, .int .i64 since, .bool owes, .int .i64 b, .slice ao n ca, .int .i64 nx, .slice io m cb, .string o, .slice so l cc] 46)).heap.size)
  clear h1 h2 h3 hK
  go_enter Try.func19, Try.ntmps19
  go_wp2_with (first
    | (go_at_call 53; refine (HC.out _ HBS.out H1.out).mono ?_; rintro e w1 ⟨rfl, ⟨cs1, ho1, hM1⟩, hg1⟩; (have X1 := X0.out.kept hg1 HNB.out); (obtain ⟨c0, c1, c2, c3, c4, c5, c6, c7, c8, c9, c10, c11⟩ := X1.cells); (have k2 := H2.out.kept hg1 (rows_ne6 H2.out H1.out (by decide))); (have k3 := H3.out.kept hg1 (Orw.ne2 H1.out H3.out (by decide))))
    | (go_at_call 12; refine (HD.out _ k2 k3).mono ?_; rintro e w2 ⟨rfl, ⟨cs2, ho2, hM2⟩, ⟨cs3, ho3, hM3⟩, wm, hg2, hg3⟩)
    | fail)
  go_ret
  exact ⟨rfl, ⟨cs1, (ho1.kept hg2 (rows_ne6 ho1 k2 (by decide))).kept hg3 (Orw.ne (ho1.kept hg2 (rows_ne6 ho1 k2 (by decide))) (k3.kept hg2 (Orw.ne2 k2 k3 (by decide))) (by decide)), hM1⟩, ⟨cs2, ho2, hM2⟩, ⟨cs3, ho3, hM3⟩, w1, wm, (World.grownBy_alloc w _ _).trans hg1, hg2, hg3⟩
set_option maxHeartbeats 1000000 in
theorem heldEnd_any (base : Nat) (num : Int) (up : Bool) (life peer since : Int) (owes : Bool) (b nx : Int) (o : ByteArray) (av hv rv : Value) (n m l : Nat) (xs ys zs : List Value) (w : World) (hn : n ≤ 2000000) (hm : m ≤ 2000000) (hl : l ≤ 2000000) (h1 : w.ownsRow base 88 4 av n xs) (h2 : w.ownsRow base 107 3 hv m ys) (h3 : Orw base rv l zs w) (M1 : Mi 1 n xs) (M2 : Mh (1 + n * 4) m ys) (M3 : Ms (1 + n * 4 + m * 3) l zs) :
    Calls Try.prog 20 #[.agg #[.int .i64 num, .bool up, .int .i64 life, .int .i64 peer, .int .i64 since, .bool owes, .int .i64 b, av, .int .i64 nx, hv, .string o, rv], .int .i64 1] w fun e w' => e = .returned (.int .i64 ((1 + n * 4 + m * 3 + l : Nat) : Int)) ∧ Below w.heap.size w w' := by
  obtain ⟨ao, ca, rfl, -, -, -⟩ := rs_of_owns h1
  obtain ⟨io, cb, rfl, -, -, -⟩ := rs_of_owns h2
  obtain ⟨so, cc, rfl, -, -, -⟩ := h3.slice
  obtain ⟨K, hK⟩ : ∃ K : Nat, K = 1 + n * 4 := ⟨_, rfl⟩
  have hKb : 0 < K ∧ K ≤ 10000000 := by omega
  have HK : Hid (K = 1 + n * 4) := hK
  rw [← hK]
  rw [← hK] at M2 M3
  have HC : Hid (∀ u : World, u.ownsRow base 88 4 (.slice ao n ca) n xs → Calls Try.prog 54 #[.agg #[.int .i64 b, .slice ao n ca], .int .i64 1] u fun e w' => e = .returned (.int .i64 (K : Int)) ∧ Below u.heap.size u w') := fun u h => by rw [hK]; exact heldSend_one base b _ n xs u hn h M1
  have HD : Hid (∀ u : World, u.ownsRow base 107 3 (.slice io m cb) m ys → Orw base (.slice so l cc) l zs u → Calls Try.prog 13 #[.agg #[.int .i64 nx, .slice io m cb, .string o, .slice so l cc], .int .i64 (K : Int)] u fun e w' => e = .returned (.int .i64 ((K + m * 3 + l : Nat) : Int)) ∧ Below u.heap.size u w') := fun u g1 g2 => heldTake_any base base nx _ _ o m l K ys zs u hKb.1 (by omega) hm hl g1 g2 M2 M3
  have X0 : Hid (Ex (w.alloc (.cells #[.int .i64 num, .bool up, .int .i64 life, .int .i64 peer, .int .i64 since, .bool owes, .int .i64 b, .slice ao n ca, .int .i64 nx, .slice io m cb, .string o, .slice so l cc] 46)) w.heap.size #[.int .i64 num, .bool up, .int .i64 life, .int .i64 peer, .int .i64 since, .bool owes, .int .i64 b, .slice ao n ca, .int .i64 nx, .slice io m cb, .string o, .slice so l cc]) := Ex.new w _ _
  have H1 : Hid ((w.alloc (.cells #[.int .i64 num, .bool up, .int .i64 life, .int .i64 peer, .int .i64 since, .bool owes, .int .i64 b, .slice ao n ca, .int .i64 nx, .slice io m cb, .string o, .slice so l cc] 46)).ownsRow base 88 4 (.slice ao n ca) n xs) := h1.alloc _
  have H2 : Hid ((w.alloc (.cells #[.int .i64 num, .bool up, .int .i64 life, .int .i64 peer, .int .i64 since, .bool owes, .int .i64 b, .slice ao n ca, .int .i64 nx, .slice io m cb, .string o, .slice so l cc] 46)).ownsRow base 107 3 (.slice io m cb) m ys) := h2.alloc _
  have H3 : Hid (Orw base (.slice so l cc) l zs (w.alloc (.cells #[.int .i64 num, .bool up, .int .i64 life, .int .i64 peer, .int .i64 since, .bool owes, .int .i64 b, .slice ao n ca, .int .i64 nx, .slice io m cb, .string o, .slice so l cc] 46))) := h3.alloc _
  have HB0 : Hid (Below w.heap.size w (w.alloc (.cells #[.int .i64 num, .bool up, .int .i64 life, .int .i64 peer, .int .i64 since, .bool owes, .int .i64 b, .slice ao n ca, .int .i64 nx, .slice io m cb, .string o, .slice so l cc] 46))) := (Below.refl _ _).alloc (Nat.le_refl _) _
  clear h1 h2 h3 hK M1 M2 M3
  go_enter Try.func20, Try.ntmps20
  go_wp2_with (first
    | (go_at_call 54; refine (HC.out _ H1.out).mono ?_; rintro e w1 ⟨rfl, hb1⟩; (have X1 := X0.out.keep hb1); (obtain ⟨c0, c1, c2, c3, c4, c5, c6, c7, c8, c9, c10, c11⟩ := X1.cells))
    | (go_at_call 13; refine (HD.out _ (owns_keep H2.out hb1) (H3.out.keep hb1)).mono ?_; rintro e w2 ⟨rfl, hb2⟩)
    | fail)
  go_ret
  exact ⟨rfl, kb (kb HB0.out hb1 (Nat.le_refl _)) hb2 (Nat.le_refl _)⟩
/-- the three rows of an end, in a stretch of blocks -/
structure R3 (u : World) (lo hi : Nat) (v1 : Value) (n1 : Nat) (x1 : List Value) (v2 : Value) (n2 : Nat) (x2 : List Value) (v3 : Value) (n3 : Nat) (x3 : List Value) : Prop where
  i : Rw u lo hi 88 4 v1 n1 x1
  h : Rw u lo hi 107 3 v2 n2 x2
  s : Rwo u lo hi v3 n3 x3
theorem R3.of {u : World} {lo : Nat} {v1 : Value} {n1 : Nat} {x1 : List Value} {v2 : Value} {n2 : Nat} {x2 : List Value} {v3 : Value} {n3 : Nat} {x3 : List Value} (h1 : u.ownsRow lo 88 4 v1 n1 x1) (h2 : u.ownsRow lo 107 3 v2 n2 x2) (h3 : Orw lo v3 n3 x3 u) : R3 u lo u.heap.size v1 n1 x1 v2 n2 x2 v3 n3 x3 := ⟨.of h1, .of h2, .of h3⟩
theorem R3.keep {u u' : World} {lo hi : Nat} {v1 : Value} {n1 : Nat} {x1 : List Value} {v2 : Value} {n2 : Nat} {x2 : List Value} {v3 : Value} {n3 : Nat} {x3 : List Value} (h : R3 u lo hi v1 n1 x1 v2 n2 x2 v3 n3 x3) (hb : Below u.heap.size u u') : R3 u' lo hi v1 n1 x1 v2 n2 x2 v3 n3 x3 := ⟨h.i.keep hb, h.h.keep hb, h.s.keep hb⟩
theorem R3.alloc {u : World} {lo hi : Nat} {v1 : Value} {n1 : Nat} {x1 : List Value} {v2 : Value} {n2 : Nat} {x2 : List Value} {v3 : Value} {n3 : Nat} {x3 : List Value} (h : R3 u lo hi v1 n1 x1 v2 n2 x2 v3 n3 x3) (o : Obj) : R3 (u.alloc o) lo hi v1 n1 x1 v2 n2 x2 v3 n3 x3 := h.keep ((Below.refl _ _).alloc (Nat.le_refl _) _)
theorem R3.bet {u u' : World} {lo hi lo' hi' : Nat} {v1 : Value} {n1 : Nat} {x1 : List Value} {v2 : Value} {n2 : Nat} {x2 : List Value} {v3 : Value} {n3 : Nat} {x3 : List Value} (h : R3 u lo hi v1 n1 x1 v2 n2 x2 v3 n3 x3) (hb : Bet lo' hi' u u') (ho : hi ≤ lo' ∨ hi' ≤ lo) : R3 u' lo hi v1 n1 x1 v2 n2 x2 v3 n3 x3 := ⟨h.i.bet hb ho, h.h.bet hb ho, h.s.bet hb ho⟩
theorem R3.re {u : World} {lo hi : Nat} {E : En} {a b c : Option Addr} {ca cb cc : Nat} (h : R3 u lo hi (.slice a E.xs.length ca) E.xs.length (is E.xs) (.slice b E.hs.length cb) E.hs.length (hs E.hs) (.slice c E.rs.length cc) E.rs.length (ss E.rs)) : Re u E a b c := ⟨owns_rs h.i.own, owns_rs h.h.own, h.s.own.rr⟩
theorem markEnd_bet (lo hi : Nat) (num : Int) (up : Bool) (life peer since : Int) (owes : Bool) (b nx : Int) (o : ByteArray) (av hv rv : Value) (n m l : Nat) (xs ys zs : List Value) (w : World) (hn : n ≤ 2000000) (hm : m ≤ 2000000) (hl : l ≤ 2000000) (hbs : lo ≤ w.heap.size) (h : R3 w lo hi av n xs hv m ys rv l zs) (K : Nat) (hK : K = 1 + n * 4 + m * 3 + l) :
    Calls Try.prog 19 #[.agg #[.int .i64 num, .bool up, .int .i64 life, .int .i64 peer, .int .i64 since, .bool owes, .int .i64 b, av, .int .i64 nx, hv, .string o, rv], .int .i64 1] w fun e w' => e = .returned (.int .i64 (K : Int)) ∧ (∃ xs' ys' zs', R3 w' lo hi av n xs' hv m ys' rv l zs' ∧ Mi 1 n xs' ∧ Mh (1 + n * 4) m ys' ∧ Ms (1 + n * 4 + m * 3) l zs') ∧ Bet lo hi w w' := by
  subst hK
  refine (markEnd_any lo num up life peer since owes b nx o av hv rv n m l xs ys zs w hn hm hl hbs h.i.own h.h.own h.s.own).mono ?_
  rintro e w' ⟨rfl, ⟨cs, o1, M1⟩, ⟨ds, o2, M2⟩, ⟨ts, o3, M3⟩, wa, wb, g1, g2, g3⟩
  have r1 : ∀ r, av.ownBlock = some r → lo ≤ r ∧ r < hi := fun r e => ⟨(h.i.own.lt r e).1, h.i.lt r e⟩
  have r2 : ∀ r, hv.ownBlock = some r → lo ≤ r ∧ r < hi := fun r e => ⟨(h.h.own.lt r e).1, h.h.lt r e⟩
  have r3 : ∀ r, rv.ownBlock = some r → lo ≤ r ∧ r < hi := fun r e => ⟨(h.s.own.lt r e).1, h.s.lt r e⟩
  exact ⟨rfl, ⟨cs, ds, ts, ⟨⟨o1, h.i.lt⟩, ⟨o2, h.h.lt⟩, ⟨o3, h.s.lt⟩⟩, M1, M2, M3⟩, ((Bet.of_grown g1 r1).trans (Bet.of_grown g2 r2)).trans (Bet.of_grown g3 r3)⟩
theorem heldEnd_bet (lo hi : Nat) (num : Int) (up : Bool) (life peer since : Int) (owes : Bool) (b nx : Int) (o : ByteArray) (av hv rv : Value) (n m l : Nat) (xs ys zs : List Value) (w : World) (hn : n ≤ 2000000) (hm : m ≤ 2000000) (hl : l ≤ 2000000) (h : R3 w lo hi av n xs hv m ys rv l zs) (M1 : Mi 1 n xs) (M2 : Mh (1 + n * 4) m ys) (M3 : Ms (1 + n * 4 + m * 3) l zs) (K : Nat) (hK : K = 1 + n * 4 + m * 3 + l) :
    Calls Try.prog 20 #[.agg #[.int .i64 num, .bool up, .int .i64 life, .int .i64 peer, .int .i64 since, .bool owes, .int .i64 b, av, .int .i64 nx, hv, .string o, rv], .int .i64 1] w fun e w' => e = .returned (.int .i64 (K : Int)) ∧ Below w.heap.size w w' := by
  subst hK
  exact heldEnd_any lo num up life peer since owes b nx o av hv rv n m l xs ys zs w hn hm hl h.i.own h.h.own h.s.own M1 M2 M3
/-- an answer that is an action's, with nothing sent, new from w on -/
def ActPost (code : Int) (E : En) (tx : ByteArray) (w : World) (x : Ending) (w' : World) : Prop := (∃ a1 c1 a2 c2 a3 c3, x = .returned (.agg #[.int .i64 code, .int .i64 E.num, .bool E.up, .int .i64 E.life, .int .i64 E.peer, .int .i64 E.since, .bool E.owes, .int .i64 E.b, .slice a1 E.xs.length c1, .int .i64 E.nx, .slice a2 E.hs.length c2, .string E.o, .slice a3 E.rs.length c3, .slice none 0 0, .string tx]) ∧ w'.ownsRow w.heap.size 88 4 (.slice a1 E.xs.length c1) E.xs.length (is E.xs) ∧ w'.ownsRow w.heap.size 107 3 (.slice a2 E.hs.length c2) E.hs.length (hs E.hs) ∧ Orw w.heap.size (.slice a3 E.rs.length c3) E.rs.length (ss E.rs) w') ∧ Below w.heap.size w w'
set_option maxHeartbeats 1000000 in
theorem eqActed_same (code : Int) (tx : ByteArray) (E : En) (ao ho so bo io to : Option Addr) (ci ch cs di dh ds : Nat) (w : World) (hl1 : E.xs.length ≤ 1000000000) (hl2 : E.hs.length ≤ 1000000000) (hl3 : E.rs.length ≤ 1000000000) (ha : Re w E ao ho so) (hb : Re w E bo io to) :
    Calls Try.prog 23 #[.agg #[.int .i64 code, .int .i64 E.num, .bool E.up, .int .i64 E.life, .int .i64 E.peer, .int .i64 E.since, .bool E.owes, .int .i64 E.b, .slice ao E.xs.length ci, .int .i64 E.nx, .slice ho E.hs.length ch, .string E.o, .slice so E.rs.length cs, .slice none 0 0, .string tx], .agg #[.int .i64 code, .int .i64 E.num, .bool E.up, .int .i64 E.life, .int .i64 E.peer, .int .i64 E.since, .bool E.owes, .int .i64 E.b, .slice bo E.xs.length di, .int .i64 E.nx, .slice io E.hs.length dh, .string E.o, .slice to E.rs.length ds, .slice none 0 0, .string tx]] w fun e' w' => e' = .returned (.bool true) ∧ Below w.heap.size w w' := by
  have HA : Hid (Re w E ao ho so) := ha
  have HB : Hid (Re w E bo io to) := hb
  have HB0 : Hid (∀ (o p : Obj), Below w.heap.size w ((w.alloc o).alloc p)) := fun o p => ((Below.refl _ _).alloc (Nat.le_refl _) _).alloc (by simp) _
  have X0 : Hid (Ex ((w.alloc (.cells #[.int .i64 code, .int .i64 E.num, .bool E.up, .int .i64 E.life, .int .i64 E.peer, .int .i64 E.since, .bool E.owes, .int .i64 E.b, .slice ao E.xs.length ci, .int .i64 E.nx, .slice ho E.hs.length ch, .string E.o, .slice so E.rs.length cs, .slice none 0 0, .string tx] 54)).alloc (.cells #[.int .i64 code, .int .i64 E.num, .bool E.up, .int .i64 E.life, .int .i64 E.peer, .int .i64 E.since, .bool E.owes, .int .i64 E.b, .slice bo E.xs.length di, .int .i64 E.nx, .slice io E.hs.length dh, .string E.o, .slice to E.rs.length ds, .slice none 0 0, .string tx] 54)) w.heap.size #[.int .i64 code, .int .i64 E.num, .bool E.up, .int .i64 E.life, .int .i64 E.peer, .int .i64 E.since, .bool E.owes, .int .i64 E.b, .slice ao E.xs.length ci, .int .i64 E.nx, .slice ho E.hs.length ch, .string E.o, .slice so E.rs.length cs, .slice none 0 0, .string tx]) := (Ex.new w _ _).alloc _
  have Y0 : Hid (Ex ((w.alloc (.cells #[.int .i64 code, .int .i64 E.num, .bool E.up, .int .i64 E.life, .int .i64 E.peer, .int .i64 E.since, .bool E.owes, .int .i64 E.b, .slice ao E.xs.length ci, .int .i64 E.nx, .slice ho E.hs.length ch, .string E.o, .slice so E.rs.length cs, .slice none 0 0, .string tx] 54)).alloc (.cells #[.int .i64 code, .int .i64 E.num, .bool E.up, .int .i64 E.life, .int .i64 E.peer, .int .i64 E.since, .bool E.owes, .int .i64 E.b, .slice bo E.xs.length di, .int .i64 E.nx, .slice io E.hs.length dh, .string E.o, .slice to E.rs.length ds, .slice none 0 0, .string tx] 54)) (w.heap.size + 1) #[.int .i64 code, .int .i64 E.num, .bool E.up, .int .i64 E.life, .int .i64 E.peer, .int .i64 E.since, .bool E.owes, .int .i64 E.b, .slice bo E.xs.length di, .int .i64 E.nx, .slice io E.hs.length dh, .string E.o, .slice to E.rs.length ds, .slice none 0 0, .string tx]) := (by have := Ex.new (w.alloc (.cells #[.int .i64 code, .int .i64 E.num, .bool E.up, .int .i64 E.life, .int .i64 E.peer, .int .i64 E.since, .bool E.owes, .int .i64 E.b, .slice ao E.xs.length ci, .int .i64 E.nx, .slice ho E.hs.length ch, .string E.o, .slice so E.rs.length cs, .slice none 0 0, .string tx] 54)) 54 #[.int .i64 code, .int .i64 E.num, .bool E.up, .int .i64 E.life, .int .i64 E.peer, .int .i64 E.since, .bool E.owes, .int .i64 E.b, .slice bo E.xs.length di, .int .i64 E.nx, .slice io E.hs.length dh, .string E.o, .slice to E.rs.length ds, .slice none 0 0, .string tx]; rw [World.size_alloc] at this; exact this : Ex ((w.alloc (.cells #[.int .i64 code, .int .i64 E.num, .bool E.up, .int .i64 E.life, .int .i64 E.peer, .int .i64 E.since, .bool E.owes, .int .i64 E.b, .slice ao E.xs.length ci, .int .i64 E.nx, .slice ho E.hs.length ch, .string E.o, .slice so E.rs.length cs, .slice none 0 0, .string tx] 54)).alloc (.cells #[.int .i64 code, .int .i64 E.num, .bool E.up, .int .i64 E.life, .int .i64 E.peer, .int .i64 E.since, .bool E.owes, .int .i64 E.b, .slice bo E.xs.length di, .int .i64 E.nx, .slice io E.hs.length dh, .string E.o, .slice to E.rs.length ds, .slice none 0 0, .string tx] 54)) (w.heap.size + 1) #[.int .i64 code, .int .i64 E.num, .bool E.up, .int .i64 E.life, .int .i64 E.peer, .int .i64 E.since, .bool E.owes, .int .i64 E.b, .slice bo E.xs.length di, .int .i64 E.nx, .slice io E.hs.length dh, .string E.o, .slice to E.rs.length ds, .slice none 0 0, .string tx])
  clear ha hb
  go_enter Try.func23, Try.ntmps23
  go_wp2_with (first
    | (go_at_call 18; refine (eqEnd_same E _ _ _ _ _ _ _ _ _ _ _ _ _ hl1 hl2 hl3 (HA.out.keep (HB0.out _ _)) (HB.out.keep (HB0.out _ _))).mono ?_; rintro e' w1 ⟨rfl, hb1⟩; (have X1 := X0.out.keep hb1); (have Y1 := Y0.out.keep hb1); (obtain ⟨c0, c1, c2, c3, c4, c5, c6, c7, c8, c9, c10, c11, c12, c13, c14⟩ := X1.cells15); (obtain ⟨d0, d1, d2, d3, d4, d5, d6, d7, d8, d9, d10, d11, d12, d13, d14⟩ := Y1.cells15))
    | (go_at_call 57; refine (eqPacketS_nil _).mono ?_; rintro e' w2 ⟨rfl, hb2⟩; (have X2 := X1.keep hb2); (have Y2 := Y1.keep hb2); clear c0 c1 c2 c3 c4 c5 c6 c7 c8 c9 c10 c11 c12 c13 c14 d0 d1 d2 d3 d4 d5 d6 d7 d8 d9 d10 d11 d12 d13 d14; (obtain ⟨c0, c1, c2, c3, c4, c5, c6, c7, c8, c9, c10, c11, c12, c13, c14⟩ := X2.cells15); (obtain ⟨d0, d1, d2, d3, d4, d5, d6, d7, d8, d9, d10, d11, d12, d13, d14⟩ := Y2.cells15))
    | fail)
  go_ret
  exact ⟨rfl, kb (kb (HB0.out _ _) hb1 (Nat.le_refl _)) hb2 (Nat.le_refl _)⟩
set_option maxHeartbeats 1000000 in
theorem markActed_bet (lo hi : Nat) (code : Int) (num : Int) (up : Bool) (life peer since : Int) (owes : Bool) (b nx : Int) (o : ByteArray) (tx : ByteArray) (av hv rv : Value) (n m l : Nat) (xs ys zs : List Value) (w : World) (hn : n ≤ 2000000) (hm : m ≤ 2000000) (hl : l ≤ 2000000) (hbs : lo ≤ w.heap.size) (hhi : hi ≤ w.heap.size) (h : R3 w lo hi av n xs hv m ys rv l zs) (K : Nat) (hK : K = 1 + n * 4 + m * 3 + l) :
    Calls Try.prog 24 #[.agg #[.int .i64 code, .int .i64 num, .bool up, .int .i64 life, .int .i64 peer, .int .i64 since, .bool owes, .int .i64 b, av, .int .i64 nx, hv, .string o, rv, .slice none 0 0, .string tx], .int .i64 1] w fun e w' => e = .returned (.int .i64 (K : Int)) ∧ (∃ xs' ys' zs', R3 w' lo hi av n xs' hv m ys' rv l zs' ∧ Mi 1 n xs' ∧ Mh (1 + n * 4) m ys' ∧ Ms (1 + n * 4 + m * 3) l zs') ∧ Bet lo hi w w' := by
  obtain ⟨ao, ca, rfl, -, -, -⟩ := rs_of_owns h.i.own
  obtain ⟨io, cb, rfl, -, -, -⟩ := rs_of_owns h.h.own
  obtain ⟨so, cc, rfl, -, -, -⟩ := h.s.own.slice
  have HC : Hid (∀ u : World, lo ≤ u.heap.size → R3 u lo hi (.slice ao n ca) n xs (.slice io m cb) m ys (.slice so l cc) l zs → Calls Try.prog 19 #[.agg #[.int .i64 num, .bool up, .int .i64 life, .int .i64 peer, .int .i64 since, .bool owes, .int .i64 b, .slice ao n ca, .int .i64 nx, .slice io m cb, .string o, .slice so l cc], .int .i64 1] u fun e w' => e = .returned (.int .i64 (K : Int)) ∧ (∃ xs' ys' zs', R3 w' lo hi (.slice ao n ca) n xs' (.slice io m cb) m ys' (.slice so l cc) l zs' ∧ Mi 1 n xs' ∧ Mh (1 + n * 4) m ys' ∧ Ms (1 + n * 4 + m * 3) l zs') ∧ Bet lo hi u w') := fun u hb h => markEnd_bet lo hi num up life peer since owes b nx o _ _ _ n m l xs ys zs u hn hm hl hb h K hK
  have HB0 : Hid (∀ (o : Obj), Below w.heap.size w (w.alloc o)) := fun o => (Below.refl _ _).alloc (Nat.le_refl _) _
  have X0 : Hid (Ex (w.alloc (.cells #[.int .i64 code, .int .i64 num, .bool up, .int .i64 life, .int .i64 peer, .int .i64 since, .bool owes, .int .i64 b, .slice ao n ca, .int .i64 nx, .slice io m cb, .string o, .slice so l cc, .slice none 0 0, .string tx] 54)) w.heap.size #[.int .i64 code, .int .i64 num, .bool up, .int .i64 life, .int .i64 peer, .int .i64 since, .bool owes, .int .i64 b, .slice ao n ca, .int .i64 nx, .slice io m cb, .string o, .slice so l cc, .slice none 0 0, .string tx]) := Ex.new w _ _
  have H1 : Hid (R3 (w.alloc (.cells #[.int .i64 code, .int .i64 num, .bool up, .int .i64 life, .int .i64 peer, .int .i64 since, .bool owes, .int .i64 b, .slice ao n ca, .int .i64 nx, .slice io m cb, .string o, .slice so l cc, .slice none 0 0, .string tx] 54)) lo hi (.slice ao n ca) n xs (.slice io m cb) m ys (.slice so l cc) l zs) := h.alloc _
  have HS : Hid (lo ≤ (w.alloc (.cells #[.int .i64 code, .int .i64 num, .bool up, .int .i64 life, .int .i64 peer, .int .i64 since, .bool owes, .int .i64 b, .slice ao n ca, .int .i64 nx, .slice io m cb, .string o, .slice so l cc, .slice none 0 0, .string tx] 54)).heap.size) := (by simp; omega : lo ≤ (w.alloc (.cells #[.int .i64 code, .int .i64 num, .bool up, .int .i64 life, .int .i64 peer, .int .i64 since, .bool owes, .int .i64 b, .slice ao n ca, .int .i64 nx, .slice io m cb, .string o, .slice so l cc, .slice none 0 0, .string tx] 54)).heap.size)
  clear h hK
  go_enter Try.func24, Try.ntmps24
  go_wp2_with (first
    | (go_at_call 19; refine (HC.out _ HS.out H1.out).mono ?_; rintro e w1 ⟨rfl, ⟨t1, t2, t3, r1, M1, M2, M3⟩, T1⟩; (have X1 := X0.out.bet T1 (.inr hhi)); (obtain ⟨c0, c1, c2, c3, c4, c5, c6, c7, c8, c9, c10, c11, c12, c13, c14⟩ := X1.cells15))
    | (go_at_call 58; refine (markPacketS_nil K _).mono ?_; rintro e w2 ⟨rfl, hb2⟩)
    | fail)
  go_ret
  exact ⟨rfl, ⟨t1, t2, t3, r1.keep hb2, M1, M2, M3⟩, ((Bet.of_below (HB0.out _)).trans T1).trans (Bet.of_below hb2)⟩
set_option maxHeartbeats 1000000 in
theorem heldActed_bet (lo hi : Nat) (code : Int) (num : Int) (up : Bool) (life peer since : Int) (owes : Bool) (b nx : Int) (o : ByteArray) (tx : ByteArray) (av hv rv : Value) (n m l : Nat) (xs ys zs : List Value) (w : World) (hn : n ≤ 2000000) (hm : m ≤ 2000000) (hl : l ≤ 2000000) (h : R3 w lo hi av n xs hv m ys rv l zs) (M1 : Mi 1 n xs) (M2 : Mh (1 + n * 4) m ys) (M3 : Ms (1 + n * 4 + m * 3) l zs) (K : Nat) (hK : K = 1 + n * 4 + m * 3 + l) :
    Calls Try.prog 25 #[.agg #[.int .i64 code, .int .i64 num, .bool up, .int .i64 life, .int .i64 peer, .int .i64 since, .bool owes, .int .i64 b, av, .int .i64 nx, hv, .string o, rv, .slice none 0 0, .string tx], .int .i64 1] w fun e w' => e = .returned (.int .i64 (K : Int)) ∧ Below w.heap.size w w' := by
  obtain ⟨ao, ca, rfl, -, -, -⟩ := rs_of_owns h.i.own
  obtain ⟨io, cb, rfl, -, -, -⟩ := rs_of_owns h.h.own
  obtain ⟨so, cc, rfl, -, -, -⟩ := h.s.own.slice
  have hK0 : (0 : Int) ≤ (K : Int) := Int.natCast_nonneg K
  have HC : Hid (∀ u : World, R3 u lo hi (.slice ao n ca) n xs (.slice io m cb) m ys (.slice so l cc) l zs → Calls Try.prog 20 #[.agg #[.int .i64 num, .bool up, .int .i64 life, .int .i64 peer, .int .i64 since, .bool owes, .int .i64 b, .slice ao n ca, .int .i64 nx, .slice io m cb, .string o, .slice so l cc], .int .i64 1] u fun e w' => e = .returned (.int .i64 (K : Int)) ∧ Below u.heap.size u w') := fun u h => heldEnd_bet lo hi num up life peer since owes b nx o _ _ _ n m l xs ys zs u hn hm hl h M1 M2 M3 K hK
  have HB0 : Hid (∀ (o : Obj), Below w.heap.size w (w.alloc o)) := fun o => (Below.refl _ _).alloc (Nat.le_refl _) _
  have X0 : Hid (Ex (w.alloc (.cells #[.int .i64 code, .int .i64 num, .bool up, .int .i64 life, .int .i64 peer, .int .i64 since, .bool owes, .int .i64 b, .slice ao n ca, .int .i64 nx, .slice io m cb, .string o, .slice so l cc, .slice none 0 0, .string tx] 54)) w.heap.size #[.int .i64 code, .int .i64 num, .bool up, .int .i64 life, .int .i64 peer, .int .i64 since, .bool owes, .int .i64 b, .slice ao n ca, .int .i64 nx, .slice io m cb, .string o, .slice so l cc, .slice none 0 0, .string tx]) := Ex.new w _ _
  have H1 : Hid (R3 (w.alloc (.cells #[.int .i64 code, .int .i64 num, .bool up, .int .i64 life, .int .i64 peer, .int .i64 since, .bool owes, .int .i64 b, .slice ao n ca, .int .i64 nx, .slice io m cb, .string o, .slice so l cc, .slice none 0 0, .string tx] 54)) lo hi (.slice ao n ca) n xs (.slice io m cb) m ys (.slice so l cc) l zs) := h.alloc _
  clear h hK M1 M2 M3
  go_enter Try.func25, Try.ntmps25
  go_wp2_with (first
    | (go_at_call 20; refine (HC.out _ H1.out).mono ?_; rintro e w1 ⟨rfl, hb1⟩; (have X1 := X0.out.keep hb1); (obtain ⟨c0, c1, c2, c3, c4, c5, c6, c7, c8, c9, c10, c11, c12, c13, c14⟩ := X1.cells15))
    | (go_at_call 59; refine (heldPacketS_nil K _).mono ?_; rintro e w2 ⟨rfl, hb2⟩)
    | fail)
  go_ret
  exact ⟨rfl, kb (kb (HB0.out _) hb1 (Nat.le_refl _)) hb2 (Nat.le_refl _)⟩
end Go.Proofs.Ythjncmgjkejikaa.mp

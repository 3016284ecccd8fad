/-
  WHAT AN ACTION GIVES, with packets sent: compared, marked, held.
-/
import Derived.Test.YtfjedpnagnnobaaGreatAdA
import Derived.Test.YtfjedpnagnnobaaGreatPkS
namespace Go.Proofs.YtfjedpnagnnobaaGreat.mk
open Go.RowKit
set_option linter.unusedVariables false

/-- the rows of an action, in a stretch of blocks -/
structure R4 (u : World) (lo hi : Nat) (v1 : Value) (n1 : Nat) (x1 : List Value) (v2 : Value) (n2 : Nat) (x2 : List Value) (v3 : Value) (n3 : Nat) (x3 : List Value) (v4 : Value) (n4 : Nat) (x4 : List Value) : Prop where
  r : R3 u lo hi v1 n1 x1 v2 n2 x2 v3 n3 x3
  p : Rw u lo hi 54 9 v4 n4 x4
theorem R4.of {u : World} {lo : Nat} {v1 : Value} {n1 : Nat} {x1 : List Value} {v2 : Value} {n2 : Nat} {x2 : List Value} {v3 : Value} {n3 : Nat} {x3 : List Value} {v4 : Value} {n4 : Nat} {x4 : List Value} (h1 : u.ownsRow lo 67 4 v1 n1 x1) (h2 : u.ownsRow lo 95 3 v2 n2 x2) (h3 : u.ownsRow lo 9 1 v3 n3 x3) (h4 : u.ownsRow lo 54 9 v4 n4 x4) : R4 u lo u.heap.size v1 n1 x1 v2 n2 x2 v3 n3 x3 v4 n4 x4 := ⟨.of h1 h2 h3, .of h4⟩
theorem R4.keep {u u' : World} {lo hi : Nat} {v1 : Value} {n1 : Nat} {x1 : List Value} {v2 : Value} {n2 : Nat} {x2 : List Value} {v3 : Value} {n3 : Nat} {x3 : List Value} {v4 : Value} {n4 : Nat} {x4 : List Value} (h : R4 u lo hi v1 n1 x1 v2 n2 x2 v3 n3 x3 v4 n4 x4) (hb : Below u.heap.size u u') : R4 u' lo hi v1 n1 x1 v2 n2 x2 v3 n3 x3 v4 n4 x4 := ⟨h.r.keep hb, h.p.keep hb⟩
theorem R4.alloc {u : World} {lo hi : Nat} {v1 : Value} {n1 : Nat} {x1 : List Value} {v2 : Value} {n2 : Nat} {x2 : List Value} {v3 : Value} {n3 : Nat} {x3 : List Value} {v4 : Value} {n4 : Nat} {x4 : List Value} (h : R4 u lo hi v1 n1 x1 v2 n2 x2 v3 n3 x3 v4 n4 x4) (o : Obj) : R4 (u.alloc o) lo hi v1 n1 x1 v2 n2 x2 v3 n3 x3 v4 n4 x4 := h.keep ((Below.refl _ _).alloc (Nat.le_refl _) _)
theorem R4.bet {u u' : World} {lo hi lo' hi' : Nat} {v1 : Value} {n1 : Nat} {x1 : List Value} {v2 : Value} {n2 : Nat} {x2 : List Value} {v3 : Value} {n3 : Nat} {x3 : List Value} {v4 : Value} {n4 : Nat} {x4 : List Value} (h : R4 u lo hi v1 n1 x1 v2 n2 x2 v3 n3 x3 v4 n4 x4) (hb : Bet lo' hi' u u') (ho : hi ≤ lo' ∨ hi' ≤ lo) : R4 u' lo hi v1 n1 x1 v2 n2 x2 v3 n3 x3 v4 n4 x4 := ⟨h.r.bet hb ho, h.p.bet hb ho⟩
theorem R4.re {u : World} {lo hi : Nat} {E : En} {a b c : Option Addr} {ca cb cc : Nat} {v4 : Value} {n4 : Nat} {x4 : List Value} (h : R4 u lo hi (.slice a E.xs.length ca) E.xs.length (is E.xs) (.slice b E.hs.length cb) E.hs.length (hs E.hs) (.slice c E.rs.length cc) E.rs.length (ss E.rs) v4 n4 x4) : Re u E a b c := h.r.re
theorem R4.rp {u : World} {lo hi : Nat} {v1 : Value} {n1 : Nat} {x1 : List Value} {v2 : Value} {n2 : Nat} {x2 : List Value} {v3 : Value} {n3 : Nat} {x3 : List Value} {d : Option Addr} {cd : Nat} {P : List Pk} (h : R4 u lo hi v1 n1 x1 v2 n2 x2 v3 n3 x3 (.slice d P.length cd) P.length (pks P)) : Rs u d P.length (pks P) := owns_rs h.p.own
/-- an answer that is an action's, with packets sent, new from w on -/
def ActPostP (code : Int) (E : En) (P : List Pk) (tx : ByteArray) (w : World) (x : Ending) (w' : World) : Prop := (∃ a1 c1 a2 c2 a3 c3 a4 c4, x = .returned (.agg #[.int .i64 code, .int .i64 E.num, .bool E.up, .int .i64 E.life, .int .i64 E.peer, .int .i64 E.since, .bool E.owes, .int .i64 E.b, .slice a1 E.xs.length c1, .int .i64 E.nx, .slice a2 E.hs.length c2, .string E.o, .slice a3 E.rs.length c3, .slice a4 P.length c4, .string tx]) ∧ w'.ownsRow w.heap.size 67 4 (.slice a1 E.xs.length c1) E.xs.length (is E.xs) ∧ w'.ownsRow w.heap.size 95 3 (.slice a2 E.hs.length c2) E.hs.length (hs E.hs) ∧ w'.ownsRow w.heap.size 9 1 (.slice a3 E.rs.length c3) E.rs.length (ss E.rs) ∧ w'.ownsRow w.heap.size 54 9 (.slice a4 P.length c4) P.length (pks P)) ∧ Below w.heap.size w w'
set_option maxHeartbeats 1000000 in
theorem eqActedP_same (code : Int) (tx : ByteArray) (E : En) (P : List Pk) (ao ho so po bo io to qo : Option Addr) (ci ch cs cp di dh ds dp : Nat) (w : World) (hl1 : E.xs.length ≤ 1000000000) (hl2 : E.hs.length ≤ 1000000000) (hl3 : E.rs.length ≤ 1000000000) (hl4 : P.length ≤ 1000000000) (ha : Re w E ao ho so) (hap : Rs w po P.length (pks P)) (hb : Re w E bo io to) (hbp : Rs w qo P.length (pks P)) :
    Calls Tryz.prog 9 #[.agg #[.int .i64 code, .int .i64 E.num, .bool E.up, .int .i64 E.life, .int .i64 E.peer, .int .i64 E.since, .bool E.owes, .int .i64 E.b, .slice ao E.xs.length ci, .int .i64 E.nx, .slice ho E.hs.length ch, .string E.o, .slice so E.rs.length cs, .slice po P.length cp, .string tx], .agg #[.int .i64 code, .int .i64 E.num, .bool E.up, .int .i64 E.life, .int .i64 E.peer, .int .i64 E.since, .bool E.owes, .int .i64 E.b, .slice bo E.xs.length di, .int .i64 E.nx, .slice io E.hs.length dh, .string E.o, .slice to E.rs.length ds, .slice qo P.length dp, .string tx]] w fun e' w' => e' = .returned (.bool true) ∧ Below w.heap.size w w' := by
  have HA : Hid (Re w E ao ho so) := ha
  have HB : Hid (Re w E bo io to) := hb
  have HAP : Hid (Rs w po P.length (pks P)) := hap
  have HBP : Hid (Rs w qo P.length (pks P)) := hbp
  have HB0 : Hid (∀ (o p : Obj), Below w.heap.size w ((w.alloc o).alloc p)) := fun o p => ((Below.refl _ _).alloc (Nat.le_refl _) _).alloc (by simp) _
  have X0 : Hid (Ex ((w.alloc (.cells #[.int .i64 code, .int .i64 E.num, .bool E.up, .int .i64 E.life, .int .i64 E.peer, .int .i64 E.since, .bool E.owes, .int .i64 E.b, .slice ao E.xs.length ci, .int .i64 E.nx, .slice ho E.hs.length ch, .string E.o, .slice so E.rs.length cs, .slice po P.length cp, .string tx] 42)).alloc (.cells #[.int .i64 code, .int .i64 E.num, .bool E.up, .int .i64 E.life, .int .i64 E.peer, .int .i64 E.since, .bool E.owes, .int .i64 E.b, .slice bo E.xs.length di, .int .i64 E.nx, .slice io E.hs.length dh, .string E.o, .slice to E.rs.length ds, .slice qo P.length dp, .string tx] 42)) w.heap.size #[.int .i64 code, .int .i64 E.num, .bool E.up, .int .i64 E.life, .int .i64 E.peer, .int .i64 E.since, .bool E.owes, .int .i64 E.b, .slice ao E.xs.length ci, .int .i64 E.nx, .slice ho E.hs.length ch, .string E.o, .slice so E.rs.length cs, .slice po P.length cp, .string tx]) := (Ex.new w _ _).alloc _
  have Y0 : Hid (Ex ((w.alloc (.cells #[.int .i64 code, .int .i64 E.num, .bool E.up, .int .i64 E.life, .int .i64 E.peer, .int .i64 E.since, .bool E.owes, .int .i64 E.b, .slice ao E.xs.length ci, .int .i64 E.nx, .slice ho E.hs.length ch, .string E.o, .slice so E.rs.length cs, .slice po P.length cp, .string tx] 42)).alloc (.cells #[.int .i64 code, .int .i64 E.num, .bool E.up, .int .i64 E.life, .int .i64 E.peer, .int .i64 E.since, .bool E.owes, .int .i64 E.b, .slice bo E.xs.length di, .int .i64 E.nx, .slice io E.hs.length dh, .string E.o, .slice to E.rs.length ds, .slice qo P.length dp, .string tx] 42)) (w.heap.size + 1) #[.int .i64 code, .int .i64 E.num, .bool E.up, .int .i64 E.life, .int .i64 E.peer, .int .i64 E.since, .bool E.owes, .int .i64 E.b, .slice bo E.xs.length di, .int .i64 E.nx, .slice io E.hs.length dh, .string E.o, .slice to E.rs.length ds, .slice qo P.length dp, .string tx]) := (by have := Ex.new (w.alloc (.cells #[.int .i64 code, .int .i64 E.num, .bool E.up, .int .i64 E.life, .int .i64 E.peer, .int .i64 E.since, .bool E.owes, .int .i64 E.b, .slice ao E.xs.length ci, .int .i64 E.nx, .slice ho E.hs.length ch, .string E.o, .slice so E.rs.length cs, .slice po P.length cp, .string tx] 42)) 42 #[.int .i64 code, .int .i64 E.num, .bool E.up, .int .i64 E.life, .int .i64 E.peer, .int .i64 E.since, .bool E.owes, .int .i64 E.b, .slice bo E.xs.length di, .int .i64 E.nx, .slice io E.hs.length dh, .string E.o, .slice to E.rs.length ds, .slice qo P.length dp, .string tx]; rw [World.size_alloc] at this; exact this : Ex ((w.alloc (.cells #[.int .i64 code, .int .i64 E.num, .bool E.up, .int .i64 E.life, .int .i64 E.peer, .int .i64 E.since, .bool E.owes, .int .i64 E.b, .slice ao E.xs.length ci, .int .i64 E.nx, .slice ho E.hs.length ch, .string E.o, .slice so E.rs.length cs, .slice po P.length cp, .string tx] 42)).alloc (.cells #[.int .i64 code, .int .i64 E.num, .bool E.up, .int .i64 E.life, .int .i64 E.peer, .int .i64 E.since, .bool E.owes, .int .i64 E.b, .slice bo E.xs.length di, .int .i64 E.nx, .slice io E.hs.length dh, .string E.o, .slice to E.rs.length ds, .slice qo P.length dp, .string tx] 42)) (w.heap.size + 1) #[.int .i64 code, .int .i64 E.num, .bool E.up, .int .i64 E.life, .int .i64 E.peer, .int .i64 E.since, .bool E.owes, .int .i64 E.b, .slice bo E.xs.length di, .int .i64 E.nx, .slice io E.hs.length dh, .string E.o, .slice to E.rs.length ds, .slice qo P.length dp, .string tx])
  clear ha hb hap hbp
  go_enter Tryz.func9, Tryz.ntmps9
  go_wp2_with (first
    | (go_at_call 10; refine (eqEnd_same E _ _ _ _ _ _ _ _ _ _ _ _ _ hl1 hl2 hl3 (HA.out.keep (HB0.out _ _)) (HB.out.keep (HB0.out _ _))).mono ?_; rintro e' w1 ⟨rfl, hb1⟩; (have X1 := X0.out.keep hb1); (have Y1 := Y0.out.keep hb1); (obtain ⟨c0, c1, c2, c3, c4, c5, c6, c7, c8, c9, c10, c11, c12, c13, c14⟩ := X1.cells15); (obtain ⟨d0, d1, d2, d3, d4, d5, d6, d7, d8, d9, d10, d11, d12, d13, d14⟩ := Y1.cells15))
    | (go_at_call 30; refine (eqPacketS_same _ _ _ _ P _ hl4 (HAP.out.keep (kb (HB0.out _ _) hb1 (Nat.le_refl _))) (HBP.out.keep (kb (HB0.out _ _) hb1 (Nat.le_refl _)))).mono ?_; rintro e' w2 ⟨rfl, hb2⟩; (have X2 := X1.keep hb2); (have Y2 := Y1.keep hb2); clear c0 c1 c2 c3 c4 c5 c6 c7 c8 c9 c10 c11 c12 c13 c14 d0 d1 d2 d3 d4 d5 d6 d7 d8 d9 d10 d11 d12 d13 d14; (obtain ⟨c0, c1, c2, c3, c4, c5, c6, c7, c8, c9, c10, c11, c12, c13, c14⟩ := X2.cells15); (obtain ⟨d0, d1, d2, d3, d4, d5, d6, d7, d8, d9, d10, d11, d12, d13, d14⟩ := Y2.cells15))
    | fail)
  go_ret
  exact ⟨rfl, kb (kb (HB0.out _ _) hb1 (Nat.le_refl _)) hb2 (Nat.le_refl _)⟩
set_option maxHeartbeats 1000000 in
theorem markActedP_bet (lo hi : Nat) (code : Int) (num : Int) (up : Bool) (life peer since : Int) (owes : Bool) (b nx : Int) (o : ByteArray) (tx : ByteArray) (av hv rv pv : Value) (n m l d : Nat) (xs ys zs us : List Value) (w : World) (hn : n ≤ 2000000) (hm : m ≤ 2000000) (hl : l ≤ 2000000) (hd : d ≤ 2000000) (hbs : lo ≤ w.heap.size) (hhi : hi ≤ w.heap.size) (h : R4 w lo hi av n xs hv m ys rv l zs pv d us) (K : Nat) (hK : K = 1 + n * 4 + m * 3 + l + d * 9) :
    Calls Tryz.prog 12 #[.agg #[.int .i64 code, .int .i64 num, .bool up, .int .i64 life, .int .i64 peer, .int .i64 since, .bool owes, .int .i64 b, av, .int .i64 nx, hv, .string o, rv, pv, .string tx], .int .i64 1] w fun e w' => e = .returned (.int .i64 (K : Int)) ∧ (∃ xs' ys' zs' us', R4 w' lo hi av n xs' hv m ys' rv l zs' pv d us' ∧ Mi 1 n xs' ∧ Mh (1 + n * 4) m ys' ∧ Ms (1 + n * 4 + m * 3) l zs' ∧ Mq (1 + n * 4 + m * 3 + l) d us') ∧ Bet lo hi w w' := by
  subst hK
  have r1 : ∀ r, av.ownBlock = some r → lo ≤ r ∧ r < hi := fun r e => ⟨(h.r.i.own.lt r e).1, h.r.i.lt r e⟩
  have r2 : ∀ r, hv.ownBlock = some r → lo ≤ r ∧ r < hi := fun r e => ⟨(h.r.h.own.lt r e).1, h.r.h.lt r e⟩
  have r3 : ∀ r, rv.ownBlock = some r → lo ≤ r ∧ r < hi := fun r e => ⟨(h.r.s.own.lt r e).1, h.r.s.lt r e⟩
  have r4 : ∀ r, pv.ownBlock = some r → lo ≤ r ∧ r < hi := fun r e => ⟨(h.p.own.lt r e).1, h.p.lt r e⟩
  have t1 := h.r.i.lt
  have t2 := h.r.h.lt
  have t3 := h.r.s.lt
  have t4 := h.p.lt
  obtain ⟨ao, ca, rfl, -, -, -⟩ := rs_of_owns h.r.i.own
  obtain ⟨io, cb, rfl, -, -, -⟩ := rs_of_owns h.r.h.own
  obtain ⟨so, cc, rfl, -, -, -⟩ := rs_of_owns h.r.s.own
  obtain ⟨po, cd, rfl, -, -, -⟩ := rs_of_owns h.p.own
  obtain ⟨K, hK⟩ : ∃ K : Nat, K = 1 + n * 4 + m * 3 + l := ⟨_, rfl⟩
  have hKb : 0 < K ∧ K ≤ 1000000000 := by omega
  rw [← hK]
  have HC : Hid (∀ u : World, lo ≤ u.heap.size → R4 u lo hi (.slice ao n ca) n xs (.slice io m cb) m ys (.slice so l cc) l zs (.slice po d cd) d us → Calls Tryz.prog 11 #[.agg #[.int .i64 num, .bool up, .int .i64 life, .int .i64 peer, .int .i64 since, .bool owes, .int .i64 b, .slice ao n ca, .int .i64 nx, .slice io m cb, .string o, .slice so l cc], .int .i64 1] u fun e w' => e = .returned (.int .i64 (K : Int)) ∧ ((∃ xs' ys' zs', w'.ownsRow lo 67 4 (.slice ao n ca) n xs' ∧ w'.ownsRow lo 95 3 (.slice io m cb) m ys' ∧ w'.ownsRow lo 9 1 (.slice so l cc) l zs' ∧ Mi 1 n xs' ∧ Mh (1 + n * 4) m ys' ∧ Ms (1 + n * 4 + m * 3) l zs') ∧ w'.ownsRow lo 54 9 (.slice po d cd) d us) ∧ Bet lo hi u w') := fun u hb h => by
    rw [hK]
    refine (markEnd_any lo num up life peer since owes b nx o _ _ _ n m l xs ys zs u hn hm hl hb h.r.i.own h.r.h.own h.r.s.own).mono ?_
    rintro e w' ⟨rfl, ⟨cs, o1, M1⟩, ⟨ds, o2, M2⟩, ⟨ts, o3, M3⟩, wa, wb, g1, g2, g3⟩
    have p1 := h.p.own.kept g1 (rows_ne6 h.p.own h.r.i.own (by decide))
    have h2a := h.r.h.own.kept g1 (rows_ne6 h.r.h.own h.r.i.own (by decide))
    have h3a := h.r.s.own.kept g1 (rows_ne6 h.r.s.own h.r.i.own (by decide))
    have p2 := p1.kept g2 (rows_ne6 p1 h2a (by decide))
    have h3b := h3a.kept g2 (rows_ne6 h3a h2a (by decide))
    have p3 := p2.kept g3 (rows_ne6 p2 h3b (by decide))
    exact ⟨rfl, ⟨⟨cs, ds, ts, o1, o2, o3, M1, M2, M3⟩, p3⟩, ((Bet.of_grown g1 r1).trans (Bet.of_grown g2 r2)).trans (Bet.of_grown g3 r3)⟩
  have HD : Hid (∀ u : World, u.ownsRow lo 54 9 (.slice po d cd) d us → Calls Tryz.prog 35 #[.slice po d cd, .int .i64 (K : Int)] u fun e w' => e = .returned (.int .i64 ((K + d * 9 : Nat) : Int)) ∧ (∃ cs, w'.ownsRow lo 54 9 (.slice po d cd) d cs ∧ Mq K d cs) ∧ u.grownBy w' (Value.slice po d cd).ownBlock) := fun u h => markPacketS_any lo _ d K us u (by omega) hKb.1 hKb.2 h
  have HB0 : Hid (∀ (o : Obj), Below w.heap.size w (w.alloc o)) := fun o => (Below.refl _ _).alloc (Nat.le_refl _) _
  have X0 : Hid (Ex (w.alloc (.cells #[.int .i64 code, .int .i64 num, .bool up, .int .i64 life, .int .i64 peer, .int .i64 since, .bool owes, .int .i64 b, .slice ao n ca, .int .i64 nx, .slice io m cb, .string o, .slice so l cc, .slice po d cd, .string tx] 42)) w.heap.size #[.int .i64 code, .int .i64 num, .bool up, .int .i64 life, .int .i64 peer, .int .i64 since, .bool owes, .int .i64 b, .slice ao n ca, .int .i64 nx, .slice io m cb, .string o, .slice so l cc, .slice po d cd, .string tx]) := Ex.new w _ _
  have H1 : Hid (R4 (w.alloc (.cells #[.int .i64 code, .int .i64 num, .bool up, .int .i64 life, .int .i64 peer, .int .i64 since, .bool owes, .int .i64 b, .slice ao n ca, .int .i64 nx, .slice io m cb, .string o, .slice so l cc, .slice po d cd, .string tx] 42)) lo hi (.slice ao n ca) n xs (.slice io m cb) m ys (.slice so l cc) l zs (.slice po d cd) d us) := h.alloc _
  have HS : Hid (lo ≤ (w.alloc (.cells #[.int .i64 code, .int .i64 num, .bool up, .int .i64 life, .int .i64 peer, .int .i64 since, .bool owes, .int .i64 b, .slice ao n ca, .int .i64 nx, .slice io m cb, .string o, .slice so l cc, .slice po d cd, .string tx] 42)).heap.size) := (by simp; omega : lo ≤ (w.alloc (.cells #[.int .i64 code, .int .i64 num, .bool up, .int .i64 life, .int .i64 peer, .int .i64 since, .bool owes, .int .i64 b, .slice ao n ca, .int .i64 nx, .slice io m cb, .string o, .slice so l cc, .slice po d cd, .string tx] 42)).heap.size)
  have HT : Hid ((∀ r, (Value.slice ao n ca).ownBlock = some r → r < hi) ∧ (∀ r, (Value.slice io m cb).ownBlock = some r → r < hi) ∧ (∀ r, (Value.slice so l cc).ownBlock = some r → r < hi) ∧ (∀ r, (Value.slice po d cd).ownBlock = some r → r < hi)) := ⟨t1, t2, t3, t4⟩
  have HR4 : Hid (∀ r, (Value.slice po d cd).ownBlock = some r → lo ≤ r ∧ r < hi) := r4
  clear h hK r1 r2 r3 r4 t1 t2 t3 t4
  go_enter Tryz.func12, Tryz.ntmps12
  go_wp2_with (first
    | (go_at_call 11; refine (HC.out _ HS.out H1.out).mono ?_; rintro e w1 ⟨rfl, ⟨⟨u1, u2, u3, o1, o2, o3, M1, M2, M3⟩, o4⟩, T1⟩; (have X1 := X0.out.bet T1 (.inr hhi)); (obtain ⟨c0, c1, c2, c3, c4, c5, c6, c7, c8, c9, c10, c11, c12, c13, c14⟩ := X1.cells15))
    | (go_at_call 35; refine (HD.out _ o4).mono ?_; rintro e w2 ⟨rfl, ⟨u4, o4', M4⟩, g4⟩)
    | fail)
  go_ret
  have k1 := o1.kept g4 (rows_ne6 o1 o4 (by decide))
  have k2 := o2.kept g4 (rows_ne6 o2 o4 (by decide))
  have k3 := o3.kept g4 (rows_ne6 o3 o4 (by decide))
  exact ⟨rfl, ⟨u1, u2, u3, u4, ⟨⟨⟨k1, HT.out.1⟩, ⟨k2, HT.out.2.1⟩, ⟨k3, HT.out.2.2.1⟩⟩, ⟨o4', HT.out.2.2.2⟩⟩, M1, M2, M3, M4⟩, ((Bet.of_below (HB0.out _)).trans T1).trans (Bet.of_grown g4 HR4.out)⟩
set_option maxHeartbeats 1000000 in
theorem heldActedP_bet (lo hi : Nat) (code : Int) (num : Int) (up : Bool) (life peer since : Int) (owes : Bool) (b nx : Int) (o : ByteArray) (tx : ByteArray) (av hv rv pv : Value) (n m l d : Nat) (xs ys zs us : List Value) (w : World) (hn : n ≤ 2000000) (hm : m ≤ 2000000) (hl : l ≤ 2000000) (hd : d ≤ 2000000) (h : R4 w lo hi av n xs hv m ys rv l zs pv d us) (M1 : Mi 1 n xs) (M2 : Mh (1 + n * 4) m ys) (M3 : Ms (1 + n * 4 + m * 3) l zs) (M4 : Mq (1 + n * 4 + m * 3 + l) d us) (K : Nat) (hK : K = 1 + n * 4 + m * 3 + l + d * 9) :
    Calls Tryz.prog 13 #[.agg #[.int .i64 code, .int .i64 num, .bool up, .int .i64 life, .int .i64 peer, .int .i64 since, .bool owes, .int .i64 b, av, .int .i64 nx, hv, .string o, rv, pv, .string tx], .int .i64 1] w fun e w' => e = .returned (.int .i64 (K : Int)) ∧ Below w.heap.size w w' := by
  subst hK
  obtain ⟨ao, ca, rfl, -, -, -⟩ := rs_of_owns h.r.i.own
  obtain ⟨io, cb, rfl, -, -, -⟩ := rs_of_owns h.r.h.own
  obtain ⟨so, cc, rfl, -, -, -⟩ := rs_of_owns h.r.s.own
  obtain ⟨po, cd, rfl, -, -, -⟩ := rs_of_owns h.p.own
  obtain ⟨K, hK⟩ : ∃ K : Nat, K = 1 + n * 4 + m * 3 + l := ⟨_, rfl⟩
  have hKb : 0 < K ∧ K ≤ 1000000000 := by omega
  rw [← hK] at M4 ⊢
  obtain ⟨L, hL⟩ : ∃ L : Nat, L = K + d * 9 := ⟨_, rfl⟩
  rw [← hL]
  have hK0 : (0 : Int) ≤ (K : Int) := Int.natCast_nonneg K
  have hL0 : (0 : Int) ≤ (L : Int) := Int.natCast_nonneg L
  have HC : Hid (∀ u : World, R4 u lo hi (.slice ao n ca) n xs (.slice io m cb) m ys (.slice so l cc) l zs (.slice po d cd) d us → Calls Tryz.prog 36 #[.agg #[.int .i64 num, .bool up, .int .i64 life, .int .i64 peer, .int .i64 since, .bool owes, .int .i64 b, .slice ao n ca, .int .i64 nx, .slice io m cb, .string o, .slice so l cc], .int .i64 1] u fun e w' => e = .returned (.int .i64 (K : Int)) ∧ Below u.heap.size u w') := fun u h => heldEnd_bet lo hi num up life peer since owes b nx o _ _ _ n m l xs ys zs u hn hm hl h.r M1 M2 M3 K hK
  have HD : Hid (∀ u : World, R4 u lo hi (.slice ao n ca) n xs (.slice io m cb) m ys (.slice so l cc) l zs (.slice po d cd) d us → Calls Tryz.prog 37 #[.slice po d cd, .int .i64 (K : Int)] u fun e w' => e = .returned (.int .i64 (L : Int)) ∧ Below u.heap.size u w') := fun u h => by rw [hL]; exact heldPacketS_any lo _ d K us u (by omega) hKb.1 hKb.2 h.p.own M4
  have HB0 : Hid (∀ (o : Obj), Below w.heap.size w (w.alloc o)) := fun o => (Below.refl _ _).alloc (Nat.le_refl _) _
  have X0 : Hid (Ex (w.alloc (.cells #[.int .i64 code, .int .i64 num, .bool up, .int .i64 life, .int .i64 peer, .int .i64 since, .bool owes, .int .i64 b, .slice ao n ca, .int .i64 nx, .slice io m cb, .string o, .slice so l cc, .slice po d cd, .string tx] 42)) w.heap.size #[.int .i64 code, .int .i64 num, .bool up, .int .i64 life, .int .i64 peer, .int .i64 since, .bool owes, .int .i64 b, .slice ao n ca, .int .i64 nx, .slice io m cb, .string o, .slice so l cc, .slice po d cd, .string tx]) := Ex.new w _ _
  have H1 : Hid (R4 (w.alloc (.cells #[.int .i64 code, .int .i64 num, .bool up, .int .i64 life, .int .i64 peer, .int .i64 since, .bool owes, .int .i64 b, .slice ao n ca, .int .i64 nx, .slice io m cb, .string o, .slice so l cc, .slice po d cd, .string tx] 42)) lo hi (.slice ao n ca) n xs (.slice io m cb) m ys (.slice so l cc) l zs (.slice po d cd) d us) := h.alloc _
  clear h hK hL M1 M2 M3 M4
  go_enter Tryz.func13, Tryz.ntmps13
  go_wp2_with (first
    | (go_at_call 36; refine (HC.out _ H1.out).mono ?_; rintro e w1 ⟨rfl, hb1⟩; (have X1 := X0.out.keep hb1); (obtain ⟨c0, c1, c2, c3, c4, c5, c6, c7, c8, c9, c10, c11, c12, c13, c14⟩ := X1.cells15))
    | (go_at_call 37; refine (HD.out _ (H1.out.keep hb1)).mono ?_; rintro e w2 ⟨rfl, hb2⟩)
    | fail)
  go_ret
  exact ⟨rfl, kb (kb (HB0.out _) hb1 (Nat.le_refl _)) hb2 (Nat.le_refl _)⟩
end Go.Proofs.YtfjedpnagnnobaaGreat.mk

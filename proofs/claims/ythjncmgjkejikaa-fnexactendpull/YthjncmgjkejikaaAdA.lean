/-
  WHAT AN ACTION GIVES, with nothing sent: compared, marked, held.
-/
import Derived.Test.YthjncmgjkejikaaMarks
namespace Go.Proofs.Ythjncmgjkejikaa.mk
open Go.RowKit
set_option linter.unusedVariables false

theorem Ex.cells15 {u : World} {B : Nat} {c0 c1 c2 c3 c4 c5 c6 c7 c8 c9 c10 c11 c12 c13 c14 : Value} (h : Ex u B #[c0, c1, c2, c3, c4, c5, c6, c7, c8, c9, c10, c11, c12, c13, c14]) : u.cell? ⟨B, 0, none⟩ = some c0 ∧ u.cell? ⟨B, 1, none⟩ = some c1 ∧ u.cell? ⟨B, 2, none⟩ = some c2 ∧ u.cell? ⟨B, 3, none⟩ = some c3 ∧ u.cell? ⟨B, 4, none⟩ = some c4 ∧ u.cell? ⟨B, 5, none⟩ = some c5 ∧ u.cell? ⟨B, 6, none⟩ = some c6 ∧ u.cell? ⟨B, 7, none⟩ = some c7 ∧ u.cell? ⟨B, 8, none⟩ = some c8 ∧ u.cell? ⟨B, 9, none⟩ = some c9 ∧ u.cell? ⟨B, 10, none⟩ = some c10 ∧ u.cell? ⟨B, 11, none⟩ = some c11 ∧ u.cell? ⟨B, 12, none⟩ = some c12 ∧ u.cell? ⟨B, 13, none⟩ = some c13 ∧ u.cell? ⟨B, 14, none⟩ = some c14 :=
  ⟨h.cell 0, h.cell 1, h.cell 2, h.cell 3, h.cell 4, h.cell 5, h.cell 6, h.cell 7, h.cell 8, h.cell 9, h.cell 10, h.cell 11, h.cell 12, h.cell 13, h.cell 14⟩
/-- an answer that is an action's, with nothing sent, new from w on -/
def ActPost (code : Int) (E : En) (tx : ByteArray) (w : World) (x : Ending) (w' : World) : Prop := (∃ a1 c1 a2 c2 a3 c3, x = .returned (.agg #[.int .i64 code, .int .i64 E.num, .bool E.up, .int .i64 E.life, .int .i64 E.peer, .int .i64 E.since, .bool E.owes, .int .i64 E.b, .slice a1 E.xs.length c1, .int .i64 E.nx, .slice a2 E.hs.length c2, .string E.o, .slice a3 E.rs.length c3, .slice none 0 0, .string tx]) ∧ w'.ownsRow w.heap.size 88 4 (.slice a1 E.xs.length c1) E.xs.length (is E.xs) ∧ w'.ownsRow w.heap.size 107 3 (.slice a2 E.hs.length c2) E.hs.length (hs E.hs) ∧ w'.ownsRow w.heap.size 9 1 (.slice a3 E.rs.length c3) E.rs.length (ss E.rs)) ∧ Below w.heap.size w w'
theorem eqPacketS_nil (w : World) : Calls Try.prog 57 #[.slice none 0 0, .slice none 0 0] w fun e w' => e = .returned (.bool true) ∧ Below w.heap.size w w' := by
  go_enter Try.func57, Try.ntmps57
  go_wp2
  go_loopw [5] (fun i wr => i = .int .i64 0 ∧ wr = w) (fun i _ => 0)
  case atStart => exact ⟨rfl, rfl⟩
  case round =>
    obtain ⟨rfl, rfl⟩ := hrel
    go_wp2
    go_ret
    exact ⟨rfl, Below.refl _ _⟩
theorem markPacketS_nil (K : Nat) (w : World) : Calls Try.prog 58 #[.slice none 0 0, .int .i64 (K : Int)] w fun e w' => e = .returned (.int .i64 (K : Int)) ∧ Below w.heap.size w w' := by
  go_enter Try.func58, Try.ntmps58
  go_wp2
  go_loopw [1, 5] (fun q i wr => q = .int .i64 (K : Int) ∧ i = .int .i64 0 ∧ wr = w) (fun _ _ _ => 0)
  case atStart => exact ⟨rfl, rfl, rfl⟩
  case round =>
    obtain ⟨rfl, rfl, rfl⟩ := hrel
    go_wp2
    go_ret
    exact ⟨rfl, Below.refl _ _⟩
theorem heldPacketS_nil (K : Nat) (w : World) : Calls Try.prog 59 #[.slice none 0 0, .int .i64 (K : Int)] w fun e w' => e = .returned (.int .i64 (K : Int)) ∧ Below w.heap.size w w' := by
  go_enter Try.func59, Try.ntmps59
  go_wp2
  go_loopw [1, 5] (fun q i wr => q = .int .i64 (K : Int) ∧ i = .int .i64 0 ∧ wr = w) (fun _ _ _ => 0)
  case atStart => exact ⟨rfl, rfl, rfl⟩
  case round =>
    obtain ⟨rfl, rfl, rfl⟩ := hrel
    go_wp2
    go_ret
    exact ⟨rfl, Below.refl _ _⟩
set_option maxHeartbeats 1000000 in
theorem eqActed_same (code : Int) (tx : ByteArray) (E : En) (ao ho so bo io to : Option Addr) (ci ch cs di dh ds : Nat) (w : World) (hl1 : E.xs.length ≤ 1000000000) (hl2 : E.hs.length ≤ 1000000000) (hl3 : E.rs.length ≤ 1000000000) (ha : Re w E ao ho so) (hb : Re w E bo io to) :
    Calls Try.prog 23 #[.agg #[.int .i64 code, .int .i64 E.num, .bool E.up, .int .i64 E.life, .int .i64 E.peer, .int .i64 E.since, .bool E.owes, .int .i64 E.b, .slice ao E.xs.length ci, .int .i64 E.nx, .slice ho E.hs.length ch, .string E.o, .slice so E.rs.length cs, .slice none 0 0, .string tx], .agg #[.int .i64 code, .int .i64 E.num, .bool E.up, .int .i64 E.life, .int .i64 E.peer, .int .i64 E.since, .bool E.owes, .int .i64 E.b, .slice bo E.xs.length di, .int .i64 E.nx, .slice io E.hs.length dh, .string E.o, .slice to E.rs.length ds, .slice none 0 0, .string tx]] w fun e' w' => e' = .returned (.bool true) ∧ Below w.heap.size w w' := by
  have HA : Hid (Re w E ao ho so) := ha
  have HB : Hid (Re w E bo io to) := hb
  have HB0 : Hid (∀ (o p : Obj), Below w.heap.size w ((w.alloc o).alloc p)) := fun o p => ((Below.refl _ _).alloc (Nat.le_refl _) _).alloc (by simp) _
  have X0 : Hid (Ex ((w.alloc (.cells #[.int .i64 code, .int .i64 E.num, .bool E.up, .int .i64 E.life, .int .i64 E.peer, .int .i64 E.since, .bool E.owes, .int .i64 E.b, .slice ao E.xs.length ci, .int .i64 E.nx, .slice ho E.hs.length ch, .string E.o, .slice so E.rs.length cs, .slice none 0 0, .string tx] 54)).alloc (.cells #[.int .i64 code, .int .i64 E.num, .bool E.up, .int .i64 E.life, .int .i64 E.peer, .int .i64 E.since, .bool E.owes, .int .i64 E.b, .slice bo E.xs.length di, .int .i64 E.nx, .slice io E.hs.length dh, .string E.o, .slice to E.rs.length ds, .slice none 0 0, .string tx] 54)) w.heap.size #[.int .i64 code, .int .i64 E.num, .bool E.up, .int .i64 E.life, .int .i64 E.peer, .int .i64 E.since, .bool E.owes, .int .i64 E.b, .slice ao E.xs.length ci, .int .i64 E.nx, .slice ho E.hs.length ch, .string E.o, .slice so E.rs.length cs, .slice none 0 0, .string tx]) := (Ex.new w _ _).alloc _
  have Y0 : Hid (Ex ((w.alloc (.cells #[.int .i64 code, .int .i64 E.num, .bool E.up, .int .i64 E.life, .int .i64 E.peer, .int .i64 E.since, .bool E.owes, .int .i64 E.b, .slice ao E.xs.length ci, .int .i64 E.nx, .slice ho E.hs.length ch, .string E.o, .slice so E.rs.length cs, .slice none 0 0, .string tx] 54)).alloc (.cells #[.int .i64 code, .int .i64 E.num, .bool E.up, .int .i64 E.life, .int .i64 E.peer, .int .i64 E.since, .bool E.owes, .int .i64 E.b, .slice bo E.xs.length di, .int .i64 E.nx, .slice io E.hs.length dh, .string E.o, .slice to E.rs.length ds, .slice none 0 0, .string tx] 54)) (w.heap.size + 1) #[.int .i64 code, .int .i64 E.num, .bool E.up, .int .i64 E.life, .int .i64 E.peer, .int .i64 E.since, .bool E.owes, .int .i64 E.b, .slice bo E.xs.length di, .int .i64 E.nx, .slice io E.hs.length dh, .string E.o, .slice to E.rs.length ds, .slice none 0 0, .string tx]) := (by have := Ex.new (w.alloc (.cells #[.int .i64 code, .int .i64 E.num, .bool E.up, .int .i64 E.life, .int .i64 E.peer, .int .i64 E.since, .bool E.owes, .int .i64 E.b, .slice ao E.xs.length ci, .int .i64 E.nx, .slice ho E.hs.length ch, .string E.o, .slice so E.rs.length cs, .slice none 0 0, .string tx] 54)) 54 #[.int .i64 code, .int .i64 E.num, .bool E.up, .int .i64 E.life, .int .i64 E.peer, .int .i64 E.since, .bool E.owes, .int .i64 E.b, .slice bo E.xs.length di, .int .i64 E.nx, .slice io E.hs.length dh, .string E.o, .slice to E.rs.length ds, .slice none 0 0, .string tx]; rw [World.size_alloc] at this; exact this : Ex ((w.alloc (.cells #[.int .i64 code, .int .i64 E.num, .bool E.up, .int .i64 E.life, .int .i64 E.peer, .int .i64 E.since, .bool E.owes, .int .i64 E.b, .slice ao E.xs.length ci, .int .i64 E.nx, .slice ho E.hs.length ch, .string E.o, .slice so E.rs.length cs, .slice none 0 0, .string tx] 54)).alloc (.cells #[.int .i64 code, .int .i64 E.num, .bool E.up, .int .i64 E.life, .int .i64 E.peer, .int .i64 E.since, .bool E.owes, .int .i64 E.b, .slice bo E.xs.length di, .int .i64 E.nx, .slice io E.hs.length dh, .string E.o, .slice to E.rs.length ds, .slice none 0 0, .string tx] 54)) (w.heap.size + 1) #[.int .i64 code, .int .i64 E.num, .bool E.up, .int .i64 E.life, .int .i64 E.peer, .int .i64 E.since, .bool E.owes, .int .i64 E.b, .slice bo E.xs.length di, .int .i64 E.nx, .slice io E.hs.length dh, .string E.o, .slice to E.rs.length ds, .slice none 0 0, .string tx])
  clear ha hb
  go_enter Try.func23, Try.ntmps23
  go_wp2_with (first
    | (go_at_call 18; refine (eqEnd_same E _ _ _ _ _ _ _ _ _ _ _ _ _ hl1 hl2 hl3 (HA.out.keep (HB0.out _ _)) (HB.out.keep (HB0.out _ _))).mono ?_; rintro e' w1 ⟨rfl, hb1⟩; (have X1 := X0.out.keep hb1); (have Y1 := Y0.out.keep hb1); (obtain ⟨c0, c1, c2, c3, c4, c5, c6, c7, c8, c9, c10, c11, c12, c13, c14⟩ := X1.cells15); (obtain ⟨d0, d1, d2, d3, d4, d5, d6, d7, d8, d9, d10, d11, d12, d13, d14⟩ := Y1.cells15))
    | (go_at_call 57; refine (eqPacketS_nil _).mono ?_; rintro e' w2 ⟨rfl, hb2⟩; (have X2 := X1.keep hb2); (have Y2 := Y1.keep hb2); clear c0 c1 c2 c3 c4 c5 c6 c7 c8 c9 c10 c11 c12 c13 c14 d0 d1 d2 d3 d4 d5 d6 d7 d8 d9 d10 d11 d12 d13 d14; (obtain ⟨c0, c1, c2, c3, c4, c5, c6, c7, c8, c9, c10, c11, c12, c13, c14⟩ := X2.cells15); (obtain ⟨d0, d1, d2, d3, d4, d5, d6, d7, d8, d9, d10, d11, d12, d13, d14⟩ := Y2.cells15))
    | fail)
  go_ret
  exact ⟨rfl, kb (kb (HB0.out _ _) hb1 (Nat.le_refl _)) hb2 (Nat.le_refl _)⟩
set_option maxHeartbeats 1000000 in
theorem markActed_bet (lo hi : Nat) (code : Int) (num : Int) (up : Bool) (life peer since : Int) (owes : Bool) (b nx : Int) (o : ByteArray) (tx : ByteArray) (av hv rv : Value) (n m l : Nat) (xs ys zs : List Value) (w : World) (hn : n ≤ 2000000) (hm : m ≤ 2000000) (hl : l ≤ 2000000) (hbs : lo ≤ w.heap.size) (hhi : hi ≤ w.heap.size) (h : R3 w lo hi av n xs hv m ys rv l zs) (K : Nat) (hK : K = 1 + n * 4 + m * 3 + l) :
    Calls Try.prog 24 #[.agg #[.int .i64 code, .int .i64 num, .bool up, .int .i64 life, .int .i64 peer, .int .i64 since, .bool owes, .int .i64 b, av, .int .i64 nx, hv, .string o, rv, .slice none 0 0, .string tx], .int .i64 1] w fun e w' => e = .returned (.int .i64 (K : Int)) ∧ (∃ xs' ys' zs', R3 w' lo hi av n xs' hv m ys' rv l zs' ∧ Mi 1 n xs' ∧ Mh (1 + n * 4) m ys' ∧ Ms (1 + n * 4 + m * 3) l zs') ∧ Bet lo hi w w' := by
  obtain ⟨ao, ca, rfl, -, -, -⟩ := rs_of_owns h.i.own
  obtain ⟨io, cb, rfl, -, -, -⟩ := rs_of_owns h.h.own
  obtain ⟨so, cc, rfl, -, -, -⟩ := rs_of_owns h.s.own
  have HC : Hid (∀ u : World, lo ≤ u.heap.size → R3 u lo hi (.slice ao n ca) n xs (.slice io m cb) m ys (.slice so l cc) l zs → Calls Try.prog 19 #[.agg #[.int .i64 num, .bool up, .int .i64 life, .int .i64 peer, .int .i64 since, .bool owes, .int .i64 b, .slice ao n ca, .int .i64 nx, .slice io m cb, .string o, .slice so l cc], .int .i64 1] u fun e w' => e = .returned (.int .i64 (K : Int)) ∧ (∃ xs' ys' zs', R3 w' lo hi (.slice ao n ca) n xs' (.slice io m cb) m ys' (.slice so l cc) l zs' ∧ Mi 1 n xs' ∧ Mh (1 + n * 4) m ys' ∧ Ms (1 + n * 4 + m * 3) l zs') ∧ Bet lo hi u w') := fun u hb h => markEnd_bet lo hi num up life peer since owes b nx o _ _ _ n m l xs ys zs u hn hm hl hb h K hK
  have HB0 : Hid (∀ (o : Obj), Below w.heap.size w (w.alloc o)) := fun o => (Below.refl _ _).alloc (Nat.le_refl _) _
  have X0 : Hid (Ex (w.alloc (.cells #[.int .i64 code, .int .i64 num, .bool up, .int .i64 life, .int .i64 peer, .int .i64 since, .bool owes, .int .i64 b, .slice ao n ca, .int .i64 nx, .slice io m cb, .string o, .slice so l cc, .slice none 0 0, .string tx] 54)) w.heap.size #[.int .i64 code, .int .i64 num, .bool up, .int .i64 life, .int .i64 peer, .int .i64 since, .bool owes, .int .i64 b, .slice ao n ca, .int .i64 nx, .slice io m cb, .string o, .slice so l cc, .slice none 0 0, .string tx]) := Ex.new w _ _
  have H1 : Hid (R3 (w.alloc (.cells #[.int .i64 code, .int .i64 num, .bool up, .int .i64 life, .int .i64 peer, .int .i64 since, .bool owes, .int .i64 b, .slice ao n ca, .int .i64 nx, .slice io m cb, .string o, .slice so l cc, .slice none 0 0, .string tx] 54)) lo hi (.slice ao n ca) n xs (.slice io m cb) m ys (.slice so l cc) l zs) := h.alloc _
  have HS : Hid (lo ≤ (w.alloc (.cells #[.int .i64 code, .int .i64 num, .bool up, .int .i64 life, .int .i64 peer, .int .i64 since, .bool owes, .int .i64 b, .slice ao n ca, .int .i64 nx, .slice io m cb, .string o, .slice so l cc, .slice none 0 0, .string tx] 54)).heap.size) := (by simp; omega : lo ≤ (w.alloc (.cells #[.int .i64 code, .int .i64 num, .bool up, .int .i64 life, .int .i64 peer, .int .i64 since, .bool owes, .int .i64 b, .slice ao n ca, .int .i64 nx, .slice io m cb, .string o, .slice so l cc, .slice none 0 0, .string tx] 54)).heap.size)
  clear h hK
  go_enter Try.func24, Try.ntmps24
  go_wp2_with (first
    | (go_at_call 19; refine (HC.out _ HS.out H1.out).mono ?_; rintro e w1 ⟨rfl, ⟨t1, t2, t3, r1, M1, M2, M3⟩, T1⟩; (have X1 := X0.out.bet T1 (.inr hhi)); (obtain ⟨c0, c1, c2, c3, c4, c5, c6, c7, c8, c9, c10, c11, c12, c13, c14⟩ := X1.cells15))
    | (go_at_call 58; refine (markPacketS_nil K _).mono ?_; rintro e w2 ⟨rfl, hb2⟩)
    | fail)
  go_ret
  exact ⟨rfl, ⟨t1, t2, t3, r1.keep hb2, M1, M2, M3⟩, ((Bet.of_below (HB0.out _)).trans T1).trans (Bet.of_below hb2)⟩
set_option maxHeartbeats 1000000 in
theorem heldActed_bet (lo hi : Nat) (code : Int) (num : Int) (up : Bool) (life peer since : Int) (owes : Bool) (b nx : Int) (o : ByteArray) (tx : ByteArray) (av hv rv : Value) (n m l : Nat) (xs ys zs : List Value) (w : World) (hn : n ≤ 2000000) (hm : m ≤ 2000000) (hl : l ≤ 2000000) (h : R3 w lo hi av n xs hv m ys rv l zs) (M1 : Mi 1 n xs) (M2 : Mh (1 + n * 4) m ys) (M3 : Ms (1 + n * 4 + m * 3) l zs) (K : Nat) (hK : K = 1 + n * 4 + m * 3 + l) :
    Calls Try.prog 25 #[.agg #[.int .i64 code, .int .i64 num, .bool up, .int .i64 life, .int .i64 peer, .int .i64 since, .bool owes, .int .i64 b, av, .int .i64 nx, hv, .string o, rv, .slice none 0 0, .string tx], .int .i64 1] w fun e w' => e = .returned (.int .i64 (K : Int)) ∧ Below w.heap.size w w' := by
  obtain ⟨ao, ca, rfl, -, -, -⟩ := rs_of_owns h.i.own
  obtain ⟨io, cb, rfl, -, -, -⟩ := rs_of_owns h.h.own
  obtain ⟨so, cc, rfl, -, -, -⟩ := rs_of_owns h.s.own
  have hK0 : (0 : Int) ≤ (K : Int) := Int.natCast_nonneg K
  have HC : Hid (∀ u : World, R3 u lo hi (.slice ao n ca) n xs (.slice io m cb) m ys (.slice so l cc) l zs → Calls Try.prog 20 #[.agg #[.int .i64 num, .bool up, .int .i64 life, .int .i64 peer, .int .i64 since, .bool owes, .int .i64 b, .slice ao n ca, .int .i64 nx, .slice io m cb, .string o, .slice so l cc], .int .i64 1] u fun e w' => e = .returned (.int .i64 (K : Int)) ∧ Below u.heap.size u w') := fun u h => heldEnd_bet lo hi num up life peer since owes b nx o _ _ _ n m l xs ys zs u hn hm hl h M1 M2 M3 K hK
  have HB0 : Hid (∀ (o : Obj), Below w.heap.size w (w.alloc o)) := fun o => (Below.refl _ _).alloc (Nat.le_refl _) _
  have X0 : Hid (Ex (w.alloc (.cells #[.int .i64 code, .int .i64 num, .bool up, .int .i64 life, .int .i64 peer, .int .i64 since, .bool owes, .int .i64 b, .slice ao n ca, .int .i64 nx, .slice io m cb, .string o, .slice so l cc, .slice none 0 0, .string tx] 54)) w.heap.size #[.int .i64 code, .int .i64 num, .bool up, .int .i64 life, .int .i64 peer, .int .i64 since, .bool owes, .int .i64 b, .slice ao n ca, .int .i64 nx, .slice io m cb, .string o, .slice so l cc, .slice none 0 0, .string tx]) := Ex.new w _ _
  have H1 : Hid (R3 (w.alloc (.cells #[.int .i64 code, .int .i64 num, .bool up, .int .i64 life, .int .i64 peer, .int .i64 since, .bool owes, .int .i64 b, .slice ao n ca, .int .i64 nx, .slice io m cb, .string o, .slice so l cc, .slice none 0 0, .string tx] 54)) lo hi (.slice ao n ca) n xs (.slice io m cb) m ys (.slice so l cc) l zs) := h.alloc _
  clear h hK M1 M2 M3
  go_enter Try.func25, Try.ntmps25
  go_wp2_with (first
    | (go_at_call 20; refine (HC.out _ H1.out).mono ?_; rintro e w1 ⟨rfl, hb1⟩; (have X1 := X0.out.keep hb1); (obtain ⟨c0, c1, c2, c3, c4, c5, c6, c7, c8, c9, c10, c11, c12, c13, c14⟩ := X1.cells15))
    | (go_at_call 59; refine (heldPacketS_nil K _).mono ?_; rintro e w2 ⟨rfl, hb2⟩)
    | fail)
  go_ret
  exact ⟨rfl, kb (kb (HB0.out _) hb1 (Nat.le_refl _)) hb2 (Nat.le_refl _)⟩
end Go.Proofs.Ythjncmgjkejikaa.mk

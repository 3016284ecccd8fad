/-
  THE LAW laws.FnExactEndRise: the walk over the contracts, and the row.
-/
import Derived.Test.YtmliinglojmojaaRows
import Derived.WalkKit
import Derived.ProofKit
import Derived.OpenShut
import Derived.ShutString
import Derived.ChangeOld
import Derived.Below
import Derived.Test.YtmliinglojmojaaValE
import Derived.Test.YtmliinglojmojaaOpenEn
import Derived.Test.YtmliinglojmojaaMarks
import Derived.Test.YtmliinglojmojaaRiseE
import Derived.Carry
namespace Go.Proofs.Ytmliinglojmojaa.fnExactEndRise
open Go.ChangeShapes Go.WideShapes Go.ChangeAt Go.RowKit
open Go.ChangeMaps (open_string shut_string)
set_option linter.unusedVariables false

theorem own : ownKnob Try.prog.godebug = none := by kernel_rfl

theorem laidOut : laidOutB Try.prog = true := by kernel_rfl
/-! ### THE WALK of the law -/
set_option maxHeartbeats 8000000 in
theorem walk (e : mk.En) (ao ho so : Option Addr) (ci ch cs : Nat) (w : World) (ha : mk.Ae w e ao ho so) (hm : mk.Se maxLen e) :
    Calls Try.prog 6 #[.agg #[.int .i64 e.num, .bool e.up, .int .i64 e.life, .int .i64 e.peer, .int .i64 e.since, .bool e.owes, .int .i64 e.b, .slice ao e.xs.length ci, .int .i64 e.nx, .slice ho e.hs.length ch, .string e.o, .slice so e.rs.length cs]] w fun e w' => e = .returned (.bool true) ∧ Below w.heap.size w w' := by
  have b0 : Hid (Below w.heap.size w (w.alloc (.cells #[.int .i64 e.num, .bool e.up, .int .i64 e.life, .int .i64 e.peer, .int .i64 e.since, .bool e.owes, .int .i64 e.b, .slice ao e.xs.length ci, .int .i64 e.nx, .slice ho e.hs.length ch, .string e.o, .slice so e.rs.length cs] 39))) := (Below.refl _ _).alloc (Nat.le_refl _) _
  have X0 : Hid (mk.Ex (w.alloc (.cells #[.int .i64 e.num, .bool e.up, .int .i64 e.life, .int .i64 e.peer, .int .i64 e.since, .bool e.owes, .int .i64 e.b, .slice ao e.xs.length ci, .int .i64 e.nx, .slice ho e.hs.length ch, .string e.o, .slice so e.rs.length cs] 39)) w.heap.size #[.int .i64 e.num, .bool e.up, .int .i64 e.life, .int .i64 e.peer, .int .i64 e.since, .bool e.owes, .int .i64 e.b, .slice ao e.xs.length ci, .int .i64 e.nx, .slice ho e.hs.length ch, .string e.o, .slice so e.rs.length cs]) := mk.Ex.new w _ _
  have HA : Hid (mk.Ae w e ao ho so) := ha
  have HM : Hid (mk.Se maxLen e) := hm
  clear ha hm
  go_enter Try.func6, Try.ntmps6
  go_wp2_with (go_at_call 14; refine (mk.szEnd_any e ao ho so ci ch cs _ _ (by omega) HM.out (HA.out.keep b0.out)).mono ?_; rintro e' w1 ⟨⟨z, rfl, hz1, hz2, hz3⟩, hb1⟩; (have HZ : Hid (0 ≤ z → mk.Se 1048576 e) := hz3); clear hz3; (have A1 := X0.out.keep hb1); (obtain ⟨d0, d1, d2, d3, d4, d5, d6, d7, d8, d9, d10, d11⟩ := A1.cells))
  · go_ret
    exact ⟨rfl, mk.kb b0.out hb1 (Nat.le_refl _)⟩
  have HS : Hid (mk.Se 1048576 e) := HZ.out (by omega)
  have B1 := mk.kb b0.out hb1 (Nat.le_refl _)
  clear HZ b0 X0 hb1 HM
  obtain ⟨E, hE⟩ : ∃ E, E = mk.riseOf e := ⟨_, rfl⟩
  have S1 : Hid (∀ (u : World) (g k q : Nat), mk.Re u e (some ⟨g, 0, none⟩) (some ⟨k, 0, none⟩) (some ⟨q, 0, none⟩) → Calls Try.prog 23 #[.agg #[.int .i64 e.num, .bool e.up, .int .i64 e.life, .int .i64 e.peer, .int .i64 e.since, .bool e.owes, .int .i64 e.b, .slice (some ⟨g, 0, none⟩) e.xs.length e.xs.length, .int .i64 e.nx, .slice (some ⟨k, 0, none⟩) e.hs.length e.hs.length, .string e.o, .slice (some ⟨q, 0, none⟩) e.rs.length e.rs.length]] u fun x w' => mk.EndPost E u x w') := fun u g k q hr => by rw [hE]; exact mk.specRise_any e g (some ⟨k, 0, none⟩) (some ⟨q, 0, none⟩) _ _ _ u HS.out hr (fun h => by cases h) (fun h => by cases h)
  have S2 : Hid (∀ (u : World) (g k q : Nat), mk.Re u e (some ⟨g, 0, none⟩) (some ⟨k, 0, none⟩) (some ⟨q, 0, none⟩) → Calls Try.prog 24 #[.agg #[.int .i64 e.num, .bool e.up, .int .i64 e.life, .int .i64 e.peer, .int .i64 e.since, .bool e.owes, .int .i64 e.b, .slice (some ⟨g, 0, none⟩) e.xs.length e.xs.length, .int .i64 e.nx, .slice (some ⟨k, 0, none⟩) e.hs.length e.hs.length, .string e.o, .slice (some ⟨q, 0, none⟩) e.rs.length e.rs.length]] u fun x w' => mk.EndPost E u x w') := fun u g k q hr => by rw [hE]; exact mk.implRise_any e g (some ⟨k, 0, none⟩) (some ⟨q, 0, none⟩) _ _ _ u HS.out hr (fun h => by cases h) (fun h => by cases h)
  have HE : Hid (E.xs.length ≤ 1000000000 ∧ E.hs.length ≤ 1000000000 ∧ E.rs.length ≤ 1000000000) := (by have := mk.riseOf_size HS.out; rw [← hE] at this; omega : E.xs.length ≤ 1000000000 ∧ E.hs.length ≤ 1000000000 ∧ E.rs.length ≤ 1000000000)
  have HE2 : Hid (E.xs.length ≤ 2000000 ∧ E.hs.length ≤ 2000000 ∧ E.rs.length ≤ 2000000) := (by have := mk.riseOf_size HS.out; rw [← hE] at this; omega : E.xs.length ≤ 2000000 ∧ E.hs.length ≤ 2000000 ∧ E.rs.length ≤ 2000000)
  clear hE
  go_wp2_with (first
    | (go_at_call 16; refine (mk.toEnd_any e ao ho so ci ch cs _ HS.out (HA.out.keep B1)).mono ?_; rintro e' w2 ⟨⟨g2, k2, q2, rfl, ho2, hp2, hq2⟩, hb2⟩)
    | (go_at_call 23; refine (S1.out _ _ _ _ ⟨mk.owns_rs ho2, mk.owns_rs hp2, mk.owns_rs hq2⟩).mono ?_; rintro e' w3 ⟨⟨wa, xa, wb, xb, wc, xc, rfl, pw1, pw2, pw3⟩, hb3⟩; (have A3 := ((A1.keep hb2).keep hb3).alloc (.cells #[.int .i64 E.num, .bool E.up, .int .i64 E.life, .int .i64 E.peer, .int .i64 E.since, .bool E.owes, .int .i64 E.b, .slice wa E.xs.length xa, .int .i64 E.nx, .slice wb E.hs.length xb, .string E.o, .slice wc E.rs.length xc] 49)); (have W3 := mk.Ex.new w3 49 #[.int .i64 E.num, .bool E.up, .int .i64 E.life, .int .i64 E.peer, .int .i64 E.since, .bool E.owes, .int .i64 E.b, .slice wa E.xs.length xa, .int .i64 E.nx, .slice wb E.hs.length xb, .string E.o, .slice wc E.rs.length xc]); (have A3' := (A1.keep hb2).keep hb3); (have lt3 := A3'.lt); clear d0 d1 d2 d3 d4 d5 d6 d7 d8 d9 d10 d11; (obtain ⟨d0, d1, d2, d3, d4, d5, d6, d7, d8, d9, d10, d11⟩ := A3'.cells))
    | fail)
  have B2 := mk.kb (mk.kb B1 hb2 (Nat.le_refl _)) hb3 (Nat.le_refl _)
  have B3 := B2.alloc B2.size (.cells #[.int .i64 E.num, .bool E.up, .int .i64 E.life, .int .i64 E.peer, .int .i64 E.since, .bool E.owes, .int .i64 E.b, .slice wa E.xs.length xa, .int .i64 E.nx, .slice wb E.hs.length xb, .string E.o, .slice wc E.rs.length xc] 49)
  have RW := (mk.R3.of pw1 pw2 pw3).alloc (.cells #[.int .i64 E.num, .bool E.up, .int .i64 E.life, .int .i64 E.peer, .int .i64 E.since, .bool E.owes, .int .i64 E.b, .slice wa E.xs.length xa, .int .i64 E.nx, .slice wb E.hs.length xb, .string E.o, .slice wc E.rs.length xc] 49)
  clear ho2 hp2 hq2 hb2 hb3 B1 B2 A1 S1 pw1 pw2 pw3
  go_wp2_with (first
    | (go_at_call 16; refine (mk.toEnd_any e ao ho so ci ch cs _ HS.out (HA.out.keep B3)).mono ?_; rintro e' w4 ⟨⟨g4, k4, q4, rfl, ho4, hp4, hq4⟩, hb4⟩; (have X4 := mk.Ex.new w4 49 #[.int .i64 e.num, .bool e.up, .int .i64 e.life, .int .i64 e.peer, .int .i64 e.since, .bool e.owes, .int .i64 e.b, .slice (some ⟨g4, 0, none⟩) e.xs.length e.xs.length, .int .i64 e.nx, .slice (some ⟨k4, 0, none⟩) e.hs.length e.hs.length, .string e.o, .slice (some ⟨q4, 0, none⟩) e.rs.length e.rs.length]))
    | (go_at_call 24; refine (S2.out _ _ _ _ ⟨mk.owns_rs (ho4.alloc _), mk.owns_rs (hp4.alloc _), mk.owns_rs (hq4.alloc _)⟩).mono ?_; rintro e' w5 ⟨⟨ga, ya, gb, yb, gc, yc, rfl, pg1, pg2, pg3⟩, hb5⟩; (have A5 := ((A3.keep hb4).alloc (.cells #[.int .i64 e.num, .bool e.up, .int .i64 e.life, .int .i64 e.peer, .int .i64 e.since, .bool e.owes, .int .i64 e.b, .slice (some ⟨g4, 0, none⟩) e.xs.length e.xs.length, .int .i64 e.nx, .slice (some ⟨k4, 0, none⟩) e.hs.length e.hs.length, .string e.o, .slice (some ⟨q4, 0, none⟩) e.rs.length e.rs.length] 49)).keep hb5); (have W5 := ((W3.keep hb4).alloc (.cells #[.int .i64 e.num, .bool e.up, .int .i64 e.life, .int .i64 e.peer, .int .i64 e.since, .bool e.owes, .int .i64 e.b, .slice (some ⟨g4, 0, none⟩) e.xs.length e.xs.length, .int .i64 e.nx, .slice (some ⟨k4, 0, none⟩) e.hs.length e.hs.length, .string e.o, .slice (some ⟨q4, 0, none⟩) e.rs.length e.rs.length] 49)).keep hb5); (have X5 := X4.keep hb5); (have RW5 := ((RW.keep hb4).alloc (.cells #[.int .i64 e.num, .bool e.up, .int .i64 e.life, .int .i64 e.peer, .int .i64 e.since, .bool e.owes, .int .i64 e.b, .slice (some ⟨g4, 0, none⟩) e.xs.length e.xs.length, .int .i64 e.nx, .slice (some ⟨k4, 0, none⟩) e.hs.length e.hs.length, .string e.o, .slice (some ⟨q4, 0, none⟩) e.rs.length e.rs.length] 49)).keep hb5); (have RG5 := mk.R3.of pg1 pg2 pg3); clear pg1 pg2 pg3; (have ltA := A5.lt); (have ltW := W5.lt); (have ltX := X5.lt); clear d0 d1 d2 d3 d4 d5 d6 d7 d8 d9 d10 d11; (obtain ⟨d0, d1, d2, d3, d4, d5, d6, d7, d8, d9, d10, d11⟩ := A5.cells); (obtain ⟨v0, v1, v2, v3, v4, v5, v6, v7, v8, v9, v10, v11⟩ := W5.cells); (obtain ⟨x0, x1, x2, x3, x4, x5, x6, x7, x8, x9, x10, x11⟩ := X5.cells))
    | (go_at_call 18; refine (mk.eqEnd_same E _ _ _ _ _ _ _ _ _ _ _ _ _ HE.out.1 HE.out.2.1 HE.out.2.2 (RG5.alloc _).re (RW5.alloc _).re).mono ?_; rintro e' w6 ⟨rfl, hb6⟩; (have G6 := (mk.Ex.new w5 49 #[.int .i64 E.num, .bool E.up, .int .i64 E.life, .int .i64 E.peer, .int .i64 E.since, .bool E.owes, .int .i64 E.b, .slice ga E.xs.length ya, .int .i64 E.nx, .slice gb E.hs.length yb, .string E.o, .slice gc E.rs.length yc]).keep hb6); (have A6 := (A5.alloc (.cells #[.int .i64 E.num, .bool E.up, .int .i64 E.life, .int .i64 E.peer, .int .i64 E.since, .bool E.owes, .int .i64 E.b, .slice ga E.xs.length ya, .int .i64 E.nx, .slice gb E.hs.length yb, .string E.o, .slice gc E.rs.length yc] 49)).keep hb6); (have W6 := (W5.alloc (.cells #[.int .i64 E.num, .bool E.up, .int .i64 E.life, .int .i64 E.peer, .int .i64 E.since, .bool E.owes, .int .i64 E.b, .slice ga E.xs.length ya, .int .i64 E.nx, .slice gb E.hs.length yb, .string E.o, .slice gc E.rs.length yc] 49)).keep hb6); (have X6 := (X5.alloc (.cells #[.int .i64 E.num, .bool E.up, .int .i64 E.life, .int .i64 E.peer, .int .i64 E.since, .bool E.owes, .int .i64 E.b, .slice ga E.xs.length ya, .int .i64 E.nx, .slice gb E.hs.length yb, .string E.o, .slice gc E.rs.length yc] 49)).keep hb6); clear d0 d1 d2 d3 d4 d5 d6 d7 d8 d9 d10 d11 v0 v1 v2 v3 v4 v5 v6 v7 v8 v9 v10 v11 x0 x1 x2 x3 x4 x5 x6 x7 x8 x9 x10 x11; (obtain ⟨d0, d1, d2, d3, d4, d5, d6, d7, d8, d9, d10, d11⟩ := A6.cells); (obtain ⟨v0, v1, v2, v3, v4, v5, v6, v7, v8, v9, v10, v11⟩ := W6.cells); (obtain ⟨x0, x1, x2, x3, x4, x5, x6, x7, x8, x9, x10, x11⟩ := X6.cells); (obtain ⟨m0, m1, m2, m3, m4, m5, m6, m7, m8, m9, m10, m11⟩ := G6.cells))
    | fail)
  have RW6 := (RW5.alloc (.cells #[.int .i64 E.num, .bool E.up, .int .i64 E.life, .int .i64 E.peer, .int .i64 E.since, .bool E.owes, .int .i64 E.b, .slice ga E.xs.length ya, .int .i64 E.nx, .slice gb E.hs.length yb, .string E.o, .slice gc E.rs.length yc] 49)).keep hb6
  have RG6 := (RG5.alloc (.cells #[.int .i64 E.num, .bool E.up, .int .i64 E.life, .int .i64 E.peer, .int .i64 E.since, .bool E.owes, .int .i64 E.b, .slice ga E.xs.length ya, .int .i64 E.nx, .slice gb E.hs.length yb, .string E.o, .slice gc E.rs.length yc] 49)).keep hb6
  have RX6 := (((mk.R3.of ho4 hp4 hq4).alloc (.cells #[.int .i64 e.num, .bool e.up, .int .i64 e.life, .int .i64 e.peer, .int .i64 e.since, .bool e.owes, .int .i64 e.b, .slice (some ⟨g4, 0, none⟩) e.xs.length e.xs.length, .int .i64 e.nx, .slice (some ⟨k4, 0, none⟩) e.hs.length e.hs.length, .string e.o, .slice (some ⟨q4, 0, none⟩) e.rs.length e.rs.length] 49)).keep hb5).alloc (.cells #[.int .i64 E.num, .bool E.up, .int .i64 E.life, .int .i64 E.peer, .int .i64 E.since, .bool E.owes, .int .i64 E.b, .slice ga E.xs.length ya, .int .i64 E.nx, .slice gb E.hs.length yb, .string E.o, .slice gc E.rs.length yc] 49) |>.keep hb6
  have B5 := mk.kb ((mk.kb B3 hb4 (Nat.le_refl _)).alloc (mk.kb B3 hb4 (Nat.le_refl _)).size (.cells #[.int .i64 e.num, .bool e.up, .int .i64 e.life, .int .i64 e.peer, .int .i64 e.since, .bool e.owes, .int .i64 e.b, .slice (some ⟨g4, 0, none⟩) e.xs.length e.xs.length, .int .i64 e.nx, .slice (some ⟨k4, 0, none⟩) e.hs.length e.hs.length, .string e.o, .slice (some ⟨q4, 0, none⟩) e.rs.length e.rs.length] 49)) hb5 (Nat.le_refl _)
  have B6 : Hid (Below w.heap.size w w6) := mk.kb (B5.alloc B5.size (.cells #[.int .i64 E.num, .bool E.up, .int .i64 E.life, .int .i64 E.peer, .int .i64 E.since, .bool E.owes, .int .i64 E.b, .slice ga E.xs.length ya, .int .i64 E.nx, .slice gb E.hs.length yb, .string E.o, .slice gc E.rs.length yc] 49)) hb6 (Nat.le_refl _)
  have hs6 : w.heap.size < w6.heap.size := A6.lt
  have hx6 : w4.heap.size < w6.heap.size := X6.lt
  have s4 := hb4.size
  have s5 := hb5.size
  have s6 := hb6.size
  simp only [World.size_alloc] at s4 s5 s6 RW6 RX6 RG6
  have hl : w.heap.size < w3.heap.size := lt3
  clear ho4 hp4 hq4 hb4 hb5 hb6 B3 B5 A3 A3' A5 W3 W5 X4 X5 RW RW5 RG5
  have R6 : Hid (mk.Re w6 e (some ⟨g4, 0, none⟩) (some ⟨k4, 0, none⟩) (some ⟨q4, 0, none⟩)) := RX6.re
  have HRW : Hid _ := RW6
  have HRG : Hid _ := RG6
  have HRX : Hid _ := RX6
  clear RW6 RG6 RX6
  go_wp2
  go_region_held3 (fun w' => w'.cell? ⟨w.heap.size, 0, none⟩ = some (.int .i64 e.num) ∧ w'.cell? ⟨w.heap.size, 1, none⟩ = some (.bool e.up) ∧ w'.cell? ⟨w.heap.size, 2, none⟩ = some (.int .i64 e.life) ∧ w'.cell? ⟨w.heap.size, 3, none⟩ = some (.int .i64 e.peer) ∧ w'.cell? ⟨w.heap.size, 4, none⟩ = some (.int .i64 e.since) ∧ w'.cell? ⟨w.heap.size, 5, none⟩ = some (.bool e.owes) ∧ w'.cell? ⟨w.heap.size, 6, none⟩ = some (.int .i64 e.b) ∧ w'.cell? ⟨w.heap.size, 7, none⟩ = some (.slice ao e.xs.length ci) ∧ w'.cell? ⟨w.heap.size, 8, none⟩ = some (.int .i64 e.nx) ∧ w'.cell? ⟨w.heap.size, 9, none⟩ = some (.slice ho e.hs.length ch) ∧ w'.cell? ⟨w.heap.size, 10, none⟩ = some (.string e.o) ∧ w'.cell? ⟨w.heap.size, 11, none⟩ = some (.slice so e.rs.length cs) ∧ w'.cell? ⟨w4.heap.size, 0, none⟩ = some (.int .i64 e.num) ∧ w'.cell? ⟨w4.heap.size, 1, none⟩ = some (.bool e.up) ∧ w'.cell? ⟨w4.heap.size, 2, none⟩ = some (.int .i64 e.life) ∧ w'.cell? ⟨w4.heap.size, 3, none⟩ = some (.int .i64 e.peer) ∧ w'.cell? ⟨w4.heap.size, 4, none⟩ = some (.int .i64 e.since) ∧ w'.cell? ⟨w4.heap.size, 5, none⟩ = some (.bool e.owes) ∧ w'.cell? ⟨w4.heap.size, 6, none⟩ = some (.int .i64 e.b) ∧ w'.cell? ⟨w4.heap.size, 7, none⟩ = some (.slice (some ⟨g4, 0, none⟩) e.xs.length e.xs.length) ∧ w'.cell? ⟨w4.heap.size, 8, none⟩ = some (.int .i64 e.nx) ∧ w'.cell? ⟨w4.heap.size, 9, none⟩ = some (.slice (some ⟨k4, 0, none⟩) e.hs.length e.hs.length) ∧ w'.cell? ⟨w4.heap.size, 10, none⟩ = some (.string e.o) ∧ w'.cell? ⟨w4.heap.size, 11, none⟩ = some (.slice (some ⟨q4, 0, none⟩) e.rs.length e.rs.length) ∧ Below w6.heap.size w6 w')
    (first | assumption | exact ⟨d0, d1, d2, d3, d4, d5, d6, d7, d8, d9, d10, d11, x0, x1, x2, x3, x4, x5, x6, x7, x8, x9, x10, x11, (Below.refl _ _).drew⟩ | (go_split_ands; refine ⟨mk.kp (by assumption) (by assumption) hb7 hs6, mk.kp (by assumption) (by assumption) hb7 hs6, mk.kp (by assumption) (by assumption) hb7 hs6, mk.kp (by assumption) (by assumption) hb7 hs6, mk.kp (by assumption) (by assumption) hb7 hs6, mk.kp (by assumption) (by assumption) hb7 hs6, mk.kp (by assumption) (by assumption) hb7 hs6, mk.kp (by assumption) (by assumption) hb7 hs6, mk.kp (by assumption) (by assumption) hb7 hs6, mk.kp (by assumption) (by assumption) hb7 hs6, mk.kp (by assumption) (by assumption) hb7 hs6, mk.kp (by assumption) (by assumption) hb7 hs6, mk.kp (by assumption) (by assumption) hb7 hx6, mk.kp (by assumption) (by assumption) hb7 hx6, mk.kp (by assumption) (by assumption) hb7 hx6, mk.kp (by assumption) (by assumption) hb7 hx6, mk.kp (by assumption) (by assumption) hb7 hx6, mk.kp (by assumption) (by assumption) hb7 hx6, mk.kp (by assumption) (by assumption) hb7 hx6, mk.kp (by assumption) (by assumption) hb7 hx6, mk.kp (by assumption) (by assumption) hb7 hx6, mk.kp (by assumption) (by assumption) hb7 hx6, mk.kp (by assumption) (by assumption) hb7 hx6, mk.kp (by assumption) (by assumption) hb7 hx6, mk.kb (by assumption) hb7 (Nat.le_refl _)⟩))
    (first
      | (go_at_call 16; refine (mk.toEnd_any e ao ho so ci ch cs _ HS.out (HA.out.keep (mk.kb B6.out (by go_split_ands; assumption) (Nat.le_refl _)))).mono ?_; rintro e' w7 ⟨⟨g7, k7, q7, rfl, ho7, hp7, hq7⟩, hb7⟩)
      | (go_at_call 18; refine (mk.eqEnd_same e _ _ _ _ _ _ _ _ _ _ _ _ _ (by have := HS.out.n; omega) (by have := HS.out.tk.n; omega) (by have := HS.out.tk.k; omega) (R6.out.keep (by go_split_ands; assumption)) ⟨mk.owns_rs ho7, mk.owns_rs hp7, mk.owns_rs hq7⟩).mono ?_; rintro e' w7 ⟨rfl, hb7⟩))
  have hbl : Below w6.heap.size w6 w7 := by go_split_ands; assumption
  have A7 := A6.keep hbl
  have W7 := W6.keep hbl
  have X7 := X6.keep hbl
  have G7 := G6.keep hbl
  have B7 : Hid (Below w.heap.size w w7) := mk.kb B6.out hbl (Nat.le_refl _)
  have RW7 : Hid _ := HRW.out.keep hbl
  have RG7 : Hid _ := HRG.out.keep hbl
  have RX7 : Hid _ := HRX.out.keep hbl
  have s7 := hbl.size
  clear d0 d1 d2 d3 d4 d5 d6 d7 d8 d9 d10 d11 x0 x1 x2 x3 x4 x5 x6 x7 x8 x9 x10 x11 v0 v1 v2 v3 v4 v5 v6 v7 v8 v9 v10 v11 m0 m1 m2 m3 m4 m5 m6 m7 m8 m9 m10 m11
  clear HRW HRG HRX A6 W6 X6 G6 R6 B6 hbl
  (obtain ⟨d0, d1, d2, d3, d4, d5, d6, d7, d8, d9, d10, d11⟩ := A7.cells); (obtain ⟨v0, v1, v2, v3, v4, v5, v6, v7, v8, v9, v10, v11⟩ := W7.cells); (obtain ⟨x0, x1, x2, x3, x4, x5, x6, x7, x8, x9, x10, x11⟩ := X7.cells); (obtain ⟨m0, m1, m2, m3, m4, m5, m6, m7, m8, m9, m10, m11⟩ := G7.cells)
  obtain ⟨K, hK⟩ : ∃ K : Nat, K = 1 + e.xs.length * 4 + e.hs.length * 3 + e.rs.length := ⟨_, rfl⟩
  have HK1 : Hid (K = 1 + e.xs.length * 4 + e.hs.length * 3 + e.rs.length) := hK
  have hK0 : (0 : Int) ≤ (K : Int) := Int.natCast_nonneg K
  clear hK
  go_wp2_with (first
    | (go_at_call 21; refine (mk.markEnd_bet (w3.heap.size + 1) w4.heap.size e.num e.up e.life e.peer e.since e.owes e.b e.nx e.o _ _ _ _ _ _ _ _ _ w7 (by have := HS.out.n; omega) (by have := HS.out.tk.n; omega) (by have := HS.out.tk.k; omega) (by omega) RX7.out K HK1.out).mono ?_; rintro e' w8 ⟨rfl, -, T8⟩; (have A8 := A7.bet T8 (by omega)); (have W8 := W7.bet T8 (by omega)); (have G8 := G7.bet T8 (by omega)); clear d0 d1 d2 d3 d4 d5 d6 d7 d8 d9 d10 d11 x0 x1 x2 x3 x4 x5 x6 x7 x8 x9 x10 x11 v0 v1 v2 v3 v4 v5 v6 v7 v8 v9 v10 v11 m0 m1 m2 m3 m4 m5 m6 m7 m8 m9 m10 m11; (obtain ⟨d0, d1, d2, d3, d4, d5, d6, d7, d8, d9, d10, d11⟩ := A8.cells); (obtain ⟨v0, v1, v2, v3, v4, v5, v6, v7, v8, v9, v10, v11⟩ := W8.cells); (obtain ⟨m0, m1, m2, m3, m4, m5, m6, m7, m8, m9, m10, m11⟩ := G8.cells))
    | fail)
  have RW8 : Hid _ := RW7.out.bet T8 (by omega)
  have RG8 : Hid _ := RG7.out.bet T8 (by omega)
  have B8 : Hid (Below w.heap.size w w8) := B7.out.trans (T8.below (by omega) (by omega))
  have s8 := T8.size
  clear T8 A7 W7 X7 G7 B7 RW7 RG7 RX7
  obtain ⟨M, hM⟩ : ∃ M : Nat, M = 1 + E.xs.length * 4 + E.hs.length * 3 + E.rs.length := ⟨_, rfl⟩
  have HM1 : Hid (M = 1 + E.xs.length * 4 + E.hs.length * 3 + E.rs.length) := hM
  have hM0 : (0 : Int) ≤ (M : Int) := Int.natCast_nonneg M
  clear hM
  go_wp2_with (first
    | (go_at_call 18; refine (mk.eqEnd_same E _ _ _ _ _ _ _ _ _ _ _ _ _ HE.out.1 HE.out.2.1 HE.out.2.2 RG8.out.re RW8.out.re).mono ?_; rintro e' w9 ⟨rfl, hb9⟩; (have A9 := A8.keep hb9); (have W9 := W8.keep hb9); (have G9 := G8.keep hb9); (have RW9 : Hid _ := RW8.out.keep hb9); (have RG9 : Hid _ := RG8.out.keep hb9); (have s9 := hb9.size); clear d0 d1 d2 d3 d4 d5 d6 d7 d8 d9 d10 d11 v0 v1 v2 v3 v4 v5 v6 v7 v8 v9 v10 v11 m0 m1 m2 m3 m4 m5 m6 m7 m8 m9 m10 m11; (obtain ⟨d0, d1, d2, d3, d4, d5, d6, d7, d8, d9, d10, d11⟩ := A9.cells); (obtain ⟨v0, v1, v2, v3, v4, v5, v6, v7, v8, v9, v10, v11⟩ := W9.cells); (obtain ⟨m0, m1, m2, m3, m4, m5, m6, m7, m8, m9, m10, m11⟩ := G9.cells))
    | fail)
  go_wp2_with (first
    | (go_at_call 21; refine (mk.markEnd_bet (w4.heap.size + 1) w5.heap.size E.num E.up E.life E.peer E.since E.owes E.b E.nx E.o _ _ _ _ _ _ _ _ _ w9 HE2.out.1 HE2.out.2.1 HE2.out.2.2 (by omega) RG9.out M HM1.out).mono ?_; rintro e' w10 ⟨rfl, ⟨t1, t2, t3, RGm, M1, M2, M3⟩, T10⟩; (have A10 := A9.bet T10 (by omega)); (have W10 := W9.bet T10 (by omega)); (have G10 := G9.bet T10 (by omega)); clear d0 d1 d2 d3 d4 d5 d6 d7 d8 d9 d10 d11 v0 v1 v2 v3 v4 v5 v6 v7 v8 v9 v10 v11 m0 m1 m2 m3 m4 m5 m6 m7 m8 m9 m10 m11; (obtain ⟨d0, d1, d2, d3, d4, d5, d6, d7, d8, d9, d10, d11⟩ := A10.cells); (obtain ⟨v0, v1, v2, v3, v4, v5, v6, v7, v8, v9, v10, v11⟩ := W10.cells); (obtain ⟨m0, m1, m2, m3, m4, m5, m6, m7, m8, m9, m10, m11⟩ := G10.cells))
    | fail)
  have RW10 : Hid _ := RW9.out.bet T10 (by omega)
  have RG10 : Hid _ := RGm
  have HM2 : Hid (mk.Mi 1 E.xs.length t1 ∧ mk.Mh (1 + E.xs.length * 4) E.hs.length t2 ∧ mk.Ms (1 + E.xs.length * 4 + E.hs.length * 3) E.rs.length t3) := ⟨M1, M2, M3⟩
  have B9 := mk.kb B8.out hb9 (Nat.le_refl _)
  have B10 : Hid (Below w.heap.size w w10) := B9.trans (T10.below (by omega) (by omega))
  have s10 := T10.size
  clear RGm M1 M2 M3 T10 B8 B9 hb9 A8 A9 W8 W9 G8 G9 RW8 RW9 RG8 RG9
  go_wp2_with (first
    | (go_at_call 22; refine (mk.heldEnd_bet (w4.heap.size + 1) w5.heap.size E.num E.up E.life E.peer E.since E.owes E.b E.nx E.o _ _ _ _ _ _ _ _ _ w10 HE2.out.1 HE2.out.2.1 HE2.out.2.2 RG10.out HM2.out.1 HM2.out.2.1 HM2.out.2.2 M HM1.out).mono ?_; rintro e' w11 ⟨rfl, hb11⟩; (have A11 := A10.keep hb11); (have W11 := W10.keep hb11); (have G11 := G10.keep hb11); clear d0 d1 d2 d3 d4 d5 d6 d7 d8 d9 d10 d11 v0 v1 v2 v3 v4 v5 v6 v7 v8 v9 v10 v11 m0 m1 m2 m3 m4 m5 m6 m7 m8 m9 m10 m11; (obtain ⟨d0, d1, d2, d3, d4, d5, d6, d7, d8, d9, d10, d11⟩ := A11.cells); (obtain ⟨v0, v1, v2, v3, v4, v5, v6, v7, v8, v9, v10, v11⟩ := W11.cells); (obtain ⟨m0, m1, m2, m3, m4, m5, m6, m7, m8, m9, m10, m11⟩ := G11.cells))
    | fail)
  have B11 := mk.kb B10.out hb11 (Nat.le_refl _)
  have RW11 : Hid _ := RW10.out.keep hb11
  have RG11 : Hid _ := RG10.out.keep hb11
  clear RW10 RG10 B10 hb11 A10 W10 G10
  go_wp2_with (first
    | (go_at_call 16; refine (mk.toEnd_any e ao ho so ci ch cs _ HS.out (HA.out.keep B11)).mono ?_; rintro e' w12 ⟨⟨g12, k12, q12, rfl, ho12, hp12, hq12⟩, hb12⟩)
    | (go_at_call 24; refine (S2.out _ _ _ _ ⟨mk.owns_rs ho12, mk.owns_rs hp12, mk.owns_rs hq12⟩).mono ?_; rintro e' w13 ⟨⟨ja, za, jb, zb, jc, zc, rfl, ph1, ph2, ph3⟩, hb13⟩; (have W13 := (W11.keep hb12).keep hb13); (have G13 := (G11.keep hb12).keep hb13); (have lt13 := W13.lt); (have lu13 := G13.lt); (have RW13 : Hid _ := (RW11.out.keep hb12).keep hb13); (have RG13 : Hid _ := (RG11.out.keep hb12).keep hb13); (have RH13 : Hid _ := mk.R3.of ph1 ph2 ph3); clear ph1 ph2 ph3; clear d0 d1 d2 d3 d4 d5 d6 d7 d8 d9 d10 d11 v0 v1 v2 v3 v4 v5 v6 v7 v8 v9 v10 v11 m0 m1 m2 m3 m4 m5 m6 m7 m8 m9 m10 m11; (obtain ⟨v0, v1, v2, v3, v4, v5, v6, v7, v8, v9, v10, v11⟩ := W13.cells); (obtain ⟨m0, m1, m2, m3, m4, m5, m6, m7, m8, m9, m10, m11⟩ := G13.cells))
    | (go_at_call 18; refine (mk.eqEnd_same E _ _ _ _ _ _ _ _ _ _ _ _ _ HE.out.1 HE.out.2.1 HE.out.2.2 (RH13.out.alloc _).re (RW13.out.alloc _).re).mono ?_; rintro e' w14 ⟨rfl, hb14⟩; (have G14 := (G13.alloc (.cells #[.int .i64 E.num, .bool E.up, .int .i64 E.life, .int .i64 E.peer, .int .i64 E.since, .bool E.owes, .int .i64 E.b, .slice ja E.xs.length za, .int .i64 E.nx, .slice jb E.hs.length zb, .string E.o, .slice jc E.rs.length zc] 49)).keep hb14); clear v0 v1 v2 v3 v4 v5 v6 v7 v8 v9 v10 v11 m0 m1 m2 m3 m4 m5 m6 m7 m8 m9 m10 m11; (obtain ⟨m0, m1, m2, m3, m4, m5, m6, m7, m8, m9, m10, m11⟩ := G14.cells))
    | fail)
  have B13 := mk.kb (mk.kb B11 hb12 (Nat.le_refl _)) hb13 (Nat.le_refl _)
  have B14 := mk.kb (B13.alloc B13.size (.cells #[.int .i64 E.num, .bool E.up, .int .i64 E.life, .int .i64 E.peer, .int .i64 E.since, .bool E.owes, .int .i64 E.b, .slice ja E.xs.length za, .int .i64 E.nx, .slice jb E.hs.length zb, .string E.o, .slice jc E.rs.length zc] 49)) hb14 (Nat.le_refl _)
  have RG14 : Hid _ := (RG13.out.alloc (.cells #[.int .i64 E.num, .bool E.up, .int .i64 E.life, .int .i64 E.peer, .int .i64 E.since, .bool E.owes, .int .i64 E.b, .slice ja E.xs.length za, .int .i64 E.nx, .slice jb E.hs.length zb, .string E.o, .slice jc E.rs.length zc] 49)).keep hb14
  clear B11 B13 hb12 hb13 hb14 ho12 hp12 hq12 RG13 RW13 RH13 RW11 RG11
  go_wp2_with (first
    | (go_at_call 22; refine (mk.heldEnd_bet (w4.heap.size + 1) w5.heap.size E.num E.up E.life E.peer E.since E.owes E.b E.nx E.o _ _ _ _ _ _ _ _ _ w14 HE2.out.1 HE2.out.2.1 HE2.out.2.2 RG14.out HM2.out.1 HM2.out.2.1 HM2.out.2.2 M HM1.out).mono ?_; rintro e' w15 ⟨rfl, hb15⟩)
    | fail)
  go_ret
  exact ⟨rfl, mk.kb B14 hb15 (Nat.le_refl _)⟩

set_option maxRecDepth 100000 in
theorem lifted (os : Os) (started : os.Started) (H : Type) (enc : TypeId × Value → H) :
    ReturnsInHanded {} Try.checked os 6 .any (Rows.fnExactEndRiseSpec.pre6 enc Try.prog Try.f6 Rows.fnExactEndRiseRow.domain false) (Rows.fnExactEndRiseSpec.post enc Try.prog Try.f6 false true false false) := by
  refine returnsInHanded_of_change (C := Try.checked) own started (by kernel_rfl) Try.func6
    (ChangeSpec.witness6 (enc := enc) (C := Try.checked) false ⟨#[], #[.agg #[.int .i64 0, .bool false, .int .i64 0, .int .i64 0, .int .i64 0, .bool false, .int .i64 0, .slice none 0 0, .int .i64 0, .slice none 0 0, .string ByteArray.empty, .slice none 0 0]], []⟩ 8 (by kernel_rfl) (by kernel_rfl) (by kernel_rfl) (by kernel_rfl)) ?_
  intro W base args ds gs before hval0 hW hcnd _
  have hval : ∀ (j : Nat) t v, Try.f6.params[j]? = some t → args[j]? = some v → Value.okWide Try.prog W .any base t v := hval0
  have hW' := hW
  obtain ⟨p, q, hA0, hV, rfl, hfz, hnd⟩ := hW
  have hA : DataW.TrodAll enc Try.prog W 0 (fun _ => true) true Try.f6.params.toList args.toList ds p := hA0
  rw [Try.params6] at hA hval
  obtain ⟨v0, vs0, d0, ds0, p0, q0, hargs, rfl, rfl, h0, r0⟩ := trodAll_cons hA
  obtain ⟨rfl, rfl, rfl⟩ := trodAll_nil r0
  obtain rfl : args = #[v0] := by cases args; simp_all
  obtain ⟨rfl, rfl⟩ := trodVars_none hV
  have k0 := h0
  have lt0 : ∀ x ∈ p0, x.block < W.heap.size := by obtain ⟨m, hm⟩ := k0; exact DataW.trod_lt m _ _ _ hm
  obtain ⟨e, ao, ho, so, ci, ch, cs, rfl, hae, hse⟩ := openedE.endv (hval 0 39 v0 rfl rfl) h0
  clear hA0 hval0
  simp only [List.append_nil] at hW'
  refine (walk e ao ho so ci ch cs W hae hse).mono fun e W' ⟨he, bel⟩ => ?_
  subst he
  exact ⟨_, rfl, _, _, _, [], _, [], hW', trodAll_mk1 (shut_bool Try.underlying4 _), (trodAll_cons_mk (Below.trod laidOut (by kernel_rfl) (of_decide_eq_true (by kernel_rfl)) k0 bel lt0) trodAll_mk0), rfl, bel.frame _, fun h => by cases h⟩

theorem over : Rows.fnExactEndRiseRow.holds Try.pinned (OpenSpec.ofChange Rows.fnExactEndRiseSpec) :=
  OpenClaim.holds_of_wide 6 Try.f6 rfl rfl rfl rfl rfl rfl rfl ⟨rfl, rfl, rfl, rfl, rfl⟩ rfl rfl rfl rfl rfl (by kernel_rfl) Try.func6 (by kernel_rfl)
    (of_decide_eq_true (by kernel_rfl)) (by unfold Func.isWrapper; first | (rw [if_pos (by decide +kernel)]; kernel_rfl) | (rw [if_neg (by decide +kernel)]; exact ⟨rfl, rfl⟩))
    (fun os started H enc _ => lifted os started H enc)

theorem proved : Rows.FnExactEndRiseSaid :=
  over
#print axioms proved
end Go.Proofs.Ytmliinglojmojaa.fnExactEndRise

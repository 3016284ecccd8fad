/-
  THE LAW laws.FnExactEndTake: its tail, behind the marks.
-/
import Derived.Test.YthjncmgjkejikaaGreatRows
import Derived.WalkKit
import Derived.ProofKit
import Derived.OpenShut
import Derived.ShutString
import Derived.ChangeOld
import Derived.Below
import Derived.Test.YthjncmgjkejikaaGreatValE
import Derived.Test.YthjncmgjkejikaaGreatOpenEn
import Derived.Test.YthjncmgjkejikaaGreatMarks
import Derived.Test.YthjncmgjkejikaaGreatEkLo
import Derived.Deep.CutRange
import Derived.Carry
namespace Go.Proofs.YthjncmgjkejikaaGreat.fnExactEndTake
open Go.ChangeShapes Go.WideShapes Go.ChangeAt Go.RowKit
open Go.ChangeMaps (open_string shut_string)
open mk
set_option linter.unusedVariables false

def seqDrop : Nat → Code → Code
  | 0, c => c
  | n + 1, .seq _ c => seqDrop n c
  | _, c => c
def seqHead : Code → Code
  | .seq c _ => c
  | c => c
noncomputable def lawBody : Code := (Tryz.f4.body).getD .skip
noncomputable def reg27 : Code := seqHead (seqDrop 20 lawBody)
noncomputable def rest28 : Code := seqDrop 21 lawBody
set_option maxRecDepth 100000 in
set_option maxHeartbeats 8000000 in
theorem tailW (e : En) (ao ho so : Option Addr) (ci ch cs : Nat) (k f m y nxt msk sq : Int) (l : Bool) (p : ByteArray) (w w11 : World) (C : Int) (E : En) (T : ByteArray) (Wb Gb lo3 hi3 lo5 hi5 M : Nat) (wa wb wc ga gb gc : Option Addr) (xa xb xc ya yb yc : Nat) (t1 t2 t3 : List Value)
    (HA : Hid (Ae w e ao ho so)) (B11 : Below w.heap.size w w11) (A11 : Ex w11 w.heap.size #[.int .i64 e.num, .bool e.up, .int .i64 e.life, .int .i64 e.peer, .int .i64 e.since, .bool e.owes, .int .i64 e.b, .slice ao e.xs.length ci, .int .i64 e.nx, .slice ho e.hs.length ch, .string e.o, .slice so e.rs.length cs]) (P11 : Ex w11 (w.heap.size + 1) #[.int .i64 k, .int .i64 f, .int .i64 m, .int .i64 y, .int .i64 nxt, .int .i64 msk, .int .i64 sq, .bool l, .string p]) (W11 : Ex w11 Wb #[.int .i64 C, .int .i64 E.num, .bool E.up, .int .i64 E.life, .int .i64 E.peer, .int .i64 E.since, .bool E.owes, .int .i64 E.b, .slice wa E.xs.length xa, .int .i64 E.nx, .slice wb E.hs.length xb, .string E.o, .slice wc E.rs.length xc, .slice none 0 0, .string T]) (G11 : Ex w11 Gb #[.int .i64 C, .int .i64 E.num, .bool E.up, .int .i64 E.life, .int .i64 E.peer, .int .i64 E.since, .bool E.owes, .int .i64 E.b, .slice ga E.xs.length ya, .int .i64 E.nx, .slice gb E.hs.length yb, .string E.o, .slice gc E.rs.length yc, .slice none 0 0, .string T])
    (RW11 : Hid (R3 w11 lo3 hi3 (.slice wa E.xs.length xa) E.xs.length (is E.xs) (.slice wb E.hs.length xb) E.hs.length (hs E.hs) (.slice wc E.rs.length xc) E.rs.length (ss E.rs))) (RG11 : Hid (R3 w11 lo5 hi5 (.slice ga E.xs.length ya) E.xs.length t1 (.slice gb E.hs.length yb) E.hs.length t2 (.slice gc E.rs.length yc) E.rs.length t3))
    (HM2 : Hid (Mi 1 E.xs.length t1 ∧ Mh (1 + E.xs.length * 4) E.hs.length t2 ∧ Ms (1 + E.xs.length * 4 + E.hs.length * 3) E.rs.length t3)) (HM1 : Hid (M = 1 + E.xs.length * 4 + E.hs.length * 3 + E.rs.length))
    (HE : Hid (E.xs.length ≤ 1000000000 ∧ E.hs.length ≤ 1000000000 ∧ E.rs.length ≤ 1000000000)) (HE2 : Hid (E.xs.length ≤ 2000000 ∧ E.hs.length ≤ 2000000 ∧ E.rs.length ≤ 2000000))
    (S2 : Hid (∀ (u : World) (s1 s2 s3 : Nat), Re u e (some ⟨s1, 0, none⟩) (some ⟨s2, 0, none⟩) (some ⟨s3, 0, none⟩) → Calls Tryz.prog 17 #[.agg #[.int .i64 e.num, .bool e.up, .int .i64 e.life, .int .i64 e.peer, .int .i64 e.since, .bool e.owes, .int .i64 e.b, .slice (some ⟨s1, 0, none⟩) e.xs.length e.xs.length, .int .i64 e.nx, .slice (some ⟨s2, 0, none⟩) e.hs.length e.hs.length, .string e.o, .slice (some ⟨s3, 0, none⟩) e.rs.length e.rs.length], .agg #[.int .i64 k, .int .i64 f, .int .i64 m, .int .i64 y, .int .i64 nxt, .int .i64 msk, .int .i64 sq, .bool l, .string p]] u fun x w' => ActPost C E T u x w')) (HTO : Hid (∀ u : World, Ae u e ao ho so → Calls Tryz.prog 7 #[.agg #[.int .i64 e.num, .bool e.up, .int .i64 e.life, .int .i64 e.peer, .int .i64 e.since, .bool e.owes, .int .i64 e.b, .slice ao e.xs.length ci, .int .i64 e.nx, .slice ho e.hs.length ch, .string e.o, .slice so e.rs.length cs]] u fun x w' => (∃ s1 s2 s3, x = .returned (.agg #[.int .i64 e.num, .bool e.up, .int .i64 e.life, .int .i64 e.peer, .int .i64 e.since, .bool e.owes, .int .i64 e.b, .slice (some ⟨s1, 0, none⟩) e.xs.length e.xs.length, .int .i64 e.nx, .slice (some ⟨s2, 0, none⟩) e.hs.length e.hs.length, .string e.o, .slice (some ⟨s3, 0, none⟩) e.rs.length e.rs.length]) ∧ w'.ownsRow u.heap.size 67 4 (.slice (some ⟨s1, 0, none⟩) e.xs.length e.xs.length) e.xs.length (is e.xs) ∧ w'.ownsRow u.heap.size 95 3 (.slice (some ⟨s2, 0, none⟩) e.hs.length e.hs.length) e.hs.length (hs e.hs) ∧ w'.ownsRow u.heap.size 9 1 (.slice (some ⟨s3, 0, none⟩) e.rs.length e.rs.length) e.rs.length (ss e.rs)) ∧ Below u.heap.size u w')) (HPO : Hid (∀ u : World, Calls Tryz.prog 16 #[.agg #[.int .i64 k, .int .i64 f, .int .i64 m, .int .i64 y, .int .i64 nxt, .int .i64 msk, .int .i64 sq, .bool l, .string p]] u fun x w' => x = .returned (.agg #[.int .i64 k, .int .i64 f, .int .i64 m, .int .i64 y, .int .i64 nxt, .int .i64 msk, .int .i64 sq, .bool l, .string p]) ∧ Below u.heap.size u w')) (u0 u1 u4 u5 u7 u9 u12 u13 u14 u15 u16 u17 u18 u19 u20 u21 u22 u23 u24 u25 u26 u27 u28 u29 u30 u31 u32 u33 u34 u35 u36 u37 u38 u39 u40 u41 u42 u43 u44 u45 u46 u47 u48 u49 u50 u51 u52 u53 u54 u55 u56 u57 u58 u59 u60 u61 u62 u63 u64 u65 u66 u67 u68 u69 u70 u71 u72 u73 u74 u75 u76 u77 u78 u79 u80 u81 : Value)
    (J : Act → World → Prop) (hJ : ∀ a w', Code.wp Tryz.prog rest28 (bodyPost Tryz.prog Tryz.f4 fun x w' => x = .returned (.bool true) ∧ Below w.heap.size w w') a w' → J a w') :
    Code.wp Tryz.prog reg27 (Exit.then J (bodyPost Tryz.prog Tryz.f4 fun x w' => x = .returned (.bool true) ∧ Below w.heap.size w w')) { tmps := #[u0, u1, .pointer (some ⟨w.heap.size, 0, none⟩), .pointer (some ⟨w.heap.size + 1, 0, none⟩), u4, u5, .pointer (some ⟨Wb, 0, none⟩), u7, .pointer (some ⟨Gb, 0, none⟩), u9, .int .i64 (M : Int), .int .i64 (M : Int), u12, u13, u14, u15, u16, u17, u18, u19, u20, u21, u22, u23, u24, u25, u26, u27, u28, u29, u30, u31, u32, u33, u34, u35, u36, u37, u38, u39, u40, u41, u42, u43, u44, u45, u46, u47, u48, u49, u50, u51, u52, u53, u54, u55, u56, u57, u58, u59, u60, u61, u62, u63, u64, u65, u66, u67, u68, u69, u70, u71, u72, u73, u74, u75, u76, u77, u78, u79, u80, u81], defers := [] } w11 := by
  have hM0 : (0 : Int) ≤ (M : Int) := Int.natCast_nonneg M
  (obtain ⟨d0, d1, d2, d3, d4, d5, d6, d7, d8, d9, d10, d11⟩ := A11.cells)
  (obtain ⟨p0, p1, p2, p3, p4, p5, p6, p7, p8⟩ := P11.cells9)
  clear A11 P11
  dsimp only
  conv => arg 2; whnf
  conv at hJ => enter [a, w']; lhs; arg 2; whnf
  go_cut [12] from 65 to 69 (fun v wx => Got w11 C E T v wx)
  case first =>
    refine wp_region_held_drew (S := (fun w' => Below w11.heap.size w11 w')) (by kernel_rfl) ?_ (fun hHeld => ?_)
    · exact (Below.refl _ _).drew
    refine tkE 0 (some 65) ?_ ?_ ?_
    rotate_left
    · (intro w hSw; (have hd0 := cell_keep d0 hSw); (have hd1 := cell_keep d1 hSw); (have hd2 := cell_keep d2 hSw); (have hd3 := cell_keep d3 hSw); (have hd4 := cell_keep d4 hSw); (have hd5 := cell_keep d5 hSw); (have hd6 := cell_keep d6 hSw); (have hd7 := cell_keep d7 hSw); (have hd8 := cell_keep d8 hSw); (have hd9 := cell_keep d9 hSw); (have hd10 := cell_keep d10 hSw); (have hd11 := cell_keep d11 hSw); go_simp <;> with_reducible rfl)
    refine tkE 2 (some 67) ?_ ?_ ?_
    rotate_left
    · (intro w hSw; (have hp0 := cell_keep p0 hSw); (have hp1 := cell_keep p1 hSw); (have hp2 := cell_keep p2 hSw); (have hp3 := cell_keep p3 hSw); (have hp4 := cell_keep p4 hSw); (have hp5 := cell_keep p5 hSw); (have hp6 := cell_keep p6 hSw); (have hp7 := cell_keep p7 hSw); (have hp8 := cell_keep p8 hSw); go_simp <;> with_reducible rfl)
    refine wpAnyH_ready (rs := [1, 5]) (by kernel_rfl) (by simp) ?_
    refine AllReadyH.cons rfl (fun K hK => ?_) (AllReadyH.cons rfl (fun K hK => ?_) AllReadyH.nil)
    · have hH0 := hHeld
      go_simp
      refine (HTO.out _ (HA.out.keep (kb B11 hH0 (Nat.le_refl _)))).mono ?_
      rintro x w12 ⟨⟨g12, k12, q12, rfl, ho12, hp12, hq12⟩, hb12⟩
      go_wp2_with fail
      refine hK.out _ _ ?_ (fun hHeld => ?_)
      · exact kb hH0 hb12 (Nat.le_refl _)
      clear hK K
      try simp only [Act.put, List.setIfInBounds_toArray, List.set_cons_zero, List.set_cons_succ]
      refine wpAnyH_ready (rs := [3, 5]) (by kernel_rfl) (by simp) ?_
      refine AllReadyH.cons rfl (fun K hK => ?_) (AllReadyH.cons rfl (fun K hK => ?_) AllReadyH.nil)
      · have hH0 := hHeld
        go_simp
        refine (HPO.out _).mono ?_
        rintro x w12b ⟨rfl, hb12b⟩
        replace ho12 := owns_keep ho12 hb12b
        replace hp12 := owns_keep hp12 hb12b
        replace hq12 := owns_keep hq12 hb12b
        go_wp2_with fail
        refine hK.out _ _ ?_ (fun hHeld => ?_)
        · exact kb hH0 hb12b (Nat.le_refl _)
        clear hK K
        try simp only [Act.put, List.setIfInBounds_toArray, List.set_cons_zero, List.set_cons_succ]
        refine wpAnyH_ready (rs := [4, 5]) (by kernel_rfl) (by simp) ?_
        refine AllReadyH.cons rfl (fun K hK => ?_) (AllReadyH.cons rfl (fun K hK => ?_) AllReadyH.nil)
        · have hH0 := hHeld
          go_simp
          have hlo := hH0.size
          refine (S2.out _ _ _ _ ⟨owns_rs ho12, owns_rs hp12, owns_rs hq12⟩).mono ?_
          rintro x w12c ⟨⟨a1, c1, a2, c2, a3, c3, rfl, r1, r2, r3⟩, hb12c⟩
          replace ho12 := owns_keep ho12 hb12c
          replace hp12 := owns_keep hp12 hb12c
          replace hq12 := owns_keep hq12 hb12c
          go_wp2_with fail
          refine hK.out _ _ ?_ (fun hHeld => ?_)
          · exact kb hH0 hb12c (Nat.le_refl _)
          clear hK K
          try simp only [Act.put, List.setIfInBounds_toArray, List.set_cons_zero, List.set_cons_succ]
          refine wpAnyH_ready (rs := [5]) (by kernel_rfl) (by simp) ?_
          refine AllReadyH.cons rfl (fun K hK => ?_) AllReadyH.nil
          have hH0 := hHeld
          go_simp
          have ZB : Bx (w12c.alloc (.cells #[.int .i64 0, .int .i64 0, .bool false, .int .i64 0, .int .i64 0, .int .i64 0, .bool false, .int .i64 0, .slice none 0 0, .int .i64 0, .slice none 0 0, .string ⟨#[]⟩, .slice none 0 0, .slice none 0 0, .string ⟨#[]⟩] 42)) w12c.heap.size 42 #[.int .i64 0, .int .i64 0, .bool false, .int .i64 0, .int .i64 0, .int .i64 0, .bool false, .int .i64 0, .slice none 0 0, .int .i64 0, .slice none 0 0, .string ⟨#[]⟩, .slice none 0 0, .slice none 0 0, .string ⟨#[]⟩] := Bx.new _ _ _
          have r1o := r1
          have r2o := r2
          have r3o := r3
          replace ho12 := ho12.alloc (.cells #[.int .i64 0, .int .i64 0, .bool false, .int .i64 0, .int .i64 0, .int .i64 0, .bool false, .int .i64 0, .slice none 0 0, .int .i64 0, .slice none 0 0, .string ⟨#[]⟩, .slice none 0 0, .slice none 0 0, .string ⟨#[]⟩] 42)
          replace hp12 := hp12.alloc (.cells #[.int .i64 0, .int .i64 0, .bool false, .int .i64 0, .int .i64 0, .int .i64 0, .bool false, .int .i64 0, .slice none 0 0, .int .i64 0, .slice none 0 0, .string ⟨#[]⟩, .slice none 0 0, .slice none 0 0, .string ⟨#[]⟩] 42)
          replace hq12 := hq12.alloc (.cells #[.int .i64 0, .int .i64 0, .bool false, .int .i64 0, .int .i64 0, .int .i64 0, .bool false, .int .i64 0, .slice none 0 0, .int .i64 0, .slice none 0 0, .string ⟨#[]⟩, .slice none 0 0, .slice none 0 0, .string ⟨#[]⟩] 42)
          replace r1 := r1.alloc (.cells #[.int .i64 0, .int .i64 0, .bool false, .int .i64 0, .int .i64 0, .int .i64 0, .bool false, .int .i64 0, .slice none 0 0, .int .i64 0, .slice none 0 0, .string ⟨#[]⟩, .slice none 0 0, .slice none 0 0, .string ⟨#[]⟩] 42)
          replace r2 := r2.alloc (.cells #[.int .i64 0, .int .i64 0, .bool false, .int .i64 0, .int .i64 0, .int .i64 0, .bool false, .int .i64 0, .slice none 0 0, .int .i64 0, .slice none 0 0, .string ⟨#[]⟩, .slice none 0 0, .slice none 0 0, .string ⟨#[]⟩] 42)
          replace r3 := r3.alloc (.cells #[.int .i64 0, .int .i64 0, .bool false, .int .i64 0, .int .i64 0, .int .i64 0, .bool false, .int .i64 0, .slice none 0 0, .int .i64 0, .slice none 0 0, .string ⟨#[]⟩, .slice none 0 0, .slice none 0 0, .string ⟨#[]⟩] 42)
          have hHA := hH0
          refine hK.out _ _ ?_ (fun hHeld => ?_)
          · exact hH0.alloc hH0.size _
          clear hK K
          try simp only [Act.put, List.setIfInBounds_toArray, List.set_cons_zero, List.set_cons_succ]
          have hH0 := hHeld
          refine wpAnyH_ready (rs := [6]) (by kernel_rfl) (by simp) ?_
          refine AllReadyH.cons rfl (fun K hK => ?_) AllReadyH.nil
          go_simp
          have BF : Below w11.heap.size w11 (w12c.alloc (.cells #[.int .i64 C, .int .i64 E.num, .bool E.up, .int .i64 E.life, .int .i64 E.peer, .int .i64 E.since, .bool E.owes, .int .i64 E.b, .slice a1 E.xs.length c1, .int .i64 E.nx, .slice a2 E.hs.length c2, .string E.o, .slice a3 E.rs.length c3, .slice none 0 0, .string T] 42)) := hHA.alloc hHA.size _
          have GF := Got.fold w11 w12c _ C E T a1 c1 a2 c2 a3 c3 hHA hlo hb12c.size r1o r2o r3o
          refine hK.out _ _ ?_ (fun hHeld => ?_)
          · exact BF
          clear hK K
          try simp only [Act.put]
          refine wpAnyH_done (by kernel_rfl) ?_ _
          go_wp2_with fail
          go_meet
          exact GF
        · have hH0 := hHeld
          go_simp
          have ZB : Bx (w12b.alloc (.cells #[.int .i64 0, .int .i64 0, .bool false, .int .i64 0, .int .i64 0, .int .i64 0, .bool false, .int .i64 0, .slice none 0 0, .int .i64 0, .slice none 0 0, .string ⟨#[]⟩, .slice none 0 0, .slice none 0 0, .string ⟨#[]⟩] 42)) w12b.heap.size 42 #[.int .i64 0, .int .i64 0, .bool false, .int .i64 0, .int .i64 0, .int .i64 0, .bool false, .int .i64 0, .slice none 0 0, .int .i64 0, .slice none 0 0, .string ⟨#[]⟩, .slice none 0 0, .slice none 0 0, .string ⟨#[]⟩] := Bx.new _ _ _
          replace ho12 := ho12.alloc (.cells #[.int .i64 0, .int .i64 0, .bool false, .int .i64 0, .int .i64 0, .int .i64 0, .bool false, .int .i64 0, .slice none 0 0, .int .i64 0, .slice none 0 0, .string ⟨#[]⟩, .slice none 0 0, .slice none 0 0, .string ⟨#[]⟩] 42)
          replace hp12 := hp12.alloc (.cells #[.int .i64 0, .int .i64 0, .bool false, .int .i64 0, .int .i64 0, .int .i64 0, .bool false, .int .i64 0, .slice none 0 0, .int .i64 0, .slice none 0 0, .string ⟨#[]⟩, .slice none 0 0, .slice none 0 0, .string ⟨#[]⟩] 42)
          replace hq12 := hq12.alloc (.cells #[.int .i64 0, .int .i64 0, .bool false, .int .i64 0, .int .i64 0, .int .i64 0, .bool false, .int .i64 0, .slice none 0 0, .int .i64 0, .slice none 0 0, .string ⟨#[]⟩, .slice none 0 0, .slice none 0 0, .string ⟨#[]⟩] 42)
          have hHA := hH0
          refine hK.out _ _ ?_ (fun hHeld => ?_)
          · exact hH0.alloc hH0.size _
          clear hK K
          try simp only [Act.put, List.setIfInBounds_toArray, List.set_cons_zero, List.set_cons_succ]
          refine wpAnyH_ready (rs := [4]) (by kernel_rfl) (by simp) ?_
          refine AllReadyH.cons rfl (fun K hK => ?_) AllReadyH.nil
          have hH0 := hHeld
          go_simp
          have hlo := hH0.size
          have hBl := ZB.lt
          refine (S2.out _ _ _ _ ⟨owns_rs ho12, owns_rs hp12, owns_rs hq12⟩).mono ?_
          rintro x w12c ⟨⟨a1, c1, a2, c2, a3, c3, rfl, r1, r2, r3⟩, hb12c⟩
          replace ZB := ZB.keep hb12c
          replace ho12 := owns_keep ho12 hb12c
          replace hp12 := owns_keep hp12 hb12c
          replace hq12 := owns_keep hq12 hb12c
          go_wp2_with fail
          refine hK.out _ _ ?_ (fun hHeld => ?_)
          · exact kb hH0 hb12c (Nat.le_refl _)
          clear hK K
          try simp only [Act.put, List.setIfInBounds_toArray, List.set_cons_zero, List.set_cons_succ]
          have z0 := ZB.cell 0
          have z1 := ZB.cell 1
          have z2 := ZB.cell 2
          have z3 := ZB.cell 3
          have z4 := ZB.cell 4
          have z5 := ZB.cell 5
          have z6 := ZB.cell 6
          have z7 := ZB.cell 7
          have z8 := ZB.cell 8
          have z9 := ZB.cell 9
          have z10 := ZB.cell 10
          have z11 := ZB.cell 11
          have z12 := ZB.cell 12
          have z13 := ZB.cell 13
          have z14 := ZB.cell 14
          simp at z0 z1 z2 z3 z4 z5 z6 z7 z8 z9 z10 z11 z12 z13 z14
          have f0 := ZB.frozen 0
          have f1 := ZB.frozen 1
          have f2 := ZB.frozen 2
          have f3 := ZB.frozen 3
          have f4 := ZB.frozen 4
          have f5 := ZB.frozen 5
          have f6 := ZB.frozen 6
          have f7 := ZB.frozen 7
          have f8 := ZB.frozen 8
          have f9 := ZB.frozen 9
          have f10 := ZB.frozen 10
          have f11 := ZB.frozen 11
          have f12 := ZB.frozen 12
          have f13 := ZB.frozen 13
          have f14 := ZB.frozen 14
          have hH0 := hHeld
          refine wpAnyH_ready (rs := [6]) (by kernel_rfl) (by simp) ?_
          refine AllReadyH.cons rfl (fun K hK => ?_) AllReadyH.nil
          go_simp
          have lB : w11.heap.size ≤ w12b.heap.size := by exact hHA.size
          have BF := below15 hH0 (w12b.heap.size) lB (.int .i64 C) (.int .i64 E.num) (.bool E.up) (.int .i64 E.life) (.int .i64 E.peer) (.int .i64 E.since) (.bool E.owes) (.int .i64 E.b) (.slice a1 E.xs.length c1) (.int .i64 E.nx) (.slice a2 E.hs.length c2) (.string E.o) (.slice a3 E.rs.length c3) (.slice none 0 0) (.string T)
          have GF := Got.put w11 _ (w12b.heap.size) _ C E T a1 c1 a2 c2 a3 c3 ZB hH0 lB hBl hlo hb12c.size r1 r2 r3
          refine hK.out _ _ ?_ (fun hHeld => ?_)
          · exact BF
          clear hK K
          try simp only [Act.put]
          refine wpAnyH_done (by kernel_rfl) ?_ _
          go_wp2_with fail
          go_meet
          exact GF
      · have hH0 := hHeld
        go_simp
        have ZB : Bx (w12.alloc (.cells #[.int .i64 0, .int .i64 0, .bool false, .int .i64 0, .int .i64 0, .int .i64 0, .bool false, .int .i64 0, .slice none 0 0, .int .i64 0, .slice none 0 0, .string ⟨#[]⟩, .slice none 0 0, .slice none 0 0, .string ⟨#[]⟩] 42)) w12.heap.size 42 #[.int .i64 0, .int .i64 0, .bool false, .int .i64 0, .int .i64 0, .int .i64 0, .bool false, .int .i64 0, .slice none 0 0, .int .i64 0, .slice none 0 0, .string ⟨#[]⟩, .slice none 0 0, .slice none 0 0, .string ⟨#[]⟩] := Bx.new _ _ _
        replace ho12 := ho12.alloc (.cells #[.int .i64 0, .int .i64 0, .bool false, .int .i64 0, .int .i64 0, .int .i64 0, .bool false, .int .i64 0, .slice none 0 0, .int .i64 0, .slice none 0 0, .string ⟨#[]⟩, .slice none 0 0, .slice none 0 0, .string ⟨#[]⟩] 42)
        replace hp12 := hp12.alloc (.cells #[.int .i64 0, .int .i64 0, .bool false, .int .i64 0, .int .i64 0, .int .i64 0, .bool false, .int .i64 0, .slice none 0 0, .int .i64 0, .slice none 0 0, .string ⟨#[]⟩, .slice none 0 0, .slice none 0 0, .string ⟨#[]⟩] 42)
        replace hq12 := hq12.alloc (.cells #[.int .i64 0, .int .i64 0, .bool false, .int .i64 0, .int .i64 0, .int .i64 0, .bool false, .int .i64 0, .slice none 0 0, .int .i64 0, .slice none 0 0, .string ⟨#[]⟩, .slice none 0 0, .slice none 0 0, .string ⟨#[]⟩] 42)
        have hHA := hH0
        refine hK.out _ _ ?_ (fun hHeld => ?_)
        · exact hH0.alloc hH0.size _
        clear hK K
        try simp only [Act.put, List.setIfInBounds_toArray, List.set_cons_zero, List.set_cons_succ]
        refine wpAnyH_ready (rs := [3]) (by kernel_rfl) (by simp) ?_
        refine AllReadyH.cons rfl (fun K hK => ?_) AllReadyH.nil
        have hH0 := hHeld
        go_simp
        refine (HPO.out _).mono ?_
        rintro x w12b ⟨rfl, hb12b⟩
        replace ZB := ZB.keep hb12b
        replace ho12 := owns_keep ho12 hb12b
        replace hp12 := owns_keep hp12 hb12b
        replace hq12 := owns_keep hq12 hb12b
        go_wp2_with fail
        refine hK.out _ _ ?_ (fun hHeld => ?_)
        · exact kb hH0 hb12b (Nat.le_refl _)
        clear hK K
        try simp only [Act.put, List.setIfInBounds_toArray, List.set_cons_zero, List.set_cons_succ]
        refine wpAnyH_ready (rs := [4]) (by kernel_rfl) (by simp) ?_
        refine AllReadyH.cons rfl (fun K hK => ?_) AllReadyH.nil
        have hH0 := hHeld
        go_simp
        have hlo := hH0.size
        have hBl := ZB.lt
        refine (S2.out _ _ _ _ ⟨owns_rs ho12, owns_rs hp12, owns_rs hq12⟩).mono ?_
        rintro x w12c ⟨⟨a1, c1, a2, c2, a3, c3, rfl, r1, r2, r3⟩, hb12c⟩
        replace ZB := ZB.keep hb12c
        replace ho12 := owns_keep ho12 hb12c
        replace hp12 := owns_keep hp12 hb12c
        replace hq12 := owns_keep hq12 hb12c
        go_wp2_with fail
        refine hK.out _ _ ?_ (fun hHeld => ?_)
        · exact kb hH0 hb12c (Nat.le_refl _)
        clear hK K
        try simp only [Act.put, List.setIfInBounds_toArray, List.set_cons_zero, List.set_cons_succ]
        have z0 := ZB.cell 0
        have z1 := ZB.cell 1
        have z2 := ZB.cell 2
        have z3 := ZB.cell 3
        have z4 := ZB.cell 4
        have z5 := ZB.cell 5
        have z6 := ZB.cell 6
        have z7 := ZB.cell 7
        have z8 := ZB.cell 8
        have z9 := ZB.cell 9
        have z10 := ZB.cell 10
        have z11 := ZB.cell 11
        have z12 := ZB.cell 12
        have z13 := ZB.cell 13
        have z14 := ZB.cell 14
        simp at z0 z1 z2 z3 z4 z5 z6 z7 z8 z9 z10 z11 z12 z13 z14
        have f0 := ZB.frozen 0
        have f1 := ZB.frozen 1
        have f2 := ZB.frozen 2
        have f3 := ZB.frozen 3
        have f4 := ZB.frozen 4
        have f5 := ZB.frozen 5
        have f6 := ZB.frozen 6
        have f7 := ZB.frozen 7
        have f8 := ZB.frozen 8
        have f9 := ZB.frozen 9
        have f10 := ZB.frozen 10
        have f11 := ZB.frozen 11
        have f12 := ZB.frozen 12
        have f13 := ZB.frozen 13
        have f14 := ZB.frozen 14
        have hH0 := hHeld
        refine wpAnyH_ready (rs := [6]) (by kernel_rfl) (by simp) ?_
        refine AllReadyH.cons rfl (fun K hK => ?_) AllReadyH.nil
        go_simp
        have lB : w11.heap.size ≤ w12.heap.size := by exact hHA.size
        have BF := below15 hH0 (w12.heap.size) lB (.int .i64 C) (.int .i64 E.num) (.bool E.up) (.int .i64 E.life) (.int .i64 E.peer) (.int .i64 E.since) (.bool E.owes) (.int .i64 E.b) (.slice a1 E.xs.length c1) (.int .i64 E.nx) (.slice a2 E.hs.length c2) (.string E.o) (.slice a3 E.rs.length c3) (.slice none 0 0) (.string T)
        have GF := Got.put w11 _ (w12.heap.size) _ C E T a1 c1 a2 c2 a3 c3 ZB hH0 lB hBl hlo hb12c.size r1 r2 r3
        refine hK.out _ _ ?_ (fun hHeld => ?_)
        · exact BF
        clear hK K
        try simp only [Act.put]
        refine wpAnyH_done (by kernel_rfl) ?_ _
        go_wp2_with fail
        go_meet
        exact GF
    · have hH0 := hHeld
      go_simp
      have ZB : Bx (w11.drew.alloc (.cells #[.int .i64 0, .int .i64 0, .bool false, .int .i64 0, .int .i64 0, .int .i64 0, .bool false, .int .i64 0, .slice none 0 0, .int .i64 0, .slice none 0 0, .string ⟨#[]⟩, .slice none 0 0, .slice none 0 0, .string ⟨#[]⟩] 42)) w11.heap.size 42 #[.int .i64 0, .int .i64 0, .bool false, .int .i64 0, .int .i64 0, .int .i64 0, .bool false, .int .i64 0, .slice none 0 0, .int .i64 0, .slice none 0 0, .string ⟨#[]⟩, .slice none 0 0, .slice none 0 0, .string ⟨#[]⟩] := Bx.new _ _ _
      have hHA := hH0
      refine hK.out _ _ ?_ (fun hHeld => ?_)
      · exact hH0.alloc hH0.size _
      clear hK K
      try simp only [Act.put, List.setIfInBounds_toArray, List.set_cons_zero, List.set_cons_succ]
      refine wpAnyH_ready (rs := [1]) (by kernel_rfl) (by simp) ?_
      refine AllReadyH.cons rfl (fun K hK => ?_) AllReadyH.nil
      have hH0 := hHeld
      go_simp
      refine (HTO.out _ (HA.out.keep (kb B11 hH0 (Nat.le_refl _)))).mono ?_
      rintro x w12 ⟨⟨g12, k12, q12, rfl, ho12, hp12, hq12⟩, hb12⟩
      replace ZB := ZB.keep hb12
      go_wp2_with fail
      refine hK.out _ _ ?_ (fun hHeld => ?_)
      · exact kb hH0 hb12 (Nat.le_refl _)
      clear hK K
      try simp only [Act.put, List.setIfInBounds_toArray, List.set_cons_zero, List.set_cons_succ]
      refine wpAnyH_ready (rs := [3]) (by kernel_rfl) (by simp) ?_
      refine AllReadyH.cons rfl (fun K hK => ?_) AllReadyH.nil
      have hH0 := hHeld
      go_simp
      refine (HPO.out _).mono ?_
      rintro x w12b ⟨rfl, hb12b⟩
      replace ZB := ZB.keep hb12b
      replace ho12 := owns_keep ho12 hb12b
      replace hp12 := owns_keep hp12 hb12b
      replace hq12 := owns_keep hq12 hb12b
      go_wp2_with fail
      refine hK.out _ _ ?_ (fun hHeld => ?_)
      · exact kb hH0 hb12b (Nat.le_refl _)
      clear hK K
      try simp only [Act.put, List.setIfInBounds_toArray, List.set_cons_zero, List.set_cons_succ]
      refine wpAnyH_ready (rs := [4]) (by kernel_rfl) (by simp) ?_
      refine AllReadyH.cons rfl (fun K hK => ?_) AllReadyH.nil
      have hH0 := hHeld
      go_simp
      have hlo := hH0.size
      have hBl := ZB.lt
      refine (S2.out _ _ _ _ ⟨owns_rs ho12, owns_rs hp12, owns_rs hq12⟩).mono ?_
      rintro x w12c ⟨⟨a1, c1, a2, c2, a3, c3, rfl, r1, r2, r3⟩, hb12c⟩
      replace ZB := ZB.keep hb12c
      replace ho12 := owns_keep ho12 hb12c
      replace hp12 := owns_keep hp12 hb12c
      replace hq12 := owns_keep hq12 hb12c
      go_wp2_with fail
      refine hK.out _ _ ?_ (fun hHeld => ?_)
      · exact kb hH0 hb12c (Nat.le_refl _)
      clear hK K
      try simp only [Act.put, List.setIfInBounds_toArray, List.set_cons_zero, List.set_cons_succ]
      have z0 := ZB.cell 0
      have z1 := ZB.cell 1
      have z2 := ZB.cell 2
      have z3 := ZB.cell 3
      have z4 := ZB.cell 4
      have z5 := ZB.cell 5
      have z6 := ZB.cell 6
      have z7 := ZB.cell 7
      have z8 := ZB.cell 8
      have z9 := ZB.cell 9
      have z10 := ZB.cell 10
      have z11 := ZB.cell 11
      have z12 := ZB.cell 12
      have z13 := ZB.cell 13
      have z14 := ZB.cell 14
      simp at z0 z1 z2 z3 z4 z5 z6 z7 z8 z9 z10 z11 z12 z13 z14
      have f0 := ZB.frozen 0
      have f1 := ZB.frozen 1
      have f2 := ZB.frozen 2
      have f3 := ZB.frozen 3
      have f4 := ZB.frozen 4
      have f5 := ZB.frozen 5
      have f6 := ZB.frozen 6
      have f7 := ZB.frozen 7
      have f8 := ZB.frozen 8
      have f9 := ZB.frozen 9
      have f10 := ZB.frozen 10
      have f11 := ZB.frozen 11
      have f12 := ZB.frozen 12
      have f13 := ZB.frozen 13
      have f14 := ZB.frozen 14
      have hH0 := hHeld
      refine wpAnyH_ready (rs := [6]) (by kernel_rfl) (by simp) ?_
      refine AllReadyH.cons rfl (fun K hK => ?_) AllReadyH.nil
      go_simp
      have lB : w11.heap.size ≤ w11.heap.size := by exact Nat.le_refl _
      have BF := below15 hH0 (w11.heap.size) lB (.int .i64 C) (.int .i64 E.num) (.bool E.up) (.int .i64 E.life) (.int .i64 E.peer) (.int .i64 E.since) (.bool E.owes) (.int .i64 E.b) (.slice a1 E.xs.length c1) (.int .i64 E.nx) (.slice a2 E.hs.length c2) (.string E.o) (.slice a3 E.rs.length c3) (.slice none 0 0) (.string T)
      have GF := Got.put w11 _ (w11.heap.size) _ C E T a1 c1 a2 c2 a3 c3 ZB hH0 lB hBl hlo hb12c.size r1 r2 r3
      refine hK.out _ _ ?_ (fun hHeld => ?_)
      · exact BF
      clear hK K
      try simp only [Act.put]
      refine wpAnyH_done (by kernel_rfl) ?_ _
      go_wp2_with fail
      go_meet
      exact GF
  case rest =>
    rename World => wC
    obtain ⟨Hb, lo7, hi7, ja, za, jb, zb, jc, zc, rfl, ZH, RH, oH, lH1, lH0, lH2, BH, lH⟩ := hcut
    have H13 : Ex wC Hb #[.int .i64 C, .int .i64 E.num, .bool E.up, .int .i64 E.life, .int .i64 E.peer, .int .i64 E.since, .bool E.owes, .int .i64 E.b, .slice ja E.xs.length za, .int .i64 E.nx, .slice jb E.hs.length zb, .string E.o, .slice jc E.rs.length zc, .slice none 0 0, .string T] := ⟨_, ZH⟩
    have W13 := W11.keep BH
    have G13 := G11.keep BH
    have RW13 : Hid _ := RW11.out.keep BH
    have RG13 : Hid _ := RG11.out.keep BH
    have RH13 : Hid _ := RH
    clear d0 d1 d2 d3 d4 d5 d6 d7 d8 d9 d10 d11 p0 p1 p2 p3 p4 p5 p6 p7 p8
    clear ZH RH
    (obtain ⟨v0, v1, v2, v3, v4, v5, v6, v7, v8, v9, v10, v11, v12, v13, v14⟩ := W13.cells15)
    (obtain ⟨n0, n1, n2, n3, n4, n5, n6, n7, n8, n9, n10, n11, n12, n13, n14⟩ := G13.cells15)
    (obtain ⟨j0, j1, j2, j3, j4, j5, j6, j7, j8, j9, j10, j11, j12, j13, j14⟩ := H13.cells15)
    go_wp2_with (first
      | (go_at_call 9; refine (eqActed_same C T E _ _ _ _ _ _ _ _ _ _ _ _ _ HE.out.1 HE.out.2.1 HE.out.2.2 RH13.out.re RW13.out.re).mono ?_; rintro x' w14 ⟨rfl, hb14⟩; (have G14 := G13.keep hb14); clear v0 v1 v2 v3 v4 v5 v6 v7 v8 v9 v10 v11 v12 v13 v14 n0 n1 n2 n3 n4 n5 n6 n7 n8 n9 n10 n11 n12 n13 n14 j0 j1 j2 j3 j4 j5 j6 j7 j8 j9 j10 j11 j12 j13 j14; (obtain ⟨n0, n1, n2, n3, n4, n5, n6, n7, n8, n9, n10, n11, n12, n13, n14⟩ := G14.cells15))
      | fail)
    have B13 := kb B11 BH (Nat.le_refl _)
    have B14 := kb B13 hb14 (Nat.le_refl _)
    have RG14 : Hid _ := RG13.out.keep hb14
    clear B11 B13 hb14 BH RG13 RW13 RH13 RW11 RG11
    go_wp2_with (first
      | (go_at_call 13; refine (heldActed_bet lo5 hi5 C E.num E.up E.life E.peer E.since E.owes E.b E.nx E.o T _ _ _ _ _ _ _ _ _ w14 HE2.out.1 HE2.out.2.1 HE2.out.2.2 RG14.out HM2.out.1 HM2.out.2.1 HM2.out.2.2 M HM1.out).mono ?_; rintro x' w15 ⟨rfl, hb15⟩)
      | fail)
    go_ret
    exact ⟨rfl, kb B14 hb15 (Nat.le_refl _)⟩
end Go.Proofs.YthjncmgjkejikaaGreat.fnExactEndTake

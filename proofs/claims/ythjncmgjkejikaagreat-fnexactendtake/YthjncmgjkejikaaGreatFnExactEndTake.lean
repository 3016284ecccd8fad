/-
  THE LAW laws.FnExactEndTake: the walk over the contracts, and the row.
-/
import Derived.Test.YthjncmgjkejikaaGreatRows
import Derived.WalkKit
import Derived.ProofKit
import Derived.OpenShut
import Derived.ShutString
import Derived.ChangeOld
import Derived.Below
import Derived.Test.YthjncmgjkejikaaGreatValE
import Derived.Test.YthjncmgjkejikaaGreatOpenEn
import Derived.Test.YthjncmgjkejikaaGreatMarks
import Derived.Test.YthjncmgjkejikaaGreatEki
import Derived.Test.YthjncmgjkejikaaGreatEkJ
import Derived.Test.YthjncmgjkejikaaGreatEkZ
import Derived.Test.YthjncmgjkejikaaGreatEkLo
import Derived.Deep.CutRange
import Derived.Carry
namespace Go.Proofs.YthjncmgjkejikaaGreat.fnExactEndTake
open Go.ChangeShapes Go.WideShapes Go.ChangeAt Go.RowKit
open Go.ChangeMaps (open_string shut_string)
open mk
set_option linter.unusedVariables false

theorem own : ownKnob Tryz.prog.godebug = none := by kernel_rfl

theorem laidOut : laidOutB Tryz.prog = true := by kernel_rfl
set_option maxRecDepth 100000 in
set_option maxHeartbeats 24000000 in
theorem walk (e : En) (ao ho so : Option Addr) (ci ch cs : Nat) (k f m y nxt msk sq : Int) (l : Bool) (p : ByteArray) (w : World) (ha : Ae w e ao ho so) (hm : Se maxLen e) (hp0 : p.size ≤ maxLen) :
    Calls Tryz.prog 4 #[.agg #[.int .i64 e.num, .bool e.up, .int .i64 e.life, .int .i64 e.peer, .int .i64 e.since, .bool e.owes, .int .i64 e.b, .slice ao e.xs.length ci, .int .i64 e.nx, .slice ho e.hs.length ch, .string e.o, .slice so e.rs.length cs], .agg #[.int .i64 k, .int .i64 f, .int .i64 m, .int .i64 y, .int .i64 nxt, .int .i64 msk, .int .i64 sq, .bool l, .string p]] w fun x w' => x = .returned (.bool true) ∧ Below w.heap.size w w' := by
  have b0 : Hid (Below w.heap.size w ((w.alloc (.cells #[.int .i64 e.num, .bool e.up, .int .i64 e.life, .int .i64 e.peer, .int .i64 e.since, .bool e.owes, .int .i64 e.b, .slice ao e.xs.length ci, .int .i64 e.nx, .slice ho e.hs.length ch, .string e.o, .slice so e.rs.length cs] 30)).alloc (.cells #[.int .i64 k, .int .i64 f, .int .i64 m, .int .i64 y, .int .i64 nxt, .int .i64 msk, .int .i64 sq, .bool l, .string p] 51))) := ((Below.refl _ _).alloc (Nat.le_refl _) _).alloc (by simp) _
  have X0 : Hid (Ex ((w.alloc (.cells #[.int .i64 e.num, .bool e.up, .int .i64 e.life, .int .i64 e.peer, .int .i64 e.since, .bool e.owes, .int .i64 e.b, .slice ao e.xs.length ci, .int .i64 e.nx, .slice ho e.hs.length ch, .string e.o, .slice so e.rs.length cs] 30)).alloc (.cells #[.int .i64 k, .int .i64 f, .int .i64 m, .int .i64 y, .int .i64 nxt, .int .i64 msk, .int .i64 sq, .bool l, .string p] 51)) w.heap.size #[.int .i64 e.num, .bool e.up, .int .i64 e.life, .int .i64 e.peer, .int .i64 e.since, .bool e.owes, .int .i64 e.b, .slice ao e.xs.length ci, .int .i64 e.nx, .slice ho e.hs.length ch, .string e.o, .slice so e.rs.length cs]) := (Ex.new w _ _).alloc _
  have P0 : Hid (Ex ((w.alloc (.cells #[.int .i64 e.num, .bool e.up, .int .i64 e.life, .int .i64 e.peer, .int .i64 e.since, .bool e.owes, .int .i64 e.b, .slice ao e.xs.length ci, .int .i64 e.nx, .slice ho e.hs.length ch, .string e.o, .slice so e.rs.length cs] 30)).alloc (.cells #[.int .i64 k, .int .i64 f, .int .i64 m, .int .i64 y, .int .i64 nxt, .int .i64 msk, .int .i64 sq, .bool l, .string p] 51)) (w.heap.size + 1) #[.int .i64 k, .int .i64 f, .int .i64 m, .int .i64 y, .int .i64 nxt, .int .i64 msk, .int .i64 sq, .bool l, .string p]) := (by have := Ex.new (w.alloc (.cells #[.int .i64 e.num, .bool e.up, .int .i64 e.life, .int .i64 e.peer, .int .i64 e.since, .bool e.owes, .int .i64 e.b, .slice ao e.xs.length ci, .int .i64 e.nx, .slice ho e.hs.length ch, .string e.o, .slice so e.rs.length cs] 30)) 51 #[.int .i64 k, .int .i64 f, .int .i64 m, .int .i64 y, .int .i64 nxt, .int .i64 msk, .int .i64 sq, .bool l, .string p]; rw [World.size_alloc] at this; exact this : Ex ((w.alloc (.cells #[.int .i64 e.num, .bool e.up, .int .i64 e.life, .int .i64 e.peer, .int .i64 e.since, .bool e.owes, .int .i64 e.b, .slice ao e.xs.length ci, .int .i64 e.nx, .slice ho e.hs.length ch, .string e.o, .slice so e.rs.length cs] 30)).alloc (.cells #[.int .i64 k, .int .i64 f, .int .i64 m, .int .i64 y, .int .i64 nxt, .int .i64 msk, .int .i64 sq, .bool l, .string p] 51)) (w.heap.size + 1) #[.int .i64 k, .int .i64 f, .int .i64 m, .int .i64 y, .int .i64 nxt, .int .i64 msk, .int .i64 sq, .bool l, .string p])
  have HA : Hid (Ae w e ao ho so) := ha
  have HM : Hid (Se maxLen e) := hm
  have HSP : Hid (∀ (z : Int) (u : World), 0 ≤ z ∧ z ≤ 1048576 → Calls Tryz.prog 14 #[.agg #[.int .i64 k, .int .i64 f, .int .i64 m, .int .i64 y, .int .i64 nxt, .int .i64 msk, .int .i64 sq, .bool l, .string p], .int .i64 z] u fun x w' => (∃ z' : Int, x = .returned (.int .i64 z') ∧ -1 ≤ z' ∧ (0 ≤ z' → p.size ≤ 1048576)) ∧ Below u.heap.size u w') := fun z u hz => (szPacket_z k f m y nxt msk sq l p z u hp0 hz).mono fun x w' ⟨he, hb⟩ => ⟨⟨_, he, by split <;> omega, fun h => by split at h <;> omega⟩, hb⟩
  clear ha hm hp0
  go_enter Tryz.func4, Tryz.ntmps4
  go_wp2_with (first
    | (go_at_call 5; refine (szEnd_any e ao ho so ci ch cs _ _ (by omega) HM.out (HA.out.keep b0.out)).mono ?_; rintro x w1 ⟨⟨z, rfl, hz1, hz2, hz3⟩, hb1⟩; (have HZ : Hid (0 ≤ z → Se 1048576 e) := hz3); clear hz3; (have A1 := X0.out.keep hb1); (have P1 := P0.out.keep hb1); (obtain ⟨d0, d1, d2, d3, d4, d5, d6, d7, d8, d9, d10, d11⟩ := A1.cells); (obtain ⟨p0, p1, p2, p3, p4, p5, p6, p7, p8⟩ := P1.cells9))
    | (go_at_call 14; refine (HSP.out _ _ (by constructor <;> omega)).mono ?_; rintro x w2 ⟨⟨z', rfl, hz4, hz5⟩, hb2⟩; (have A2 := A1.keep hb2); (have P2 := P1.keep hb2); clear d0 d1 d2 d3 d4 d5 d6 d7 d8 d9 d10 d11 p0 p1 p2 p3 p4 p5 p6 p7 p8; (obtain ⟨d0, d1, d2, d3, d4, d5, d6, d7, d8, d9, d10, d11⟩ := A2.cells); (obtain ⟨p0, p1, p2, p3, p4, p5, p6, p7, p8⟩ := P2.cells9))
    | fail)
  · go_ret
    exact ⟨rfl, kb b0.out hb1 (Nat.le_refl _)⟩
  · go_ret
    exact ⟨rfl, kb (kb b0.out hb1 (Nat.le_refl _)) hb2 (Nat.le_refl _)⟩
  have HS : Hid (Se 1048576 e) := HZ.out (by omega)
  have hps : p.size ≤ 1048576 := hz5 (by omega)
  have B2 : Hid (Below w.heap.size w w2) := kb (kb b0.out hb1 (Nat.le_refl _)) hb2 (Nat.le_refl _)
  obtain ⟨C, hC⟩ : ∃ C, C = (takeE e k f m y nxt msk sq l p).1 := ⟨_, rfl⟩
  obtain ⟨E, hE⟩ : ∃ E, E = (takeE e k f m y nxt msk sq l p).2 := ⟨_, rfl⟩
  obtain ⟨T, hT⟩ : ∃ T : ByteArray, T = ⟨#[]⟩ := ⟨_, rfl⟩
  have S1 : Hid (∀ (u : World) (s1 s2 s3 : Nat), Re u e (some ⟨s1, 0, none⟩) (some ⟨s2, 0, none⟩) (some ⟨s3, 0, none⟩) → Calls Tryz.prog 15 #[.agg #[.int .i64 e.num, .bool e.up, .int .i64 e.life, .int .i64 e.peer, .int .i64 e.since, .bool e.owes, .int .i64 e.b, .slice (some ⟨s1, 0, none⟩) e.xs.length e.xs.length, .int .i64 e.nx, .slice (some ⟨s2, 0, none⟩) e.hs.length e.hs.length, .string e.o, .slice (some ⟨s3, 0, none⟩) e.rs.length e.rs.length], .agg #[.int .i64 k, .int .i64 f, .int .i64 m, .int .i64 y, .int .i64 nxt, .int .i64 msk, .int .i64 sq, .bool l, .string p]] u fun x w' => ActPost C E T u x w') := fun u s1 s2 s3 hr => by rw [hC, hE, hT]; exact specEk_any e s1 (some ⟨s2, 0, none⟩) (some ⟨s3, 0, none⟩) _ _ _ k f m y nxt msk sq l p u HS.out hr (fun h => by cases h) (fun h => by cases h) hps
  have S2 : Hid (∀ (u : World) (s1 s2 s3 : Nat), Re u e (some ⟨s1, 0, none⟩) (some ⟨s2, 0, none⟩) (some ⟨s3, 0, none⟩) → Calls Tryz.prog 17 #[.agg #[.int .i64 e.num, .bool e.up, .int .i64 e.life, .int .i64 e.peer, .int .i64 e.since, .bool e.owes, .int .i64 e.b, .slice (some ⟨s1, 0, none⟩) e.xs.length e.xs.length, .int .i64 e.nx, .slice (some ⟨s2, 0, none⟩) e.hs.length e.hs.length, .string e.o, .slice (some ⟨s3, 0, none⟩) e.rs.length e.rs.length], .agg #[.int .i64 k, .int .i64 f, .int .i64 m, .int .i64 y, .int .i64 nxt, .int .i64 msk, .int .i64 sq, .bool l, .string p]] u fun x w' => ActPost C E T u x w') := fun u s1 s2 s3 hr => by rw [hC, hE, hT]; exact implEk_any e s1 (some ⟨s2, 0, none⟩) (some ⟨s3, 0, none⟩) _ _ _ k f m y nxt msk sq l p u HS.out hr (fun h => by cases h) (fun h => by cases h) hps
  have HE : Hid (E.xs.length ≤ 1000000000 ∧ E.hs.length ≤ 1000000000 ∧ E.rs.length ≤ 1000000000) := (by have := takeE_size k f m y nxt msk sq l p (by omega) HS.out; rw [← hE] at this; omega : E.xs.length ≤ 1000000000 ∧ E.hs.length ≤ 1000000000 ∧ E.rs.length ≤ 1000000000)
  have HE2 : Hid (E.xs.length ≤ 2000000 ∧ E.hs.length ≤ 2000000 ∧ E.rs.length ≤ 2000000) := (by have := takeE_size k f m y nxt msk sq l p (by omega) HS.out; rw [← hE] at this; omega : E.xs.length ≤ 2000000 ∧ E.hs.length ≤ 2000000 ∧ E.rs.length ≤ 2000000)
  have HTO : Hid (∀ u : World, Ae u e ao ho so → Calls Tryz.prog 7 #[.agg #[.int .i64 e.num, .bool e.up, .int .i64 e.life, .int .i64 e.peer, .int .i64 e.since, .bool e.owes, .int .i64 e.b, .slice ao e.xs.length ci, .int .i64 e.nx, .slice ho e.hs.length ch, .string e.o, .slice so e.rs.length cs]] u fun x w' => (∃ s1 s2 s3, x = .returned (.agg #[.int .i64 e.num, .bool e.up, .int .i64 e.life, .int .i64 e.peer, .int .i64 e.since, .bool e.owes, .int .i64 e.b, .slice (some ⟨s1, 0, none⟩) e.xs.length e.xs.length, .int .i64 e.nx, .slice (some ⟨s2, 0, none⟩) e.hs.length e.hs.length, .string e.o, .slice (some ⟨s3, 0, none⟩) e.rs.length e.rs.length]) ∧ w'.ownsRow u.heap.size 67 4 (.slice (some ⟨s1, 0, none⟩) e.xs.length e.xs.length) e.xs.length (is e.xs) ∧ w'.ownsRow u.heap.size 95 3 (.slice (some ⟨s2, 0, none⟩) e.hs.length e.hs.length) e.hs.length (hs e.hs) ∧ w'.ownsRow u.heap.size 9 1 (.slice (some ⟨s3, 0, none⟩) e.rs.length e.rs.length) e.rs.length (ss e.rs)) ∧ Below u.heap.size u w') := fun u h => toEnd_any e ao ho so ci ch cs u HS.out h
  have HPO : Hid (∀ u : World, Calls Tryz.prog 16 #[.agg #[.int .i64 k, .int .i64 f, .int .i64 m, .int .i64 y, .int .i64 nxt, .int .i64 msk, .int .i64 sq, .bool l, .string p]] u fun x w' => x = .returned (.agg #[.int .i64 k, .int .i64 f, .int .i64 m, .int .i64 y, .int .i64 nxt, .int .i64 msk, .int .i64 sq, .bool l, .string p]) ∧ Below u.heap.size u w') := fun u => tag.toPacket_any k f m y nxt msk sq l p u
  clear HZ b0 X0 P0 hb1 hb2 HM HSP A1 P1 hz5 hz1 hz2 hz4 hE hC hT hps
  have HA2 : Hid (Ex w2 w.heap.size #[.int .i64 e.num, .bool e.up, .int .i64 e.life, .int .i64 e.peer, .int .i64 e.since, .bool e.owes, .int .i64 e.b, .slice ao e.xs.length ci, .int .i64 e.nx, .slice ho e.hs.length ch, .string e.o, .slice so e.rs.length cs]) := A2
  have HP2 : Hid (Ex w2 (w.heap.size + 1) #[.int .i64 k, .int .i64 f, .int .i64 m, .int .i64 y, .int .i64 nxt, .int .i64 msk, .int .i64 sq, .bool l, .string p]) := P2
  clear A2 P2
  go_wp2
  go_cut [6] from 23 to 27 (fun v wx => Got w2 C E T v wx)
  case first =>
    refine wp_region_held_drew (S := (fun w' => Below w2.heap.size w2 w')) (by kernel_rfl) ?_ (fun hHeld => ?_)
    · exact (Below.refl _ _).drew
    refine tkE 0 (some 23) ?_ ?_ ?_
    rotate_left
    · (intro w hSw; (have hd0 := cell_keep d0 hSw); (have hd1 := cell_keep d1 hSw); (have hd2 := cell_keep d2 hSw); (have hd3 := cell_keep d3 hSw); (have hd4 := cell_keep d4 hSw); (have hd5 := cell_keep d5 hSw); (have hd6 := cell_keep d6 hSw); (have hd7 := cell_keep d7 hSw); (have hd8 := cell_keep d8 hSw); (have hd9 := cell_keep d9 hSw); (have hd10 := cell_keep d10 hSw); (have hd11 := cell_keep d11 hSw); go_simp <;> with_reducible rfl)
    refine tkE 2 (some 25) ?_ ?_ ?_
    rotate_left
    · (intro w hSw; (have hp0 := cell_keep p0 hSw); (have hp1 := cell_keep p1 hSw); (have hp2 := cell_keep p2 hSw); (have hp3 := cell_keep p3 hSw); (have hp4 := cell_keep p4 hSw); (have hp5 := cell_keep p5 hSw); (have hp6 := cell_keep p6 hSw); (have hp7 := cell_keep p7 hSw); (have hp8 := cell_keep p8 hSw); go_simp <;> with_reducible rfl)
    refine wpAnyH_ready (rs := [1, 5]) (by kernel_rfl) (by simp) ?_
    refine AllReadyH.cons rfl (fun K hK => ?_) (AllReadyH.cons rfl (fun K hK => ?_) AllReadyH.nil)
    · have hH0 := hHeld
      go_simp
      refine (HTO.out _ (HA.out.keep (kb B2.out hH0 (Nat.le_refl _)))).mono ?_
      rintro x w3 ⟨⟨g3, k3, q3, rfl, ho3, hp3, hq3⟩, hb3⟩
      go_wp2_with fail
      refine hK.out _ _ ?_ (fun hHeld => ?_)
      · exact kb hH0 hb3 (Nat.le_refl _)
      clear hK K
      try simp only [Act.put, List.setIfInBounds_toArray, List.set_cons_zero, List.set_cons_succ]
      refine wpAnyH_ready (rs := [3, 5]) (by kernel_rfl) (by simp) ?_
      refine AllReadyH.cons rfl (fun K hK => ?_) (AllReadyH.cons rfl (fun K hK => ?_) AllReadyH.nil)
      · have hH0 := hHeld
        go_simp
        refine (HPO.out _).mono ?_
        rintro x w3b ⟨rfl, hb3b⟩
        replace ho3 := owns_keep ho3 hb3b
        replace hp3 := owns_keep hp3 hb3b
        replace hq3 := owns_keep hq3 hb3b
        go_wp2_with fail
        refine hK.out _ _ ?_ (fun hHeld => ?_)
        · exact kb hH0 hb3b (Nat.le_refl _)
        clear hK K
        try simp only [Act.put, List.setIfInBounds_toArray, List.set_cons_zero, List.set_cons_succ]
        refine wpAnyH_ready (rs := [4, 5]) (by kernel_rfl) (by simp) ?_
        refine AllReadyH.cons rfl (fun K hK => ?_) (AllReadyH.cons rfl (fun K hK => ?_) AllReadyH.nil)
        · have hH0 := hHeld
          go_simp
          have hlo := hH0.size
          refine (S1.out _ _ _ _ ⟨owns_rs ho3, owns_rs hp3, owns_rs hq3⟩).mono ?_
          rintro x w3c ⟨⟨a1, c1, a2, c2, a3, c3, rfl, r1, r2, r3⟩, hb3c⟩
          replace ho3 := owns_keep ho3 hb3c
          replace hp3 := owns_keep hp3 hb3c
          replace hq3 := owns_keep hq3 hb3c
          go_wp2_with fail
          refine hK.out _ _ ?_ (fun hHeld => ?_)
          · exact kb hH0 hb3c (Nat.le_refl _)
          clear hK K
          try simp only [Act.put, List.setIfInBounds_toArray, List.set_cons_zero, List.set_cons_succ]
          refine wpAnyH_ready (rs := [5]) (by kernel_rfl) (by simp) ?_
          refine AllReadyH.cons rfl (fun K hK => ?_) AllReadyH.nil
          have hH0 := hHeld
          go_simp
          have ZB : Bx (w3c.alloc (.cells #[.int .i64 0, .int .i64 0, .bool false, .int .i64 0, .int .i64 0, .int .i64 0, .bool false, .int .i64 0, .slice none 0 0, .int .i64 0, .slice none 0 0, .string ⟨#[]⟩, .slice none 0 0, .slice none 0 0, .string ⟨#[]⟩] 42)) w3c.heap.size 42 #[.int .i64 0, .int .i64 0, .bool false, .int .i64 0, .int .i64 0, .int .i64 0, .bool false, .int .i64 0, .slice none 0 0, .int .i64 0, .slice none 0 0, .string ⟨#[]⟩, .slice none 0 0, .slice none 0 0, .string ⟨#[]⟩] := Bx.new _ _ _
          have r1o := r1
          have r2o := r2
          have r3o := r3
          replace ho3 := ho3.alloc (.cells #[.int .i64 0, .int .i64 0, .bool false, .int .i64 0, .int .i64 0, .int .i64 0, .bool false, .int .i64 0, .slice none 0 0, .int .i64 0, .slice none 0 0, .string ⟨#[]⟩, .slice none 0 0, .slice none 0 0, .string ⟨#[]⟩] 42)
          replace hp3 := hp3.alloc (.cells #[.int .i64 0, .int .i64 0, .bool false, .int .i64 0, .int .i64 0, .int .i64 0, .bool false, .int .i64 0, .slice none 0 0, .int .i64 0, .slice none 0 0, .string ⟨#[]⟩, .slice none 0 0, .slice none 0 0, .string ⟨#[]⟩] 42)
          replace hq3 := hq3.alloc (.cells #[.int .i64 0, .int .i64 0, .bool false, .int .i64 0, .int .i64 0, .int .i64 0, .bool false, .int .i64 0, .slice none 0 0, .int .i64 0, .slice none 0 0, .string ⟨#[]⟩, .slice none 0 0, .slice none 0 0, .string ⟨#[]⟩] 42)
          replace r1 := r1.alloc (.cells #[.int .i64 0, .int .i64 0, .bool false, .int .i64 0, .int .i64 0, .int .i64 0, .bool false, .int .i64 0, .slice none 0 0, .int .i64 0, .slice none 0 0, .string ⟨#[]⟩, .slice none 0 0, .slice none 0 0, .string ⟨#[]⟩] 42)
          replace r2 := r2.alloc (.cells #[.int .i64 0, .int .i64 0, .bool false, .int .i64 0, .int .i64 0, .int .i64 0, .bool false, .int .i64 0, .slice none 0 0, .int .i64 0, .slice none 0 0, .string ⟨#[]⟩, .slice none 0 0, .slice none 0 0, .string ⟨#[]⟩] 42)
          replace r3 := r3.alloc (.cells #[.int .i64 0, .int .i64 0, .bool false, .int .i64 0, .int .i64 0, .int .i64 0, .bool false, .int .i64 0, .slice none 0 0, .int .i64 0, .slice none 0 0, .string ⟨#[]⟩, .slice none 0 0, .slice none 0 0, .string ⟨#[]⟩] 42)
          have hHA := hH0
          refine hK.out _ _ ?_ (fun hHeld => ?_)
          · exact hH0.alloc hH0.size _
          clear hK K
          try simp only [Act.put, List.setIfInBounds_toArray, List.set_cons_zero, List.set_cons_succ]
          have hH0 := hHeld
          refine wpAnyH_ready (rs := [6]) (by kernel_rfl) (by simp) ?_
          refine AllReadyH.cons rfl (fun K hK => ?_) AllReadyH.nil
          go_simp
          have BF : Below w2.heap.size w2 (w3c.alloc (.cells #[.int .i64 C, .int .i64 E.num, .bool E.up, .int .i64 E.life, .int .i64 E.peer, .int .i64 E.since, .bool E.owes, .int .i64 E.b, .slice a1 E.xs.length c1, .int .i64 E.nx, .slice a2 E.hs.length c2, .string E.o, .slice a3 E.rs.length c3, .slice none 0 0, .string T] 42)) := hHA.alloc hHA.size _
          have GF := Got.fold w2 w3c _ C E T a1 c1 a2 c2 a3 c3 hHA hlo hb3c.size r1o r2o r3o
          refine hK.out _ _ ?_ (fun hHeld => ?_)
          · exact BF
          clear hK K
          try simp only [Act.put]
          refine wpAnyH_done (by kernel_rfl) ?_ _
          go_wp2_with fail
          go_meet
          exact GF
        · have hH0 := hHeld
          go_simp
          have ZB : Bx (w3b.alloc (.cells #[.int .i64 0, .int .i64 0, .bool false, .int .i64 0, .int .i64 0, .int .i64 0, .bool false, .int .i64 0, .slice none 0 0, .int .i64 0, .slice none 0 0, .string ⟨#[]⟩, .slice none 0 0, .slice none 0 0, .string ⟨#[]⟩] 42)) w3b.heap.size 42 #[.int .i64 0, .int .i64 0, .bool false, .int .i64 0, .int .i64 0, .int .i64 0, .bool false, .int .i64 0, .slice none 0 0, .int .i64 0, .slice none 0 0, .string ⟨#[]⟩, .slice none 0 0, .slice none 0 0, .string ⟨#[]⟩] := Bx.new _ _ _
          replace ho3 := ho3.alloc (.cells #[.int .i64 0, .int .i64 0, .bool false, .int .i64 0, .int .i64 0, .int .i64 0, .bool false, .int .i64 0, .slice none 0 0, .int .i64 0, .slice none 0 0, .string ⟨#[]⟩, .slice none 0 0, .slice none 0 0, .string ⟨#[]⟩] 42)
          replace hp3 := hp3.alloc (.cells #[.int .i64 0, .int .i64 0, .bool false, .int .i64 0, .int .i64 0, .int .i64 0, .bool false, .int .i64 0, .slice none 0 0, .int .i64 0, .slice none 0 0, .string ⟨#[]⟩, .slice none 0 0, .slice none 0 0, .string ⟨#[]⟩] 42)
          replace hq3 := hq3.alloc (.cells #[.int .i64 0, .int .i64 0, .bool false, .int .i64 0, .int .i64 0, .int .i64 0, .bool false, .int .i64 0, .slice none 0 0, .int .i64 0, .slice none 0 0, .string ⟨#[]⟩, .slice none 0 0, .slice none 0 0, .string ⟨#[]⟩] 42)
          have hHA := hH0
          refine hK.out _ _ ?_ (fun hHeld => ?_)
          · exact hH0.alloc hH0.size _
          clear hK K
          try simp only [Act.put, List.setIfInBounds_toArray, List.set_cons_zero, List.set_cons_succ]
          refine wpAnyH_ready (rs := [4]) (by kernel_rfl) (by simp) ?_
          refine AllReadyH.cons rfl (fun K hK => ?_) AllReadyH.nil
          have hH0 := hHeld
          go_simp
          have hlo := hH0.size
          have hBl := ZB.lt
          refine (S1.out _ _ _ _ ⟨owns_rs ho3, owns_rs hp3, owns_rs hq3⟩).mono ?_
          rintro x w3c ⟨⟨a1, c1, a2, c2, a3, c3, rfl, r1, r2, r3⟩, hb3c⟩
          replace ZB := ZB.keep hb3c
          replace ho3 := owns_keep ho3 hb3c
          replace hp3 := owns_keep hp3 hb3c
          replace hq3 := owns_keep hq3 hb3c
          go_wp2_with fail
          refine hK.out _ _ ?_ (fun hHeld => ?_)
          · exact kb hH0 hb3c (Nat.le_refl _)
          clear hK K
          try simp only [Act.put, List.setIfInBounds_toArray, List.set_cons_zero, List.set_cons_succ]
          have z0 := ZB.cell 0
          have z1 := ZB.cell 1
          have z2 := ZB.cell 2
          have z3 := ZB.cell 3
          have z4 := ZB.cell 4
          have z5 := ZB.cell 5
          have z6 := ZB.cell 6
          have z7 := ZB.cell 7
          have z8 := ZB.cell 8
          have z9 := ZB.cell 9
          have z10 := ZB.cell 10
          have z11 := ZB.cell 11
          have z12 := ZB.cell 12
          have z13 := ZB.cell 13
          have z14 := ZB.cell 14
          simp at z0 z1 z2 z3 z4 z5 z6 z7 z8 z9 z10 z11 z12 z13 z14
          have f0 := ZB.frozen 0
          have f1 := ZB.frozen 1
          have f2 := ZB.frozen 2
          have f3 := ZB.frozen 3
          have f4 := ZB.frozen 4
          have f5 := ZB.frozen 5
          have f6 := ZB.frozen 6
          have f7 := ZB.frozen 7
          have f8 := ZB.frozen 8
          have f9 := ZB.frozen 9
          have f10 := ZB.frozen 10
          have f11 := ZB.frozen 11
          have f12 := ZB.frozen 12
          have f13 := ZB.frozen 13
          have f14 := ZB.frozen 14
          have hH0 := hHeld
          refine wpAnyH_ready (rs := [6]) (by kernel_rfl) (by simp) ?_
          refine AllReadyH.cons rfl (fun K hK => ?_) AllReadyH.nil
          go_simp
          have lB : w2.heap.size ≤ w3b.heap.size := by exact hHA.size
          have BF := below15 hH0 (w3b.heap.size) lB (.int .i64 C) (.int .i64 E.num) (.bool E.up) (.int .i64 E.life) (.int .i64 E.peer) (.int .i64 E.since) (.bool E.owes) (.int .i64 E.b) (.slice a1 E.xs.length c1) (.int .i64 E.nx) (.slice a2 E.hs.length c2) (.string E.o) (.slice a3 E.rs.length c3) (.slice none 0 0) (.string T)
          have GF := Got.put w2 _ (w3b.heap.size) _ C E T a1 c1 a2 c2 a3 c3 ZB hH0 lB hBl hlo hb3c.size r1 r2 r3
          refine hK.out _ _ ?_ (fun hHeld => ?_)
          · exact BF
          clear hK K
          try simp only [Act.put]
          refine wpAnyH_done (by kernel_rfl) ?_ _
          go_wp2_with fail
          go_meet
          exact GF
      · have hH0 := hHeld
        go_simp
        have ZB : Bx (w3.alloc (.cells #[.int .i64 0, .int .i64 0, .bool false, .int .i64 0, .int .i64 0, .int .i64 0, .bool false, .int .i64 0, .slice none 0 0, .int .i64 0, .slice none 0 0, .string ⟨#[]⟩, .slice none 0 0, .slice none 0 0, .string ⟨#[]⟩] 42)) w3.heap.size 42 #[.int .i64 0, .int .i64 0, .bool false, .int .i64 0, .int .i64 0, .int .i64 0, .bool false, .int .i64 0, .slice none 0 0, .int .i64 0, .slice none 0 0, .string ⟨#[]⟩, .slice none 0 0, .slice none 0 0, .string ⟨#[]⟩] := Bx.new _ _ _
        replace ho3 := ho3.alloc (.cells #[.int .i64 0, .int .i64 0, .bool false, .int .i64 0, .int .i64 0, .int .i64 0, .bool false, .int .i64 0, .slice none 0 0, .int .i64 0, .slice none 0 0, .string ⟨#[]⟩, .slice none 0 0, .slice none 0 0, .string ⟨#[]⟩] 42)
        replace hp3 := hp3.alloc (.cells #[.int .i64 0, .int .i64 0, .bool false, .int .i64 0, .int .i64 0, .int .i64 0, .bool false, .int .i64 0, .slice none 0 0, .int .i64 0, .slice none 0 0, .string ⟨#[]⟩, .slice none 0 0, .slice none 0 0, .string ⟨#[]⟩] 42)
        replace hq3 := hq3.alloc (.cells #[.int .i64 0, .int .i64 0, .bool false, .int .i64 0, .int .i64 0, .int .i64 0, .bool false, .int .i64 0, .slice none 0 0, .int .i64 0, .slice none 0 0, .string ⟨#[]⟩, .slice none 0 0, .slice none 0 0, .string ⟨#[]⟩] 42)
        have hHA := hH0
        refine hK.out _ _ ?_ (fun hHeld => ?_)
        · exact hH0.alloc hH0.size _
        clear hK K
        try simp only [Act.put, List.setIfInBounds_toArray, List.set_cons_zero, List.set_cons_succ]
        refine wpAnyH_ready (rs := [3]) (by kernel_rfl) (by simp) ?_
        refine AllReadyH.cons rfl (fun K hK => ?_) AllReadyH.nil
        have hH0 := hHeld
        go_simp
        refine (HPO.out _).mono ?_
        rintro x w3b ⟨rfl, hb3b⟩
        replace ZB := ZB.keep hb3b
        replace ho3 := owns_keep ho3 hb3b
        replace hp3 := owns_keep hp3 hb3b
        replace hq3 := owns_keep hq3 hb3b
        go_wp2_with fail
        refine hK.out _ _ ?_ (fun hHeld => ?_)
        · exact kb hH0 hb3b (Nat.le_refl _)
        clear hK K
        try simp only [Act.put, List.setIfInBounds_toArray, List.set_cons_zero, List.set_cons_succ]
        refine wpAnyH_ready (rs := [4]) (by kernel_rfl) (by simp) ?_
        refine AllReadyH.cons rfl (fun K hK => ?_) AllReadyH.nil
        have hH0 := hHeld
        go_simp
        have hlo := hH0.size
        have hBl := ZB.lt
        refine (S1.out _ _ _ _ ⟨owns_rs ho3, owns_rs hp3, owns_rs hq3⟩).mono ?_
        rintro x w3c ⟨⟨a1, c1, a2, c2, a3, c3, rfl, r1, r2, r3⟩, hb3c⟩
        replace ZB := ZB.keep hb3c
        replace ho3 := owns_keep ho3 hb3c
        replace hp3 := owns_keep hp3 hb3c
        replace hq3 := owns_keep hq3 hb3c
        go_wp2_with fail
        refine hK.out _ _ ?_ (fun hHeld => ?_)
        · exact kb hH0 hb3c (Nat.le_refl _)
        clear hK K
        try simp only [Act.put, List.setIfInBounds_toArray, List.set_cons_zero, List.set_cons_succ]
        have z0 := ZB.cell 0
        have z1 := ZB.cell 1
        have z2 := ZB.cell 2
        have z3 := ZB.cell 3
        have z4 := ZB.cell 4
        have z5 := ZB.cell 5
        have z6 := ZB.cell 6
        have z7 := ZB.cell 7
        have z8 := ZB.cell 8
        have z9 := ZB.cell 9
        have z10 := ZB.cell 10
        have z11 := ZB.cell 11
        have z12 := ZB.cell 12
        have z13 := ZB.cell 13
        have z14 := ZB.cell 14
        simp at z0 z1 z2 z3 z4 z5 z6 z7 z8 z9 z10 z11 z12 z13 z14
        have f0 := ZB.frozen 0
        have f1 := ZB.frozen 1
        have f2 := ZB.frozen 2
        have f3 := ZB.frozen 3
        have f4 := ZB.frozen 4
        have f5 := ZB.frozen 5
        have f6 := ZB.frozen 6
        have f7 := ZB.frozen 7
        have f8 := ZB.frozen 8
        have f9 := ZB.frozen 9
        have f10 := ZB.frozen 10
        have f11 := ZB.frozen 11
        have f12 := ZB.frozen 12
        have f13 := ZB.frozen 13
        have f14 := ZB.frozen 14
        have hH0 := hHeld
        refine wpAnyH_ready (rs := [6]) (by kernel_rfl) (by simp) ?_
        refine AllReadyH.cons rfl (fun K hK => ?_) AllReadyH.nil
        go_simp
        have lB : w2.heap.size ≤ w3.heap.size := by exact hHA.size
        have BF := below15 hH0 (w3.heap.size) lB (.int .i64 C) (.int .i64 E.num) (.bool E.up) (.int .i64 E.life) (.int .i64 E.peer) (.int .i64 E.since) (.bool E.owes) (.int .i64 E.b) (.slice a1 E.xs.length c1) (.int .i64 E.nx) (.slice a2 E.hs.length c2) (.string E.o) (.slice a3 E.rs.length c3) (.slice none 0 0) (.string T)
        have GF := Got.put w2 _ (w3.heap.size) _ C E T a1 c1 a2 c2 a3 c3 ZB hH0 lB hBl hlo hb3c.size r1 r2 r3
        refine hK.out _ _ ?_ (fun hHeld => ?_)
        · exact BF
        clear hK K
        try simp only [Act.put]
        refine wpAnyH_done (by kernel_rfl) ?_ _
        go_wp2_with fail
        go_meet
        exact GF
    · have hH0 := hHeld
      go_simp
      have ZB : Bx (w2.drew.alloc (.cells #[.int .i64 0, .int .i64 0, .bool false, .int .i64 0, .int .i64 0, .int .i64 0, .bool false, .int .i64 0, .slice none 0 0, .int .i64 0, .slice none 0 0, .string ⟨#[]⟩, .slice none 0 0, .slice none 0 0, .string ⟨#[]⟩] 42)) w2.heap.size 42 #[.int .i64 0, .int .i64 0, .bool false, .int .i64 0, .int .i64 0, .int .i64 0, .bool false, .int .i64 0, .slice none 0 0, .int .i64 0, .slice none 0 0, .string ⟨#[]⟩, .slice none 0 0, .slice none 0 0, .string ⟨#[]⟩] := Bx.new _ _ _
      have hHA := hH0
      refine hK.out _ _ ?_ (fun hHeld => ?_)
      · exact hH0.alloc hH0.size _
      clear hK K
      try simp only [Act.put, List.setIfInBounds_toArray, List.set_cons_zero, List.set_cons_succ]
      refine wpAnyH_ready (rs := [1]) (by kernel_rfl) (by simp) ?_
      refine AllReadyH.cons rfl (fun K hK => ?_) AllReadyH.nil
      have hH0 := hHeld
      go_simp
      refine (HTO.out _ (HA.out.keep (kb B2.out hH0 (Nat.le_refl _)))).mono ?_
      rintro x w3 ⟨⟨g3, k3, q3, rfl, ho3, hp3, hq3⟩, hb3⟩
      replace ZB := ZB.keep hb3
      go_wp2_with fail
      refine hK.out _ _ ?_ (fun hHeld => ?_)
      · exact kb hH0 hb3 (Nat.le_refl _)
      clear hK K
      try simp only [Act.put, List.setIfInBounds_toArray, List.set_cons_zero, List.set_cons_succ]
      refine wpAnyH_ready (rs := [3]) (by kernel_rfl) (by simp) ?_
      refine AllReadyH.cons rfl (fun K hK => ?_) AllReadyH.nil
      have hH0 := hHeld
      go_simp
      refine (HPO.out _).mono ?_
      rintro x w3b ⟨rfl, hb3b⟩
      replace ZB := ZB.keep hb3b
      replace ho3 := owns_keep ho3 hb3b
      replace hp3 := owns_keep hp3 hb3b
      replace hq3 := owns_keep hq3 hb3b
      go_wp2_with fail
      refine hK.out _ _ ?_ (fun hHeld => ?_)
      · exact kb hH0 hb3b (Nat.le_refl _)
      clear hK K
      try simp only [Act.put, List.setIfInBounds_toArray, List.set_cons_zero, List.set_cons_succ]
      refine wpAnyH_ready (rs := [4]) (by kernel_rfl) (by simp) ?_
      refine AllReadyH.cons rfl (fun K hK => ?_) AllReadyH.nil
      have hH0 := hHeld
      go_simp
      have hlo := hH0.size
      have hBl := ZB.lt
      refine (S1.out _ _ _ _ ⟨owns_rs ho3, owns_rs hp3, owns_rs hq3⟩).mono ?_
      rintro x w3c ⟨⟨a1, c1, a2, c2, a3, c3, rfl, r1, r2, r3⟩, hb3c⟩
      replace ZB := ZB.keep hb3c
      replace ho3 := owns_keep ho3 hb3c
      replace hp3 := owns_keep hp3 hb3c
      replace hq3 := owns_keep hq3 hb3c
      go_wp2_with fail
      refine hK.out _ _ ?_ (fun hHeld => ?_)
      · exact kb hH0 hb3c (Nat.le_refl _)
      clear hK K
      try simp only [Act.put, List.setIfInBounds_toArray, List.set_cons_zero, List.set_cons_succ]
      have z0 := ZB.cell 0
      have z1 := ZB.cell 1
      have z2 := ZB.cell 2
      have z3 := ZB.cell 3
      have z4 := ZB.cell 4
      have z5 := ZB.cell 5
      have z6 := ZB.cell 6
      have z7 := ZB.cell 7
      have z8 := ZB.cell 8
      have z9 := ZB.cell 9
      have z10 := ZB.cell 10
      have z11 := ZB.cell 11
      have z12 := ZB.cell 12
      have z13 := ZB.cell 13
      have z14 := ZB.cell 14
      simp at z0 z1 z2 z3 z4 z5 z6 z7 z8 z9 z10 z11 z12 z13 z14
      have f0 := ZB.frozen 0
      have f1 := ZB.frozen 1
      have f2 := ZB.frozen 2
      have f3 := ZB.frozen 3
      have f4 := ZB.frozen 4
      have f5 := ZB.frozen 5
      have f6 := ZB.frozen 6
      have f7 := ZB.frozen 7
      have f8 := ZB.frozen 8
      have f9 := ZB.frozen 9
      have f10 := ZB.frozen 10
      have f11 := ZB.frozen 11
      have f12 := ZB.frozen 12
      have f13 := ZB.frozen 13
      have f14 := ZB.frozen 14
      have hH0 := hHeld
      refine wpAnyH_ready (rs := [6]) (by kernel_rfl) (by simp) ?_
      refine AllReadyH.cons rfl (fun K hK => ?_) AllReadyH.nil
      go_simp
      have lB : w2.heap.size ≤ w2.heap.size := by exact Nat.le_refl _
      have BF := below15 hH0 (w2.heap.size) lB (.int .i64 C) (.int .i64 E.num) (.bool E.up) (.int .i64 E.life) (.int .i64 E.peer) (.int .i64 E.since) (.bool E.owes) (.int .i64 E.b) (.slice a1 E.xs.length c1) (.int .i64 E.nx) (.slice a2 E.hs.length c2) (.string E.o) (.slice a3 E.rs.length c3) (.slice none 0 0) (.string T)
      have GF := Got.put w2 _ (w2.heap.size) _ C E T a1 c1 a2 c2 a3 c3 ZB hH0 lB hBl hlo hb3c.size r1 r2 r3
      refine hK.out _ _ ?_ (fun hHeld => ?_)
      · exact BF
      clear hK K
      try simp only [Act.put]
      refine wpAnyH_done (by kernel_rfl) ?_ _
      go_wp2_with fail
      go_meet
      exact GF
  case rest =>
    rename World => wA
    obtain ⟨Wb, lo3, hi3, wa, xa, wb, xb, wc, xc, rfl, ZW, RW, oW, lW1, lW0, lW2, BW, lW⟩ := hcut
    have W3 : Ex wA Wb #[.int .i64 C, .int .i64 E.num, .bool E.up, .int .i64 E.life, .int .i64 E.peer, .int .i64 E.since, .bool E.owes, .int .i64 E.b, .slice wa E.xs.length xa, .int .i64 E.nx, .slice wb E.hs.length xb, .string E.o, .slice wc E.rs.length xc, .slice none 0 0, .string T] := ⟨_, ZW⟩
    have A3 := HA2.out.keep BW
    have P3 := HP2.out.keep BW
    clear d0 d1 d2 d3 d4 d5 d6 d7 d8 d9 d10 d11 p0 p1 p2 p3 p4 p5 p6 p7 p8
    (obtain ⟨d0, d1, d2, d3, d4, d5, d6, d7, d8, d9, d10, d11⟩ := A3.cells)
    (obtain ⟨p0, p1, p2, p3, p4, p5, p6, p7, p8⟩ := P3.cells9)
    have B3 := kb B2.out BW (Nat.le_refl _)
    have ltA3 := A3.lt
    have ltP3 := P3.lt
    have ltW3 := W3.lt
    clear ZW
    go_wp2_with (first
      | (go_at_call 7; refine (HTO.out _ (HA.out.keep B3)).mono ?_; rintro x w4 ⟨⟨g4, k4, q4, rfl, ho4, hp4, hq4⟩, hb4⟩)
      | fail)
    obtain ⟨U6, hU6⟩ : ∃ U, U = w4.alloc (.cells #[.int .i64 e.num, .bool e.up, .int .i64 e.life, .int .i64 e.peer, .int .i64 e.since, .bool e.owes, .int .i64 e.b, .slice (some ⟨g4, 0, none⟩) e.xs.length e.xs.length, .int .i64 e.nx, .slice (some ⟨k4, 0, none⟩) e.hs.length e.hs.length, .string e.o, .slice (some ⟨q4, 0, none⟩) e.rs.length e.rs.length] 39) := ⟨_, rfl⟩
    rw [← hU6]
    have b6 : Below wA.heap.size wA U6 := by rw [hU6]; exact hb4.alloc hb4.size _
    have X6 : Ex U6 w4.heap.size #[.int .i64 e.num, .bool e.up, .int .i64 e.life, .int .i64 e.peer, .int .i64 e.since, .bool e.owes, .int .i64 e.b, .slice (some ⟨g4, 0, none⟩) e.xs.length e.xs.length, .int .i64 e.nx, .slice (some ⟨k4, 0, none⟩) e.hs.length e.hs.length, .string e.o, .slice (some ⟨q4, 0, none⟩) e.rs.length e.rs.length] := by rw [hU6]; exact Ex.new _ _ _
    have RX := R3.of ho4 hp4 hq4
    have RX6 := RX.alloc (.cells #[.int .i64 e.num, .bool e.up, .int .i64 e.life, .int .i64 e.peer, .int .i64 e.since, .bool e.owes, .int .i64 e.b, .slice (some ⟨g4, 0, none⟩) e.xs.length e.xs.length, .int .i64 e.nx, .slice (some ⟨k4, 0, none⟩) e.hs.length e.hs.length, .string e.o, .slice (some ⟨q4, 0, none⟩) e.rs.length e.rs.length] 39)
    rw [← hU6] at RX6
    have hx1 := RX6.i.own
    have hx2 := RX6.h.own
    have hx3 := RX6.s.own
    have HLU : Hid (U6.heap.size = w4.heap.size + 1) := (by rw [hU6]; simp : U6.heap.size = w4.heap.size + 1)
    have A6 := A3.keep b6
    have P6 := P3.keep b6
    have W6 := W3.keep b6
    have RW6 := RW.keep b6
    have B6 : Hid (Below w.heap.size w U6) := kb B3 b6 (Nat.le_refl _)
    have s4 := hb4.size
    have HX6 : Hid (Ex U6 w4.heap.size #[.int .i64 e.num, .bool e.up, .int .i64 e.life, .int .i64 e.peer, .int .i64 e.since, .bool e.owes, .int .i64 e.b, .slice (some ⟨g4, 0, none⟩) e.xs.length e.xs.length, .int .i64 e.nx, .slice (some ⟨k4, 0, none⟩) e.hs.length e.hs.length, .string e.o, .slice (some ⟨q4, 0, none⟩) e.rs.length e.rs.length] ∧ Ex U6 w.heap.size #[.int .i64 e.num, .bool e.up, .int .i64 e.life, .int .i64 e.peer, .int .i64 e.since, .bool e.owes, .int .i64 e.b, .slice ao e.xs.length ci, .int .i64 e.nx, .slice ho e.hs.length ch, .string e.o, .slice so e.rs.length cs] ∧ Ex U6 (w.heap.size + 1) #[.int .i64 k, .int .i64 f, .int .i64 m, .int .i64 y, .int .i64 nxt, .int .i64 msk, .int .i64 sq, .bool l, .string p] ∧ Ex U6 Wb #[.int .i64 C, .int .i64 E.num, .bool E.up, .int .i64 E.life, .int .i64 E.peer, .int .i64 E.since, .bool E.owes, .int .i64 E.b, .slice wa E.xs.length xa, .int .i64 E.nx, .slice wb E.hs.length xb, .string E.o, .slice wc E.rs.length xc, .slice none 0 0, .string T]) := ⟨X6, A6, P6, W6⟩
    have HRX : Hid _ := RX6
    have HRW : Hid _ := RW6
    clear d0 d1 d2 d3 d4 d5 d6 d7 d8 d9 d10 d11 p0 p1 p2 p3 p4 p5 p6 p7 p8
    (obtain ⟨x0, x1, x2, x3, x4, x5, x6, x7, x8, x9, x10, x11⟩ := X6.cells)
    (obtain ⟨p0, p1, p2, p3, p4, p5, p6, p7, p8⟩ := P6.cells9)
    clear hU6 X6 A6 P6 W6 RX6 RX RW6 RW W3 A3 P3 ho4 hp4 hq4 hb4 B3 b6 BW HA2 HP2
    go_cut [8] from 30 to 33 (fun v wx => Got U6 C E T v wx)
    case first =>
      refine wp_region_held_drew (S := (fun w' => Below U6.heap.size U6 w')) (by kernel_rfl) ?_ (fun hHeld => ?_)
      · exact (Below.refl _ _).drew
      refine tkE 0 (some 30) ?_ ?_ ?_
      rotate_left
      · (intro w hSw; (have hx0 := cell_keep x0 hSw); (have hx1 := cell_keep x1 hSw); (have hx2 := cell_keep x2 hSw); (have hx3 := cell_keep x3 hSw); (have hx4 := cell_keep x4 hSw); (have hx5 := cell_keep x5 hSw); (have hx6 := cell_keep x6 hSw); (have hx7 := cell_keep x7 hSw); (have hx8 := cell_keep x8 hSw); (have hx9 := cell_keep x9 hSw); (have hx10 := cell_keep x10 hSw); (have hx11 := cell_keep x11 hSw); go_simp <;> with_reducible rfl)
      refine tkE 1 (some 31) ?_ ?_ ?_
      rotate_left
      · (intro w hSw; (have hp0 := cell_keep p0 hSw); (have hp1 := cell_keep p1 hSw); (have hp2 := cell_keep p2 hSw); (have hp3 := cell_keep p3 hSw); (have hp4 := cell_keep p4 hSw); (have hp5 := cell_keep p5 hSw); (have hp6 := cell_keep p6 hSw); (have hp7 := cell_keep p7 hSw); (have hp8 := cell_keep p8 hSw); go_simp <;> with_reducible rfl)
      replace hx1 := World.ownsRow.drew hx1
      replace hx2 := World.ownsRow.drew hx2
      replace hx3 := World.ownsRow.drew hx3
      refine wpAnyH_ready (rs := [2, 4]) (by kernel_rfl) (by simp) ?_
      refine AllReadyH.cons rfl (fun K hK => ?_) (AllReadyH.cons rfl (fun K hK => ?_) AllReadyH.nil)
      · have hH0 := hHeld
        go_simp
        refine (HPO.out _).mono ?_
        rintro x w7 ⟨rfl, hb7⟩
        replace hx1 := owns_keep hx1 hb7
        replace hx2 := owns_keep hx2 hb7
        replace hx3 := owns_keep hx3 hb7
        go_wp2_with fail
        refine hK.out _ _ ?_ (fun hHeld => ?_)
        · exact kb hH0 hb7 (Nat.le_refl _)
        clear hK K
        try simp only [Act.put, List.setIfInBounds_toArray, List.set_cons_zero, List.set_cons_succ]
        refine wpAnyH_ready (rs := [3, 4]) (by kernel_rfl) (by simp) ?_
        refine AllReadyH.cons rfl (fun K hK => ?_) (AllReadyH.cons rfl (fun K hK => ?_) AllReadyH.nil)
        · have hH0 := hHeld
          go_simp
          have hlo := hH0.size
          refine (S2.out _ _ _ _ ⟨owns_rs hx1, owns_rs hx2, owns_rs hx3⟩).mono ?_
          rintro x w8 ⟨⟨a1, c1, a2, c2, a3, c3, rfl, r1, r2, r3⟩, hb8⟩
          replace hx1 := owns_keep hx1 hb8
          replace hx2 := owns_keep hx2 hb8
          replace hx3 := owns_keep hx3 hb8
          go_wp2_with fail
          refine hK.out _ _ ?_ (fun hHeld => ?_)
          · exact kb hH0 hb8 (Nat.le_refl _)
          clear hK K
          try simp only [Act.put, List.setIfInBounds_toArray, List.set_cons_zero, List.set_cons_succ]
          refine wpAnyH_ready (rs := [4]) (by kernel_rfl) (by simp) ?_
          refine AllReadyH.cons rfl (fun K hK => ?_) AllReadyH.nil
          have hH0 := hHeld
          go_simp
          have ZB : Bx (w8.alloc (.cells #[.int .i64 0, .int .i64 0, .bool false, .int .i64 0, .int .i64 0, .int .i64 0, .bool false, .int .i64 0, .slice none 0 0, .int .i64 0, .slice none 0 0, .string ⟨#[]⟩, .slice none 0 0, .slice none 0 0, .string ⟨#[]⟩] 42)) w8.heap.size 42 #[.int .i64 0, .int .i64 0, .bool false, .int .i64 0, .int .i64 0, .int .i64 0, .bool false, .int .i64 0, .slice none 0 0, .int .i64 0, .slice none 0 0, .string ⟨#[]⟩, .slice none 0 0, .slice none 0 0, .string ⟨#[]⟩] := Bx.new _ _ _
          have r1o := r1
          have r2o := r2
          have r3o := r3
          replace hx1 := hx1.alloc (.cells #[.int .i64 0, .int .i64 0, .bool false, .int .i64 0, .int .i64 0, .int .i64 0, .bool false, .int .i64 0, .slice none 0 0, .int .i64 0, .slice none 0 0, .string ⟨#[]⟩, .slice none 0 0, .slice none 0 0, .string ⟨#[]⟩] 42)
          replace hx2 := hx2.alloc (.cells #[.int .i64 0, .int .i64 0, .bool false, .int .i64 0, .int .i64 0, .int .i64 0, .bool false, .int .i64 0, .slice none 0 0, .int .i64 0, .slice none 0 0, .string ⟨#[]⟩, .slice none 0 0, .slice none 0 0, .string ⟨#[]⟩] 42)
          replace hx3 := hx3.alloc (.cells #[.int .i64 0, .int .i64 0, .bool false, .int .i64 0, .int .i64 0, .int .i64 0, .bool false, .int .i64 0, .slice none 0 0, .int .i64 0, .slice none 0 0, .string ⟨#[]⟩, .slice none 0 0, .slice none 0 0, .string ⟨#[]⟩] 42)
          replace r1 := r1.alloc (.cells #[.int .i64 0, .int .i64 0, .bool false, .int .i64 0, .int .i64 0, .int .i64 0, .bool false, .int .i64 0, .slice none 0 0, .int .i64 0, .slice none 0 0, .string ⟨#[]⟩, .slice none 0 0, .slice none 0 0, .string ⟨#[]⟩] 42)
          replace r2 := r2.alloc (.cells #[.int .i64 0, .int .i64 0, .bool false, .int .i64 0, .int .i64 0, .int .i64 0, .bool false, .int .i64 0, .slice none 0 0, .int .i64 0, .slice none 0 0, .string ⟨#[]⟩, .slice none 0 0, .slice none 0 0, .string ⟨#[]⟩] 42)
          replace r3 := r3.alloc (.cells #[.int .i64 0, .int .i64 0, .bool false, .int .i64 0, .int .i64 0, .int .i64 0, .bool false, .int .i64 0, .slice none 0 0, .int .i64 0, .slice none 0 0, .string ⟨#[]⟩, .slice none 0 0, .slice none 0 0, .string ⟨#[]⟩] 42)
          have hHA := hH0
          refine hK.out _ _ ?_ (fun hHeld => ?_)
          · exact hH0.alloc hH0.size _
          clear hK K
          try simp only [Act.put, List.setIfInBounds_toArray, List.set_cons_zero, List.set_cons_succ]
          have hH0 := hHeld
          refine wpAnyH_ready (rs := [5]) (by kernel_rfl) (by simp) ?_
          refine AllReadyH.cons rfl (fun K hK => ?_) AllReadyH.nil
          go_simp
          have BF : Below U6.heap.size U6 (w8.alloc (.cells #[.int .i64 C, .int .i64 E.num, .bool E.up, .int .i64 E.life, .int .i64 E.peer, .int .i64 E.since, .bool E.owes, .int .i64 E.b, .slice a1 E.xs.length c1, .int .i64 E.nx, .slice a2 E.hs.length c2, .string E.o, .slice a3 E.rs.length c3, .slice none 0 0, .string T] 42)) := hHA.alloc hHA.size _
          have GF := Got.fold U6 w8 _ C E T a1 c1 a2 c2 a3 c3 hHA hlo hb8.size r1o r2o r3o
          refine hK.out _ _ ?_ (fun hHeld => ?_)
          · exact BF
          clear hK K
          try simp only [Act.put]
          refine wpAnyH_done (by kernel_rfl) ?_ _
          go_wp2_with fail
          go_meet
          exact GF
        · have hH0 := hHeld
          go_simp
          have ZB : Bx (w7.alloc (.cells #[.int .i64 0, .int .i64 0, .bool false, .int .i64 0, .int .i64 0, .int .i64 0, .bool false, .int .i64 0, .slice none 0 0, .int .i64 0, .slice none 0 0, .string ⟨#[]⟩, .slice none 0 0, .slice none 0 0, .string ⟨#[]⟩] 42)) w7.heap.size 42 #[.int .i64 0, .int .i64 0, .bool false, .int .i64 0, .int .i64 0, .int .i64 0, .bool false, .int .i64 0, .slice none 0 0, .int .i64 0, .slice none 0 0, .string ⟨#[]⟩, .slice none 0 0, .slice none 0 0, .string ⟨#[]⟩] := Bx.new _ _ _
          replace hx1 := hx1.alloc (.cells #[.int .i64 0, .int .i64 0, .bool false, .int .i64 0, .int .i64 0, .int .i64 0, .bool false, .int .i64 0, .slice none 0 0, .int .i64 0, .slice none 0 0, .string ⟨#[]⟩, .slice none 0 0, .slice none 0 0, .string ⟨#[]⟩] 42)
          replace hx2 := hx2.alloc (.cells #[.int .i64 0, .int .i64 0, .bool false, .int .i64 0, .int .i64 0, .int .i64 0, .bool false, .int .i64 0, .slice none 0 0, .int .i64 0, .slice none 0 0, .string ⟨#[]⟩, .slice none 0 0, .slice none 0 0, .string ⟨#[]⟩] 42)
          replace hx3 := hx3.alloc (.cells #[.int .i64 0, .int .i64 0, .bool false, .int .i64 0, .int .i64 0, .int .i64 0, .bool false, .int .i64 0, .slice none 0 0, .int .i64 0, .slice none 0 0, .string ⟨#[]⟩, .slice none 0 0, .slice none 0 0, .string ⟨#[]⟩] 42)
          have hHA := hH0
          refine hK.out _ _ ?_ (fun hHeld => ?_)
          · exact hH0.alloc hH0.size _
          clear hK K
          try simp only [Act.put, List.setIfInBounds_toArray, List.set_cons_zero, List.set_cons_succ]
          refine wpAnyH_ready (rs := [3]) (by kernel_rfl) (by simp) ?_
          refine AllReadyH.cons rfl (fun K hK => ?_) AllReadyH.nil
          have hH0 := hHeld
          go_simp
          have hlo := hH0.size
          have hBl := ZB.lt
          refine (S2.out _ _ _ _ ⟨owns_rs hx1, owns_rs hx2, owns_rs hx3⟩).mono ?_
          rintro x w8 ⟨⟨a1, c1, a2, c2, a3, c3, rfl, r1, r2, r3⟩, hb8⟩
          replace ZB := ZB.keep hb8
          replace hx1 := owns_keep hx1 hb8
          replace hx2 := owns_keep hx2 hb8
          replace hx3 := owns_keep hx3 hb8
          go_wp2_with fail
          refine hK.out _ _ ?_ (fun hHeld => ?_)
          · exact kb hH0 hb8 (Nat.le_refl _)
          clear hK K
          try simp only [Act.put, List.setIfInBounds_toArray, List.set_cons_zero, List.set_cons_succ]
          have z0 := ZB.cell 0
          have z1 := ZB.cell 1
          have z2 := ZB.cell 2
          have z3 := ZB.cell 3
          have z4 := ZB.cell 4
          have z5 := ZB.cell 5
          have z6 := ZB.cell 6
          have z7 := ZB.cell 7
          have z8 := ZB.cell 8
          have z9 := ZB.cell 9
          have z10 := ZB.cell 10
          have z11 := ZB.cell 11
          have z12 := ZB.cell 12
          have z13 := ZB.cell 13
          have z14 := ZB.cell 14
          simp at z0 z1 z2 z3 z4 z5 z6 z7 z8 z9 z10 z11 z12 z13 z14
          have f0 := ZB.frozen 0
          have f1 := ZB.frozen 1
          have f2 := ZB.frozen 2
          have f3 := ZB.frozen 3
          have f4 := ZB.frozen 4
          have f5 := ZB.frozen 5
          have f6 := ZB.frozen 6
          have f7 := ZB.frozen 7
          have f8 := ZB.frozen 8
          have f9 := ZB.frozen 9
          have f10 := ZB.frozen 10
          have f11 := ZB.frozen 11
          have f12 := ZB.frozen 12
          have f13 := ZB.frozen 13
          have f14 := ZB.frozen 14
          have hH0 := hHeld
          refine wpAnyH_ready (rs := [5]) (by kernel_rfl) (by simp) ?_
          refine AllReadyH.cons rfl (fun K hK => ?_) AllReadyH.nil
          go_simp
          have lB : U6.heap.size ≤ w7.heap.size := by exact hHA.size
          have BF := below15 hH0 (w7.heap.size) lB (.int .i64 C) (.int .i64 E.num) (.bool E.up) (.int .i64 E.life) (.int .i64 E.peer) (.int .i64 E.since) (.bool E.owes) (.int .i64 E.b) (.slice a1 E.xs.length c1) (.int .i64 E.nx) (.slice a2 E.hs.length c2) (.string E.o) (.slice a3 E.rs.length c3) (.slice none 0 0) (.string T)
          have GF := Got.put U6 _ (w7.heap.size) _ C E T a1 c1 a2 c2 a3 c3 ZB hH0 lB hBl hlo hb8.size r1 r2 r3
          refine hK.out _ _ ?_ (fun hHeld => ?_)
          · exact BF
          clear hK K
          try simp only [Act.put]
          refine wpAnyH_done (by kernel_rfl) ?_ _
          go_wp2_with fail
          go_meet
          exact GF
      · have hH0 := hHeld
        go_simp
        have ZB : Bx (U6.drew.alloc (.cells #[.int .i64 0, .int .i64 0, .bool false, .int .i64 0, .int .i64 0, .int .i64 0, .bool false, .int .i64 0, .slice none 0 0, .int .i64 0, .slice none 0 0, .string ⟨#[]⟩, .slice none 0 0, .slice none 0 0, .string ⟨#[]⟩] 42)) U6.heap.size 42 #[.int .i64 0, .int .i64 0, .bool false, .int .i64 0, .int .i64 0, .int .i64 0, .bool false, .int .i64 0, .slice none 0 0, .int .i64 0, .slice none 0 0, .string ⟨#[]⟩, .slice none 0 0, .slice none 0 0, .string ⟨#[]⟩] := Bx.new _ _ _
        replace hx1 := hx1.alloc (.cells #[.int .i64 0, .int .i64 0, .bool false, .int .i64 0, .int .i64 0, .int .i64 0, .bool false, .int .i64 0, .slice none 0 0, .int .i64 0, .slice none 0 0, .string ⟨#[]⟩, .slice none 0 0, .slice none 0 0, .string ⟨#[]⟩] 42)
        replace hx2 := hx2.alloc (.cells #[.int .i64 0, .int .i64 0, .bool false, .int .i64 0, .int .i64 0, .int .i64 0, .bool false, .int .i64 0, .slice none 0 0, .int .i64 0, .slice none 0 0, .string ⟨#[]⟩, .slice none 0 0, .slice none 0 0, .string ⟨#[]⟩] 42)
        replace hx3 := hx3.alloc (.cells #[.int .i64 0, .int .i64 0, .bool false, .int .i64 0, .int .i64 0, .int .i64 0, .bool false, .int .i64 0, .slice none 0 0, .int .i64 0, .slice none 0 0, .string ⟨#[]⟩, .slice none 0 0, .slice none 0 0, .string ⟨#[]⟩] 42)
        have hHA := hH0
        refine hK.out _ _ ?_ (fun hHeld => ?_)
        · exact hH0.alloc hH0.size _
        clear hK K
        try simp only [Act.put, List.setIfInBounds_toArray, List.set_cons_zero, List.set_cons_succ]
        refine wpAnyH_ready (rs := [2]) (by kernel_rfl) (by simp) ?_
        refine AllReadyH.cons rfl (fun K hK => ?_) AllReadyH.nil
        have hH0 := hHeld
        go_simp
        refine (HPO.out _).mono ?_
        rintro x w7 ⟨rfl, hb7⟩
        replace ZB := ZB.keep hb7
        replace hx1 := owns_keep hx1 hb7
        replace hx2 := owns_keep hx2 hb7
        replace hx3 := owns_keep hx3 hb7
        go_wp2_with fail
        refine hK.out _ _ ?_ (fun hHeld => ?_)
        · exact kb hH0 hb7 (Nat.le_refl _)
        clear hK K
        try simp only [Act.put, List.setIfInBounds_toArray, List.set_cons_zero, List.set_cons_succ]
        refine wpAnyH_ready (rs := [3]) (by kernel_rfl) (by simp) ?_
        refine AllReadyH.cons rfl (fun K hK => ?_) AllReadyH.nil
        have hH0 := hHeld
        go_simp
        have hlo := hH0.size
        have hBl := ZB.lt
        refine (S2.out _ _ _ _ ⟨owns_rs hx1, owns_rs hx2, owns_rs hx3⟩).mono ?_
        rintro x w8 ⟨⟨a1, c1, a2, c2, a3, c3, rfl, r1, r2, r3⟩, hb8⟩
        replace ZB := ZB.keep hb8
        replace hx1 := owns_keep hx1 hb8
        replace hx2 := owns_keep hx2 hb8
        replace hx3 := owns_keep hx3 hb8
        go_wp2_with fail
        refine hK.out _ _ ?_ (fun hHeld => ?_)
        · exact kb hH0 hb8 (Nat.le_refl _)
        clear hK K
        try simp only [Act.put, List.setIfInBounds_toArray, List.set_cons_zero, List.set_cons_succ]
        have z0 := ZB.cell 0
        have z1 := ZB.cell 1
        have z2 := ZB.cell 2
        have z3 := ZB.cell 3
        have z4 := ZB.cell 4
        have z5 := ZB.cell 5
        have z6 := ZB.cell 6
        have z7 := ZB.cell 7
        have z8 := ZB.cell 8
        have z9 := ZB.cell 9
        have z10 := ZB.cell 10
        have z11 := ZB.cell 11
        have z12 := ZB.cell 12
        have z13 := ZB.cell 13
        have z14 := ZB.cell 14
        simp at z0 z1 z2 z3 z4 z5 z6 z7 z8 z9 z10 z11 z12 z13 z14
        have f0 := ZB.frozen 0
        have f1 := ZB.frozen 1
        have f2 := ZB.frozen 2
        have f3 := ZB.frozen 3
        have f4 := ZB.frozen 4
        have f5 := ZB.frozen 5
        have f6 := ZB.frozen 6
        have f7 := ZB.frozen 7
        have f8 := ZB.frozen 8
        have f9 := ZB.frozen 9
        have f10 := ZB.frozen 10
        have f11 := ZB.frozen 11
        have f12 := ZB.frozen 12
        have f13 := ZB.frozen 13
        have f14 := ZB.frozen 14
        have hH0 := hHeld
        refine wpAnyH_ready (rs := [5]) (by kernel_rfl) (by simp) ?_
        refine AllReadyH.cons rfl (fun K hK => ?_) AllReadyH.nil
        go_simp
        have lB : U6.heap.size ≤ U6.heap.size := by exact Nat.le_refl _
        have BF := below15 hH0 (U6.heap.size) lB (.int .i64 C) (.int .i64 E.num) (.bool E.up) (.int .i64 E.life) (.int .i64 E.peer) (.int .i64 E.since) (.bool E.owes) (.int .i64 E.b) (.slice a1 E.xs.length c1) (.int .i64 E.nx) (.slice a2 E.hs.length c2) (.string E.o) (.slice a3 E.rs.length c3) (.slice none 0 0) (.string T)
        have GF := Got.put U6 _ (U6.heap.size) _ C E T a1 c1 a2 c2 a3 c3 ZB hH0 lB hBl hlo hb8.size r1 r2 r3
        refine hK.out _ _ ?_ (fun hHeld => ?_)
        · exact BF
        clear hK K
        try simp only [Act.put]
        refine wpAnyH_done (by kernel_rfl) ?_ _
        go_wp2_with fail
        go_meet
        exact GF
    case rest =>
      rename World => wB
      obtain ⟨Gb, lo5, hi5, ga, ya, gb, yb, gc, yc, rfl, ZG, RG, oG, lG1, lG0, lG2, BG, lG⟩ := hcut
      obtain ⟨X6', A6', P6', W6'⟩ := HX6.out
      have X5 := X6'.keep BG
      have A5 := A6'.keep BG
      have P5 := P6'.keep BG
      have W5 := W6'.keep BG
      have G5 : Ex wB Gb #[.int .i64 C, .int .i64 E.num, .bool E.up, .int .i64 E.life, .int .i64 E.peer, .int .i64 E.since, .bool E.owes, .int .i64 E.b, .slice ga E.xs.length ya, .int .i64 E.nx, .slice gb E.hs.length yb, .string E.o, .slice gc E.rs.length yc, .slice none 0 0, .string T] := ⟨_, ZG⟩
      have RX5 := HRX.out.keep BG
      have RW5 := HRW.out.keep BG
      have B5 := kb B6.out BG (Nat.le_refl _)
      have s5 := BG.size
      have lU6 : U6.heap.size = w4.heap.size + 1 := HLU.out
      clear HLU
      have ltG5 := G5.lt
      clear x0 x1 x2 x3 x4 x5 x6 x7 x8 x9 x10 x11 p0 p1 p2 p3 p4 p5 p6 p7 p8
      clear HX6 X6' A6' P6' W6' HRX HRW B6 BG ZG hx1 hx2 hx3
      (obtain ⟨d0, d1, d2, d3, d4, d5, d6, d7, d8, d9, d10, d11⟩ := A5.cells)
      (obtain ⟨v0, v1, v2, v3, v4, v5, v6, v7, v8, v9, v10, v11, v12, v13, v14⟩ := W5.cells15)
      (obtain ⟨x0, x1, x2, x3, x4, x5, x6, x7, x8, x9, x10, x11⟩ := X5.cells)
      (obtain ⟨n0, n1, n2, n3, n4, n5, n6, n7, n8, n9, n10, n11, n12, n13, n14⟩ := G5.cells15)
      go_wp2_with (first
        | (go_at_call 9; refine (eqActed_same C T E _ _ _ _ _ _ _ _ _ _ _ _ _ HE.out.1 HE.out.2.1 HE.out.2.2 RG.re RW5.re).mono ?_; rintro x w6 ⟨rfl, hb6⟩; (have G6 := G5.keep hb6); (have A6 := A5.keep hb6); (have P6 := P5.keep hb6); (have W6 := W5.keep hb6); (have X6 := X5.keep hb6); clear d0 d1 d2 d3 d4 d5 d6 d7 d8 d9 d10 d11 v0 v1 v2 v3 v4 v5 v6 v7 v8 v9 v10 v11 v12 v13 v14 x0 x1 x2 x3 x4 x5 x6 x7 x8 x9 x10 x11 n0 n1 n2 n3 n4 n5 n6 n7 n8 n9 n10 n11 n12 n13 n14; (obtain ⟨d0, d1, d2, d3, d4, d5, d6, d7, d8, d9, d10, d11⟩ := A6.cells); (obtain ⟨v0, v1, v2, v3, v4, v5, v6, v7, v8, v9, v10, v11, v12, v13, v14⟩ := W6.cells15); (obtain ⟨x0, x1, x2, x3, x4, x5, x6, x7, x8, x9, x10, x11⟩ := X6.cells); (obtain ⟨n0, n1, n2, n3, n4, n5, n6, n7, n8, n9, n10, n11, n12, n13, n14⟩ := G6.cells15))
        | fail)
      have RW6 := RW5.keep hb6
      have RG6 := RG.keep hb6
      have RX6 := RX5.keep hb6
      have B6 : Hid (Below w.heap.size w w6) := kb B5 hb6 (Nat.le_refl _)
      have hs6 : w.heap.size < w6.heap.size := A6.lt
      have hx6 : w4.heap.size < w6.heap.size := X6.lt
      have s6 := hb6.size
      clear B5 A5 P5 W5 X5 G5 RW5 RG RX5 hb6
      have R6 : Hid (Re w6 e (some ⟨g4, 0, none⟩) (some ⟨k4, 0, none⟩) (some ⟨q4, 0, none⟩)) := RX6.re
      have HRW : Hid _ := RW6
      have HRG : Hid _ := RG6
      have HRX : Hid _ := RX6
      clear RW6 RG6 RX6
      go_wp2
      go_region_held3 (fun w' => w'.cell? ⟨w.heap.size, 0, none⟩ = some (.int .i64 e.num) ∧ w'.cell? ⟨w.heap.size, 1, none⟩ = some (.bool e.up) ∧ w'.cell? ⟨w.heap.size, 2, none⟩ = some (.int .i64 e.life) ∧ w'.cell? ⟨w.heap.size, 3, none⟩ = some (.int .i64 e.peer) ∧ w'.cell? ⟨w.heap.size, 4, none⟩ = some (.int .i64 e.since) ∧ w'.cell? ⟨w.heap.size, 5, none⟩ = some (.bool e.owes) ∧ w'.cell? ⟨w.heap.size, 6, none⟩ = some (.int .i64 e.b) ∧ w'.cell? ⟨w.heap.size, 7, none⟩ = some (.slice ao e.xs.length ci) ∧ w'.cell? ⟨w.heap.size, 8, none⟩ = some (.int .i64 e.nx) ∧ w'.cell? ⟨w.heap.size, 9, none⟩ = some (.slice ho e.hs.length ch) ∧ w'.cell? ⟨w.heap.size, 10, none⟩ = some (.string e.o) ∧ w'.cell? ⟨w.heap.size, 11, none⟩ = some (.slice so e.rs.length cs) ∧ w'.cell? ⟨w4.heap.size, 0, none⟩ = some (.int .i64 e.num) ∧ w'.cell? ⟨w4.heap.size, 1, none⟩ = some (.bool e.up) ∧ w'.cell? ⟨w4.heap.size, 2, none⟩ = some (.int .i64 e.life) ∧ w'.cell? ⟨w4.heap.size, 3, none⟩ = some (.int .i64 e.peer) ∧ w'.cell? ⟨w4.heap.size, 4, none⟩ = some (.int .i64 e.since) ∧ w'.cell? ⟨w4.heap.size, 5, none⟩ = some (.bool e.owes) ∧ w'.cell? ⟨w4.heap.size, 6, none⟩ = some (.int .i64 e.b) ∧ w'.cell? ⟨w4.heap.size, 7, none⟩ = some (.slice (some ⟨g4, 0, none⟩) e.xs.length e.xs.length) ∧ w'.cell? ⟨w4.heap.size, 8, none⟩ = some (.int .i64 e.nx) ∧ w'.cell? ⟨w4.heap.size, 9, none⟩ = some (.slice (some ⟨k4, 0, none⟩) e.hs.length e.hs.length) ∧ w'.cell? ⟨w4.heap.size, 10, none⟩ = some (.string e.o) ∧ w'.cell? ⟨w4.heap.size, 11, none⟩ = some (.slice (some ⟨q4, 0, none⟩) e.rs.length e.rs.length) ∧ Below w6.heap.size w6 w')
        (first | assumption | exact ⟨d0, d1, d2, d3, d4, d5, d6, d7, d8, d9, d10, d11, x0, x1, x2, x3, x4, x5, x6, x7, x8, x9, x10, x11, (Below.refl _ _).drew⟩ | (go_split_ands; refine ⟨kp (by assumption) (by assumption) hb7 hs6, kp (by assumption) (by assumption) hb7 hs6, kp (by assumption) (by assumption) hb7 hs6, kp (by assumption) (by assumption) hb7 hs6, kp (by assumption) (by assumption) hb7 hs6, kp (by assumption) (by assumption) hb7 hs6, kp (by assumption) (by assumption) hb7 hs6, kp (by assumption) (by assumption) hb7 hs6, kp (by assumption) (by assumption) hb7 hs6, kp (by assumption) (by assumption) hb7 hs6, kp (by assumption) (by assumption) hb7 hs6, kp (by assumption) (by assumption) hb7 hs6, kp (by assumption) (by assumption) hb7 hx6, kp (by assumption) (by assumption) hb7 hx6, kp (by assumption) (by assumption) hb7 hx6, kp (by assumption) (by assumption) hb7 hx6, kp (by assumption) (by assumption) hb7 hx6, kp (by assumption) (by assumption) hb7 hx6, kp (by assumption) (by assumption) hb7 hx6, kp (by assumption) (by assumption) hb7 hx6, kp (by assumption) (by assumption) hb7 hx6, kp (by assumption) (by assumption) hb7 hx6, kp (by assumption) (by assumption) hb7 hx6, kp (by assumption) (by assumption) hb7 hx6, kb (by assumption) hb7 (Nat.le_refl _)⟩))
        (first
          | (go_at_call 7; refine (toEnd_any e ao ho so ci ch cs _ HS.out (HA.out.keep (kb B6.out (by go_split_ands; assumption) (Nat.le_refl _)))).mono ?_; rintro x' w7 ⟨⟨g7, k7, q7, rfl, ho7, hp7, hq7⟩, hb7⟩)
          | (go_at_call 10; refine (eqEnd_same e _ _ _ _ _ _ _ _ _ _ _ _ _ (by have := HS.out.n; omega) (by have := HS.out.tk.n; omega) (by have := HS.out.tk.k; omega) (R6.out.keep (by go_split_ands; assumption)) ⟨owns_rs ho7, owns_rs hp7, owns_rs hq7⟩).mono ?_; rintro x' w7 ⟨rfl, hb7⟩))
      have hbl : Below w6.heap.size w6 w7 := by go_split_ands; assumption
      have A7 := A6.keep hbl
      have P7 := P6.keep hbl
      have W7 := W6.keep hbl
      have X7 := X6.keep hbl
      have G7 := G6.keep hbl
      have B7 : Hid (Below w.heap.size w w7) := kb B6.out hbl (Nat.le_refl _)
      have RW7 : Hid _ := HRW.out.keep hbl
      have RG7 : Hid _ := HRG.out.keep hbl
      have RX7 : Hid _ := HRX.out.keep hbl
      have s7 := hbl.size
      clear d0 d1 d2 d3 d4 d5 d6 d7 d8 d9 d10 d11 x0 x1 x2 x3 x4 x5 x6 x7 x8 x9 x10 x11 v0 v1 v2 v3 v4 v5 v6 v7 v8 v9 v10 v11 v12 v13 v14 n0 n1 n2 n3 n4 n5 n6 n7 n8 n9 n10 n11 n12 n13 n14
      clear HRW HRG HRX A6 W6 X6 G6 R6 B6 hbl
      (obtain ⟨d0, d1, d2, d3, d4, d5, d6, d7, d8, d9, d10, d11⟩ := A7.cells); (obtain ⟨v0, v1, v2, v3, v4, v5, v6, v7, v8, v9, v10, v11, v12, v13, v14⟩ := W7.cells15); (obtain ⟨x0, x1, x2, x3, x4, x5, x6, x7, x8, x9, x10, x11⟩ := X7.cells); (obtain ⟨n0, n1, n2, n3, n4, n5, n6, n7, n8, n9, n10, n11, n12, n13, n14⟩ := G7.cells15)
      as_aux_lemma =>
        obtain ⟨K, hK⟩ : ∃ K : Nat, K = 1 + e.xs.length * 4 + e.hs.length * 3 + e.rs.length := ⟨_, rfl⟩
        have HK1 : Hid (K = 1 + e.xs.length * 4 + e.hs.length * 3 + e.rs.length) := hK
        have hK0 : (0 : Int) ≤ (K : Int) := Int.natCast_nonneg K
        clear hK
        go_wp2_with (first
          | (go_at_call 11; refine (markEnd_bet wA.heap.size w4.heap.size e.num e.up e.life e.peer e.since e.owes e.b e.nx e.o _ _ _ _ _ _ _ _ _ w7 (by have := HS.out.n; omega) (by have := HS.out.tk.n; omega) (by have := HS.out.tk.k; omega) (by omega) RX7.out K HK1.out).mono ?_; rintro x' w8 ⟨rfl, -, T8⟩; (have A8 := A7.bet T8 (by omega)); (have P8 := P7.bet T8 (by omega)); (have W8 := W7.bet T8 (by omega)); (have G8 := G7.bet T8 (by omega)); clear d0 d1 d2 d3 d4 d5 d6 d7 d8 d9 d10 d11 x0 x1 x2 x3 x4 x5 x6 x7 x8 x9 x10 x11 v0 v1 v2 v3 v4 v5 v6 v7 v8 v9 v10 v11 v12 v13 v14 n0 n1 n2 n3 n4 n5 n6 n7 n8 n9 n10 n11 n12 n13 n14; (obtain ⟨d0, d1, d2, d3, d4, d5, d6, d7, d8, d9, d10, d11⟩ := A8.cells); (obtain ⟨v0, v1, v2, v3, v4, v5, v6, v7, v8, v9, v10, v11, v12, v13, v14⟩ := W8.cells15); (obtain ⟨n0, n1, n2, n3, n4, n5, n6, n7, n8, n9, n10, n11, n12, n13, n14⟩ := G8.cells15))
          | fail)
        have RW8 : Hid _ := RW7.out.bet T8 (by omega)
        have RG8 : Hid _ := RG7.out.bet T8 (by omega)
        have B8 : Hid (Below w.heap.size w w8) := B7.out.trans (T8.below (by omega) (by omega))
        have s8 := T8.size
        clear T8 A7 W7 X7 G7 B7 RW7 RG7 RX7
        obtain ⟨M, hM⟩ : ∃ M : Nat, M = 1 + E.xs.length * 4 + E.hs.length * 3 + E.rs.length := ⟨_, rfl⟩
        have HM1 : Hid (M = 1 + E.xs.length * 4 + E.hs.length * 3 + E.rs.length) := hM
        have hM0 : (0 : Int) ≤ (M : Int) := Int.natCast_nonneg M
        clear hM
        go_wp2_with (first
          | (go_at_call 9; refine (eqActed_same C T E _ _ _ _ _ _ _ _ _ _ _ _ _ HE.out.1 HE.out.2.1 HE.out.2.2 RG8.out.re RW8.out.re).mono ?_; rintro x' w9 ⟨rfl, hb9⟩; (have A9 := A8.keep hb9); (have P9 := P8.keep hb9); (have W9 := W8.keep hb9); (have G9 := G8.keep hb9); (have RW9 : Hid _ := RW8.out.keep hb9); (have RG9 : Hid _ := RG8.out.keep hb9); (have s9 := hb9.size); clear d0 d1 d2 d3 d4 d5 d6 d7 d8 d9 d10 d11 v0 v1 v2 v3 v4 v5 v6 v7 v8 v9 v10 v11 v12 v13 v14 n0 n1 n2 n3 n4 n5 n6 n7 n8 n9 n10 n11 n12 n13 n14; (obtain ⟨d0, d1, d2, d3, d4, d5, d6, d7, d8, d9, d10, d11⟩ := A9.cells); (obtain ⟨v0, v1, v2, v3, v4, v5, v6, v7, v8, v9, v10, v11, v12, v13, v14⟩ := W9.cells15); (obtain ⟨n0, n1, n2, n3, n4, n5, n6, n7, n8, n9, n10, n11, n12, n13, n14⟩ := G9.cells15))
          | fail)
        go_wp2_with (first
          | (go_at_call 12; refine (markActed_bet lo5 hi5 C E.num E.up E.life E.peer E.since E.owes E.b E.nx E.o T _ _ _ _ _ _ _ _ _ w9 HE2.out.1 HE2.out.2.1 HE2.out.2.2 (by omega) (by omega) RG9.out M HM1.out).mono ?_; rintro x' w10 ⟨rfl, ⟨t1, t2, t3, RGm, M1, M2, M3⟩, T10⟩; (have A10 := A9.bet T10 (by omega)); (have P10 := P9.bet T10 (by omega)); (have W10 := W9.bet T10 (by omega)); (have G10 := G9.bet T10 (by omega)); clear d0 d1 d2 d3 d4 d5 d6 d7 d8 d9 d10 d11 v0 v1 v2 v3 v4 v5 v6 v7 v8 v9 v10 v11 v12 v13 v14 n0 n1 n2 n3 n4 n5 n6 n7 n8 n9 n10 n11 n12 n13 n14; (obtain ⟨d0, d1, d2, d3, d4, d5, d6, d7, d8, d9, d10, d11⟩ := A10.cells); (obtain ⟨v0, v1, v2, v3, v4, v5, v6, v7, v8, v9, v10, v11, v12, v13, v14⟩ := W10.cells15); (obtain ⟨n0, n1, n2, n3, n4, n5, n6, n7, n8, n9, n10, n11, n12, n13, n14⟩ := G10.cells15))
          | fail)
        have RW10 : Hid _ := RW9.out.bet T10 (by omega)
        have RG10 : Hid _ := RGm
        have HM2 : Hid (Mi 1 E.xs.length t1 ∧ Mh (1 + E.xs.length * 4) E.hs.length t2 ∧ Ms (1 + E.xs.length * 4 + E.hs.length * 3) E.rs.length t3) := ⟨M1, M2, M3⟩
        have B9 := kb B8.out hb9 (Nat.le_refl _)
        have B10 : Hid (Below w.heap.size w w10) := B9.trans (T10.below (by omega) (by omega))
        have s10 := T10.size
        clear RGm M1 M2 M3 T10 B8 B9 hb9 A8 A9 W8 W9 G8 G9 RW8 RW9 RG8 RG9
        as_aux_lemma =>
          go_wp2_with (first
            | (go_at_call 13; refine (heldActed_bet lo5 hi5 C E.num E.up E.life E.peer E.since E.owes E.b E.nx E.o T _ _ _ _ _ _ _ _ _ w10 HE2.out.1 HE2.out.2.1 HE2.out.2.2 RG10.out HM2.out.1 HM2.out.2.1 HM2.out.2.2 M HM1.out).mono ?_; rintro x' w11 ⟨rfl, hb11⟩; (have A11 := A10.keep hb11); (have P11 := P10.keep hb11); (have W11 := W10.keep hb11); (have G11 := G10.keep hb11); clear d0 d1 d2 d3 d4 d5 d6 d7 d8 d9 d10 d11 v0 v1 v2 v3 v4 v5 v6 v7 v8 v9 v10 v11 v12 v13 v14 n0 n1 n2 n3 n4 n5 n6 n7 n8 n9 n10 n11 n12 n13 n14; (obtain ⟨d0, d1, d2, d3, d4, d5, d6, d7, d8, d9, d10, d11⟩ := A11.cells); (obtain ⟨v0, v1, v2, v3, v4, v5, v6, v7, v8, v9, v10, v11, v12, v13, v14⟩ := W11.cells15); (obtain ⟨n0, n1, n2, n3, n4, n5, n6, n7, n8, n9, n10, n11, n12, n13, n14⟩ := G11.cells15))
            | fail)
          have B11 := kb B10.out hb11 (Nat.le_refl _)
          have RW11 : Hid _ := RW10.out.keep hb11
          have RG11 : Hid _ := RG10.out.keep hb11
          clear RW10 RG10 B10 hb11 A10 W10 G10
          as_aux_lemma =>
            go_wp2
            exact tailW e ao ho so ci ch cs k f m y nxt msk sq l p w w11 C E T Wb Gb lo3 hi3 lo5 hi5 M wa wb wc ga gb gc xa xb xc ya yb yc t1 t2 t3 HA B11 A11 P11 W11 G11 RW11 RG11 HM2 HM1 HE HE2 S2 HTO HPO _ _ _ _ _ _ _ _ _ _ _ _ _ _ _ _ _ _ _ _ _ _ _ _ _ _ _ _ _ _ _ _ _ _ _ _ _ _ _ _ _ _ _ _ _ _ _ _ _ _ _ _ _ _ _ _ _ _ _ _ _ _ _ _ _ _ _ _ _ _ _ _ _ _ _ _ _ (by assumption)

set_option maxRecDepth 100000 in
theorem lifted (os : Os) (started : os.Started) (H : Type) (enc : TypeId × Value → H) :
    ReturnsInHanded {} Tryz.checked os 4 .any (Rows.fnExactEndTakeSpec.pre6 enc Tryz.prog Tryz.f4 Rows.fnExactEndTakeRow.domain false) (Rows.fnExactEndTakeSpec.post enc Tryz.prog Tryz.f4 false true false false) := by
  refine returnsInHanded_of_change (C := Tryz.checked) own started (by kernel_rfl) Tryz.func4
    (ChangeSpec.witness6 (enc := enc) (C := Tryz.checked) false ⟨#[], #[.agg #[.int .i64 0, .bool false, .int .i64 0, .int .i64 0, .int .i64 0, .bool false, .int .i64 0, .slice none 0 0, .int .i64 0, .slice none 0 0, .string ByteArray.empty, .slice none 0 0], .agg #[.int .i64 0, .int .i64 0, .int .i64 0, .int .i64 0, .int .i64 0, .int .i64 0, .int .i64 0, .bool false, .string ByteArray.empty]], []⟩ 8 (by kernel_rfl) (by kernel_rfl) (by kernel_rfl) (by kernel_rfl)) ?_
  intro W base args ds gs before hval0 hW hcnd _
  have hval : ∀ (j : Nat) t v, Tryz.f4.params[j]? = some t → args[j]? = some v → Value.okWide Tryz.prog W .any base t v := hval0
  have hW' := hW
  obtain ⟨p, q, hA0, hV, rfl, hfz, hnd⟩ := hW
  have hA : DataW.TrodAll enc Tryz.prog W 0 (fun _ => true) true Tryz.f4.params.toList args.toList ds p := hA0
  rw [Tryz.params4] at hA hval
  obtain ⟨v0, vs0, d0, ds0, p0, q0, hargs, rfl, rfl, h0, r0⟩ := trodAll_cons hA
  obtain ⟨v1, vs1, d1, ds1, p1, q1, hargs1, rfl, rfl, h1, r1⟩ := trodAll_cons r0
  obtain ⟨rfl, rfl, rfl⟩ := trodAll_nil r1
  obtain rfl : args = #[v0, v1] := by cases args; simp_all
  obtain ⟨rfl, rfl⟩ := trodVars_none hV
  have k0 := h0
  have k1 := h1
  have lt1 : ∀ x ∈ p1, x.block < W.heap.size := by obtain ⟨m, hm⟩ := k1; exact DataW.trod_lt m _ _ _ hm
  have lt0 : ∀ x ∈ p0, x.block < W.heap.size := by obtain ⟨m, hm⟩ := k0; exact DataW.trod_lt m _ _ _ hm
  obtain ⟨e, ao, ho, so, ci, ch, cs, rfl, hae, hse⟩ := openedE.endv (hval 0 30 v0 rfl rfl) h0
  obtain ⟨b0, b1, b2, b3, b4, b5, b6, b7, b8, rfl, hsz⟩ := opened.packet (hval 1 51 v1 rfl rfl) h1
  clear hA0 hval0
  simp only [List.append_nil] at hW'
  refine (walk e ao ho so ci ch cs b0 b1 b2 b3 b4 b5 b6 b7 b8 W hae hse hsz).mono fun e W' ⟨he, bel⟩ => ?_
  subst he
  exact ⟨_, rfl, _, _, _, [], _, [], hW', trodAll_mk1 (shut_bool Tryz.underlying4 _), (trodAll_cons_mk (Below.trod laidOut (by kernel_rfl) (of_decide_eq_true (by kernel_rfl)) k0 bel lt0) (trodAll_cons_mk (Below.trod laidOut (by kernel_rfl) (of_decide_eq_true (by kernel_rfl)) k1 bel lt1) trodAll_mk0)), rfl, bel.frame _, fun h => by cases h⟩

theorem over : Rows.fnExactEndTakeRow.holds Tryz.pinned (OpenSpec.ofChange Rows.fnExactEndTakeSpec) :=
  OpenClaim.holds_of_wide 4 Tryz.f4 rfl rfl rfl rfl rfl rfl rfl ⟨rfl, rfl, rfl, rfl, rfl⟩ rfl rfl rfl rfl rfl (by kernel_rfl) Tryz.func4 (by kernel_rfl)
    (of_decide_eq_true (by kernel_rfl)) (by unfold Func.isWrapper; first | (rw [if_pos (by decide +kernel)]; kernel_rfl) | (rw [if_neg (by decide +kernel)]; exact ⟨rfl, rfl⟩))
    (fun os started H enc _ => lifted os started H enc)

theorem proved : Rows.FnExactEndTakeSaid :=
  over
#print axioms proved
end Go.Proofs.YthjncmgjkejikaaGreat.fnExactEndTake

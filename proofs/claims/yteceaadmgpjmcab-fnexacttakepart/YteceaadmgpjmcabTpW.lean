/-
  THE LAW laws.FnExactTakePart: the walk over the contracts, and the row.
-/
import Derived.Test.YteceaadmgpjmcabRows
import Derived.WalkKit
import Derived.ProofKit
import Derived.OpenShut
import Derived.ShutString
import Derived.ChangeOld
import Derived.Below
import Derived.Test.YteceaadmgpjmcabPtA
import Derived.Test.YteceaadmgpjmcabRgK
import Derived.Test.YteceaadmgpjmcabLawT
import Derived.Test.YteceaadmgpjmcabOpens
import Derived.Carry
import Derived.Deep.CutRange
namespace Go.Proofs.Yteceaadmgpjmcab.fnExactTakePart
open Go.ChangeShapes Go.WideShapes Go.ChangeAt Go.RowKit
open Go.ChangeMaps (open_string shut_string)
open mk
set_option linter.unusedVariables false

theorem own : ownKnob Try.prog.godebug = none := by kernel_rfl

theorem laidOut : laidOutB Try.prog = true := by kernel_rfl
theorem tin_len (xs : List Hd) : ∀ (nx : Nat) (o : ByteArray) (rs : List ByteArray), (tin xs nx o rs).2.1.length ≤ xs.length ∧ (tin xs nx o rs).2.2.2.length ≤ rs.length + xs.length := by
  induction xs with
  | nil => intro nx o rs; simp [tin]
  | cons x xs ih =>
    intro nx o rs
    unfold tin
    split
    · split
      · have := ih (nx + 1) ⟨#[]⟩ (rs ++ [o ++ x.text])
        simp at this ⊢
        omega
      · have := ih (nx + 1) (o ++ x.text) rs
        simp at this ⊢
        omega
    · simp
theorem part_len {nx : Int} {xs : List Hd} {o : ByteArray} {rs : List ByteArray} {q : Int} {s : ByteArray} {l : Bool} {m : Nat} {zs : List Hd} {p : ByteArray} {ts : List ByteArray} (hT : partOf nx xs o rs q s l = (m, zs, p, ts)) : zs.length ≤ 9 ∧ ts.length ≤ 13 := by
  cases hv : tkOk nx xs o rs
  · rw [partOf_no hv] at hT
    cases hT
    simp
  · obtain ⟨n, rfl⟩ : ∃ n : Nat, nx = (n : Int) := ⟨nx.toNat, by have := (tkOk_of hv).1; unfold TkHd at this; omega⟩
    have h1 := (tkOk_of hv).len
    have h2 := (tkOk_of hv).1
    unfold TkHd at h2
    have h3 : (heldBy n xs q s l).length ≤ xs.length + 1 := by unfold heldBy; split; (rw [ins_length]; omega); omega
    rw [partOf_yes hv] at hT
    have h4 := tin_len (heldBy n xs q s l) n o rs
    rw [hT] at h4
    simp at h4
    omega
/-- an answer with this data -/
def Ans (w : World) (m : Nat) (zs : List Hd) (p : ByteArray) (ts : List ByteArray) (e : Ending) (w' : World) : Prop :=
  (∃ aw cw bw ew, e = .returned (.agg #[.int .i64 ((m : Nat) : Int), .slice aw zs.length cw, .string p, .slice bw ts.length ew]) ∧ w'.ownsRow w.heap.size 46 3 (.slice aw zs.length cw) zs.length (hs zs) ∧ w'.ownsRow w.heap.size 9 1 (.slice bw ts.length ew) ts.length (ss ts)) ∧ Below w.heap.size w w'
theorem Ans.of {w : World} {T : Nat × List Hd × ByteArray × List ByteArray} {m : Nat} {zs : List Hd} {p : ByteArray} {ts : List ByteArray} (hT : T = (m, zs, p, ts)) {e : Ending} {w' : World} (h : TakePost w T e w') : Ans w m zs p ts e w' := by
  subst hT
  obtain ⟨⟨hv, v, he, h1, h2⟩, hb⟩ := h
  obtain ⟨aw, cw, rfl, -, -, -⟩ := rs_of_owns h1
  obtain ⟨bw, ew, rfl, -, -, -⟩ := rs_of_owns h2
  exact ⟨⟨aw, cw, bw, ew, he, h1, h2⟩, hb⟩
set_option maxRecDepth 100000 in
set_option maxHeartbeats 8000000 in
theorem walk (nx : Int) (ao so : Option Addr) (ca cs : Nat) (xs : List Hd) (o : ByteArray) (rs : List ByteArray) (q : Int) (s : ByteArray) (l : Bool) (w : World) (ha : At w ao so xs rs) (hm : Sm maxLen xs o rs) (hsz0 : s.size ≤ maxLen) :
    Calls Try.prog 3 #[.agg #[.int .i64 nx, .slice ao xs.length ca, .string o, .slice so rs.length cs], .int .i64 q, .agg #[.string s, .bool l]] w fun e w' => e = .returned (.bool true) ∧ Below w.heap.size w w' := by
  have b0 : Hid (Below w.heap.size w ((w.alloc (.cells #[.int .i64 nx, .slice ao xs.length ca, .string o, .slice so rs.length cs] 25)).alloc (.cells #[.string s, .bool l] 27))) := ((Below.refl _ _).alloc (Nat.le_refl _) _).alloc (by simp) _
  have A0 : Hid (Bx ((w.alloc (.cells #[.int .i64 nx, .slice ao xs.length ca, .string o, .slice so rs.length cs] 25)).alloc (.cells #[.string s, .bool l] 27)) w.heap.size 25 #[.int .i64 nx, .slice ao xs.length ca, .string o, .slice so rs.length cs]) := (Bx.new w _ _).alloc _
  have P0 : Hid (Bx ((w.alloc (.cells #[.int .i64 nx, .slice ao xs.length ca, .string o, .slice so rs.length cs] 25)).alloc (.cells #[.string s, .bool l] 27)) (w.heap.size + 1) 27 #[.string s, .bool l]) := (by have := Bx.new (w.alloc (.cells #[.int .i64 nx, .slice ao xs.length ca, .string o, .slice so rs.length cs] 25)) 27 #[.string s, .bool l]; rw [World.size_alloc] at this; exact this : Bx ((w.alloc (.cells #[.int .i64 nx, .slice ao xs.length ca, .string o, .slice so rs.length cs] 25)).alloc (.cells #[.string s, .bool l] 27)) (w.heap.size + 1) 27 #[.string s, .bool l])
  have HA : Hid (At w ao so xs rs) := ha
  have HM : Hid (Sm maxLen xs o rs) := hm
  have HSP : Hid (∀ (z : Int) (u : World), 0 ≤ z ∧ z ≤ 1048576 → Calls Try.prog 5 #[.agg #[.string s, .bool l], .int .i64 z] u fun e w' => (∃ z' : Int, e = .returned (.int .i64 z') ∧ -1 ≤ z' ∧ (0 ≤ z' → s.size ≤ 1048576)) ∧ Below u.heap.size u w') := fun z u hz => (szPart_any s l z u hsz0 hz).mono fun e w' ⟨he, hb⟩ => ⟨⟨_, he, by split <;> omega, fun h => by split at h <;> omega⟩, hb⟩
  clear ha hm
  go_enter Try.func3, Try.ntmps3
  go_wp2_with (first
    | (go_at_call 4; refine (szTake_any nx ao so ca cs xs o rs _ _ (by omega) HM.out (HA.out.keep b0.out)).mono ?_; rintro e w1 ⟨⟨z, rfl, hz1, hz2, hz3⟩, hb1⟩; (have HZ : Hid (0 ≤ z → Sm 1048576 xs o rs) := hz3); clear hz3; (have A1 := A0.out.keep hb1); (have P1 := P0.out.keep hb1); (obtain ⟨a0, a1, a2, a3⟩ := A1.cells4); (obtain ⟨p0, p1⟩ := P1.cells2))
    | (go_at_call 5; refine (HSP.out _ _ (by constructor <;> omega)).mono ?_; rintro e w2 ⟨⟨z', rfl, hz4, hz5⟩, hb2⟩; clear a0 a1 a2 a3 p0 p1; (have A2 := A1.keep hb2); (have P2 := P1.keep hb2); (obtain ⟨a0, a1, a2, a3⟩ := A2.cells4); (obtain ⟨p0, p1⟩ := P2.cells2))
    | fail)
  · go_ret
    exact ⟨rfl, kb b0.out hb1 (Nat.le_refl _)⟩
  · go_ret
    exact ⟨rfl, kb (kb b0.out hb1 (Nat.le_refl _)) hb2 (Nat.le_refl _)⟩
  have HS : Hid (Sm 1048576 xs o rs) := HZ.out (by omega)
  have hsz : s.size ≤ 1048576 := hz5 (by omega)
  have B2 : Hid (Below w.heap.size w w2) := kb (kb b0.out hb1 (Nat.le_refl _)) hb2 (Nat.le_refl _)
  obtain ⟨m, zs, p, ts, hT⟩ : ∃ m zs p ts, partOf nx xs o rs q s l = (m, zs, p, ts) := ⟨_, _, _, _, rfl⟩
  obtain ⟨hlz, hlt⟩ := part_len hT
  have S1 : Hid (∀ (u : World) (g k : Nat), Rt u (some ⟨g, 0, none⟩) (some ⟨k, 0, none⟩) xs rs → Calls Try.prog 6 #[.agg #[.int .i64 nx, .slice (some ⟨g, 0, none⟩) xs.length xs.length, .string o, .slice (some ⟨k, 0, none⟩) rs.length rs.length], .int .i64 q, .agg #[.string s, .bool l]] u fun e w' => Ans u m zs p ts e w') := fun u g k h => ((specPart_any nx (some ⟨g, 0, none⟩) (some ⟨k, 0, none⟩) xs.length rs.length xs o rs q s l u HS.out.n HS.out.t HS.out.o HS.out.k HS.out.r hsz h (fun e => by cases e) (fun e => by cases e)).mono fun e w' hp => Ans.of hT hp)
  have S2 : Hid (∀ (u : World) (g k : Nat), Rt u (some ⟨g, 0, none⟩) (some ⟨k, 0, none⟩) xs rs → Calls Try.prog 9 #[.agg #[.int .i64 nx, .slice (some ⟨g, 0, none⟩) xs.length xs.length, .string o, .slice (some ⟨k, 0, none⟩) rs.length rs.length], .int .i64 q, .agg #[.string s, .bool l]] u fun e w' => Ans u m zs p ts e w') := fun u g k h => ((implPart_any nx (some ⟨g, 0, none⟩) (some ⟨k, 0, none⟩) xs.length rs.length xs o rs q s l u HS.out.n HS.out.t HS.out.o HS.out.k HS.out.r hsz h).mono fun e w' hp => Ans.of hT hp)
  have HTO : Hid (∀ u : World, At u ao so xs rs → Calls Try.prog 7 #[.agg #[.int .i64 nx, .slice ao xs.length ca, .string o, .slice so rs.length cs]] u fun e w' => (∃ g k, e = .returned (.agg #[.int .i64 nx, .slice (some ⟨g, 0, none⟩) xs.length xs.length, .string o, .slice (some ⟨k, 0, none⟩) rs.length rs.length]) ∧ w'.ownsRow u.heap.size 46 3 (.slice (some ⟨g, 0, none⟩) xs.length xs.length) xs.length (hs xs) ∧ w'.ownsRow u.heap.size 9 1 (.slice (some ⟨k, 0, none⟩) rs.length rs.length) rs.length (ss rs) ∧ g ≠ k) ∧ Below u.heap.size u w') := fun u h => toTake_any nx ao so ca cs xs o rs u HS.out.n HS.out.k h
  have HPO : Hid (∀ u : World, Calls Try.prog 8 #[.agg #[.string s, .bool l]] u fun e w' => e = .returned (.agg #[.string s, .bool l]) ∧ Below u.heap.size u w') := fun u => toPart_any s l u
  clear HZ b0 A0 P0 hb1 hb2 HM HSP A1 P1 hz5 hz1 hz2 hz4
  have HA2 : Hid (Bx w2 w.heap.size 25 #[.int .i64 nx, .slice ao xs.length ca, .string o, .slice so rs.length cs]) := A2
  have HP2 : Hid (Bx w2 (w.heap.size + 1) 27 #[.string s, .bool l]) := P2
  clear A2 P2
  go_wp2
  go_cut [8] from 25 to 30 (fun v wx => ∃ (B : Nat) (aw : Option Addr) (cw : Nat) (bw : Option Addr) (ew : Nat), v = .pointer (some ⟨B, 0, none⟩) ∧ Bx wx B 32 #[.int .i64 ((m : Nat) : Int), .slice aw zs.length cw, .string p, .slice bw ts.length ew] ∧ wx.ownsRow w2.heap.size 46 3 (.slice aw zs.length cw) zs.length (hs zs) ∧ wx.ownsRow w2.heap.size 9 1 (.slice bw ts.length ew) ts.length (ss ts) ∧ Below w2.heap.size w2 wx ∧ w2.heap.size ≤ B ∧ B < wx.heap.size)
  case first =>
    refine wp_region_held_drew (S := (fun w' => Below w2.heap.size w2 w')) (by kernel_rfl) ?_ (fun hHeld => ?_)
    · exact (Below.refl _ _).drew
    refine tkE 0 (some 25) ?_ ?_ ?_
    rotate_left
    · (intro w hSw; (have ha0 := cell_keep a0 hSw); (have ha1 := cell_keep a1 hSw); (have ha2 := cell_keep a2 hSw); (have ha3 := cell_keep a3 hSw); go_simp <;> with_reducible rfl)
    refine tkF 2 (some 27) ?_
    refine tkE 3 (some 28) ?_ ?_ ?_
    rotate_left
    · (intro w hSw; (have hp0 := cell_keep p0 hSw); (have hp1 := cell_keep p1 hSw); go_simp <;> with_reducible rfl)
    refine wpAnyH_ready (rs := [1, 6]) (by kernel_rfl) (by simp) ?_
    refine AllReadyH.cons rfl (fun K hK => ?_) (AllReadyH.cons rfl (fun K hK => ?_) AllReadyH.nil)
    · have hH0 := hHeld
      go_simp
      refine (HTO.out _ (HA.out.keep (kb B2.out hH0 (Nat.le_refl _)))).mono ?_
      rintro e w3 ⟨⟨g3, k3, rfl, ho3, hp3, -⟩, hb3⟩
      go_wp2_with fail
      refine hK.out _ _ ?_ (fun hHeld => ?_)
      · exact kb hH0 hb3 (Nat.le_refl _)
      clear hK K
      try simp only [Act.put, List.setIfInBounds_toArray, List.set_cons_zero, List.set_cons_succ]
      refine wpAnyH_ready (rs := [4, 6]) (by kernel_rfl) (by simp) ?_
      refine AllReadyH.cons rfl (fun K hK => ?_) (AllReadyH.cons rfl (fun K hK => ?_) AllReadyH.nil)
      · have hH0 := hHeld
        go_simp
        refine (HPO.out _).mono ?_
        rintro e w3b ⟨rfl, hb3b⟩
        replace ho3 := owns_keep ho3 hb3b
        replace hp3 := owns_keep hp3 hb3b
        go_wp2_with fail
        refine hK.out _ _ ?_ (fun hHeld => ?_)
        · exact kb hH0 hb3b (Nat.le_refl _)
        clear hK K
        try simp only [Act.put, List.setIfInBounds_toArray, List.set_cons_zero, List.set_cons_succ]
        refine wpAnyH_ready (rs := [5, 6]) (by kernel_rfl) (by simp) ?_
        refine AllReadyH.cons rfl (fun K hK => ?_) (AllReadyH.cons rfl (fun K hK => ?_) AllReadyH.nil)
        · have hH0 := hHeld
          go_simp
          refine (S1.out _ _ _ ⟨owns_rs ho3, owns_rs hp3⟩).mono ?_
          rintro e w3c ⟨⟨aw, cw, bw, ew, rfl, ro', rp'⟩, hb3c⟩
          replace ho3 := owns_keep ho3 hb3c
          replace hp3 := owns_keep hp3 hb3c
          have ro := owns_mono3 ro' hH0.size
          have rp := owns_mono3 rp' hH0.size
          clear ro' rp'
          go_wp2_with fail
          refine hK.out _ _ ?_ (fun hHeld => ?_)
          · exact kb hH0 hb3c (Nat.le_refl _)
          clear hK K
          try simp only [Act.put, List.setIfInBounds_toArray, List.set_cons_zero, List.set_cons_succ]
          refine wpAnyH_ready (rs := [6]) (by kernel_rfl) (by simp) ?_
          refine AllReadyH.cons rfl (fun K hK => ?_) AllReadyH.nil
          have hH0 := hHeld
          go_simp
          have ZB : Bx (w3c.alloc (.cells #[.int .i64 0, .slice none 0 0, .string ⟨#[]⟩, .slice none 0 0] 32)) w3c.heap.size 32 #[.int .i64 0, .slice none 0 0, .string ⟨#[]⟩, .slice none 0 0] := Bx.new _ _ _
          have ro0 := ro
          have rp0 := rp
          replace ho3 := ho3.alloc (.cells #[.int .i64 0, .slice none 0 0, .string ⟨#[]⟩, .slice none 0 0] 32)
          replace hp3 := hp3.alloc (.cells #[.int .i64 0, .slice none 0 0, .string ⟨#[]⟩, .slice none 0 0] 32)
          replace ro := ro.alloc (.cells #[.int .i64 0, .slice none 0 0, .string ⟨#[]⟩, .slice none 0 0] 32)
          replace rp := rp.alloc (.cells #[.int .i64 0, .slice none 0 0, .string ⟨#[]⟩, .slice none 0 0] 32)
          have hHA := hH0
          refine hK.out _ _ ?_ (fun hHeld => ?_)
          · exact hH0.alloc hH0.size _
          clear hK K
          try simp only [Act.put, List.setIfInBounds_toArray, List.set_cons_zero, List.set_cons_succ]
          have hH0 := hHeld
          refine wpAnyH_ready (rs := [7]) (by kernel_rfl) (by simp) ?_
          refine AllReadyH.cons rfl (fun K hK => ?_) AllReadyH.nil
          go_simp
          have BF : Below w2.heap.size w2 (w3c.alloc (.cells #[.int .i64 ((m : Nat) : Int), .slice aw zs.length cw, .string p, .slice bw ts.length ew] 32)) := hHA.alloc hHA.size _
          have ZF : Bx (w3c.alloc (.cells #[.int .i64 ((m : Nat) : Int), .slice aw zs.length cw, .string p, .slice bw ts.length ew] 32)) w3c.heap.size 32 #[.int .i64 ((m : Nat) : Int), .slice aw zs.length cw, .string p, .slice bw ts.length ew] := Bx.new _ _ _
          have o1 := ro0.alloc (.cells #[.int .i64 ((m : Nat) : Int), .slice aw zs.length cw, .string p, .slice bw ts.length ew] 32)
          have o2 := rp0.alloc (.cells #[.int .i64 ((m : Nat) : Int), .slice aw zs.length cw, .string p, .slice bw ts.length ew] 32)
          have lB : w2.heap.size ≤ w3c.heap.size := hHA.size
          refine hK.out _ _ ?_ (fun hHeld => ?_)
          · exact BF
          clear hK K
          try simp only [Act.put]
          refine wpAnyH_done (by kernel_rfl) ?_ _
          go_wp2_with fail
          go_meet
          exact ⟨w3c.heap.size, aw, cw, bw, ew, rfl, ZF, o1, o2, BF, lB, ZF.lt⟩
        · have hH0 := hHeld
          go_simp
          have ZB : Bx (w3b.alloc (.cells #[.int .i64 0, .slice none 0 0, .string ⟨#[]⟩, .slice none 0 0] 32)) w3b.heap.size 32 #[.int .i64 0, .slice none 0 0, .string ⟨#[]⟩, .slice none 0 0] := Bx.new _ _ _
          replace ho3 := ho3.alloc (.cells #[.int .i64 0, .slice none 0 0, .string ⟨#[]⟩, .slice none 0 0] 32)
          replace hp3 := hp3.alloc (.cells #[.int .i64 0, .slice none 0 0, .string ⟨#[]⟩, .slice none 0 0] 32)
          have hHA := hH0
          refine hK.out _ _ ?_ (fun hHeld => ?_)
          · exact hH0.alloc hH0.size _
          clear hK K
          try simp only [Act.put, List.setIfInBounds_toArray, List.set_cons_zero, List.set_cons_succ]
          refine wpAnyH_ready (rs := [5]) (by kernel_rfl) (by simp) ?_
          refine AllReadyH.cons rfl (fun K hK => ?_) AllReadyH.nil
          have hH0 := hHeld
          go_simp
          refine (S1.out _ _ _ ⟨owns_rs ho3, owns_rs hp3⟩).mono ?_
          rintro e w3c ⟨⟨aw, cw, bw, ew, rfl, ro', rp'⟩, hb3c⟩
          replace ZB := ZB.keep hb3c
          replace ho3 := owns_keep ho3 hb3c
          replace hp3 := owns_keep hp3 hb3c
          have ro := owns_mono3 ro' hH0.size
          have rp := owns_mono3 rp' hH0.size
          clear ro' rp'
          go_wp2_with fail
          refine hK.out _ _ ?_ (fun hHeld => ?_)
          · exact kb hH0 hb3c (Nat.le_refl _)
          clear hK K
          try simp only [Act.put, List.setIfInBounds_toArray, List.set_cons_zero, List.set_cons_succ]
          have z0 := ZB.cell 0
          have z1 := ZB.cell 1
          have z2 := ZB.cell 2
          have z3 := ZB.cell 3
          simp at z0 z1 z2 z3
          have f0 := ZB.frozen 0
          have f1 := ZB.frozen 1
          have f2 := ZB.frozen 2
          have f3 := ZB.frozen 3
          have hH0 := hHeld
          refine wpAnyH_ready (rs := [7]) (by kernel_rfl) (by simp) ?_
          refine AllReadyH.cons rfl (fun K hK => ?_) AllReadyH.nil
          go_simp
          have lB : w2.heap.size ≤ w3b.heap.size := by exact hHA.size
          have BF := ((((hH0.setCell (p := ⟨w3b.heap.size, 0, none⟩) lB (.int .i64 ((m : Nat) : Int))).setCell (p := ⟨w3b.heap.size, 1, none⟩) lB (.slice aw zs.length cw)).setCell (p := ⟨w3b.heap.size, 2, none⟩) lB (.string p)).setCell (p := ⟨w3b.heap.size, 3, none⟩) lB (.slice bw ts.length ew))
          have n1 := ZB.ne (by decide) ro
          have n2 := ZB.ne (by decide) rp
          have ZF := ((((ZB.put 0 (.int .i64 ((m : Nat) : Int))).put 1 (.slice aw zs.length cw)).put 2 (.string p)).put 3 (.slice bw ts.length ew))
          have o1 := (ownsRow_setCell_other (ownsRow_setCell_other (ownsRow_setCell_other (ownsRow_setCell_other ro (a := ⟨w3b.heap.size, 0, none⟩) (Ne.symm n1) (.int .i64 ((m : Nat) : Int))) (a := ⟨w3b.heap.size, 1, none⟩) (Ne.symm n1) (.slice aw zs.length cw)) (a := ⟨w3b.heap.size, 2, none⟩) (Ne.symm n1) (.string p)) (a := ⟨w3b.heap.size, 3, none⟩) (Ne.symm n1) (.slice bw ts.length ew))
          have o2 := (ownsRow_setCell_other (ownsRow_setCell_other (ownsRow_setCell_other (ownsRow_setCell_other rp (a := ⟨w3b.heap.size, 0, none⟩) (Ne.symm n2) (.int .i64 ((m : Nat) : Int))) (a := ⟨w3b.heap.size, 1, none⟩) (Ne.symm n2) (.slice aw zs.length cw)) (a := ⟨w3b.heap.size, 2, none⟩) (Ne.symm n2) (.string p)) (a := ⟨w3b.heap.size, 3, none⟩) (Ne.symm n2) (.slice bw ts.length ew))
          refine hK.out _ _ ?_ (fun hHeld => ?_)
          · exact BF
          clear hK K
          try simp only [Act.put]
          refine wpAnyH_done (by kernel_rfl) ?_ _
          go_wp2_with fail
          go_meet
          exact ⟨w3b.heap.size, aw, cw, bw, ew, rfl, ZF, o1, o2, BF, lB, ZF.lt⟩
      · have hH0 := hHeld
        go_simp
        have ZB : Bx (w3.alloc (.cells #[.int .i64 0, .slice none 0 0, .string ⟨#[]⟩, .slice none 0 0] 32)) w3.heap.size 32 #[.int .i64 0, .slice none 0 0, .string ⟨#[]⟩, .slice none 0 0] := Bx.new _ _ _
        replace ho3 := ho3.alloc (.cells #[.int .i64 0, .slice none 0 0, .string ⟨#[]⟩, .slice none 0 0] 32)
        replace hp3 := hp3.alloc (.cells #[.int .i64 0, .slice none 0 0, .string ⟨#[]⟩, .slice none 0 0] 32)
        have hHA := hH0
        refine hK.out _ _ ?_ (fun hHeld => ?_)
        · exact hH0.alloc hH0.size _
        clear hK K
        try simp only [Act.put, List.setIfInBounds_toArray, List.set_cons_zero, List.set_cons_succ]
        refine wpAnyH_ready (rs := [4]) (by kernel_rfl) (by simp) ?_
        refine AllReadyH.cons rfl (fun K hK => ?_) AllReadyH.nil
        have hH0 := hHeld
        go_simp
        refine (HPO.out _).mono ?_
        rintro e w3b ⟨rfl, hb3b⟩
        replace ZB := ZB.keep hb3b
        replace ho3 := owns_keep ho3 hb3b
        replace hp3 := owns_keep hp3 hb3b
        go_wp2_with fail
        refine hK.out _ _ ?_ (fun hHeld => ?_)
        · exact kb hH0 hb3b (Nat.le_refl _)
        clear hK K
        try simp only [Act.put, List.setIfInBounds_toArray, List.set_cons_zero, List.set_cons_succ]
        refine wpAnyH_ready (rs := [5]) (by kernel_rfl) (by simp) ?_
        refine AllReadyH.cons rfl (fun K hK => ?_) AllReadyH.nil
        have hH0 := hHeld
        go_simp
        refine (S1.out _ _ _ ⟨owns_rs ho3, owns_rs hp3⟩).mono ?_
        rintro e w3c ⟨⟨aw, cw, bw, ew, rfl, ro', rp'⟩, hb3c⟩
        replace ZB := ZB.keep hb3c
        replace ho3 := owns_keep ho3 hb3c
        replace hp3 := owns_keep hp3 hb3c
        have ro := owns_mono3 ro' hH0.size
        have rp := owns_mono3 rp' hH0.size
        clear ro' rp'
        go_wp2_with fail
        refine hK.out _ _ ?_ (fun hHeld => ?_)
        · exact kb hH0 hb3c (Nat.le_refl _)
        clear hK K
        try simp only [Act.put, List.setIfInBounds_toArray, List.set_cons_zero, List.set_cons_succ]
        have z0 := ZB.cell 0
        have z1 := ZB.cell 1
        have z2 := ZB.cell 2
        have z3 := ZB.cell 3
        simp at z0 z1 z2 z3
        have f0 := ZB.frozen 0
        have f1 := ZB.frozen 1
        have f2 := ZB.frozen 2
        have f3 := ZB.frozen 3
        have hH0 := hHeld
        refine wpAnyH_ready (rs := [7]) (by kernel_rfl) (by simp) ?_
        refine AllReadyH.cons rfl (fun K hK => ?_) AllReadyH.nil
        go_simp
        have lB : w2.heap.size ≤ w3.heap.size := by exact hHA.size
        have BF := ((((hH0.setCell (p := ⟨w3.heap.size, 0, none⟩) lB (.int .i64 ((m : Nat) : Int))).setCell (p := ⟨w3.heap.size, 1, none⟩) lB (.slice aw zs.length cw)).setCell (p := ⟨w3.heap.size, 2, none⟩) lB (.string p)).setCell (p := ⟨w3.heap.size, 3, none⟩) lB (.slice bw ts.length ew))
        have n1 := ZB.ne (by decide) ro
        have n2 := ZB.ne (by decide) rp
        have ZF := ((((ZB.put 0 (.int .i64 ((m : Nat) : Int))).put 1 (.slice aw zs.length cw)).put 2 (.string p)).put 3 (.slice bw ts.length ew))
        have o1 := (ownsRow_setCell_other (ownsRow_setCell_other (ownsRow_setCell_other (ownsRow_setCell_other ro (a := ⟨w3.heap.size, 0, none⟩) (Ne.symm n1) (.int .i64 ((m : Nat) : Int))) (a := ⟨w3.heap.size, 1, none⟩) (Ne.symm n1) (.slice aw zs.length cw)) (a := ⟨w3.heap.size, 2, none⟩) (Ne.symm n1) (.string p)) (a := ⟨w3.heap.size, 3, none⟩) (Ne.symm n1) (.slice bw ts.length ew))
        have o2 := (ownsRow_setCell_other (ownsRow_setCell_other (ownsRow_setCell_other (ownsRow_setCell_other rp (a := ⟨w3.heap.size, 0, none⟩) (Ne.symm n2) (.int .i64 ((m : Nat) : Int))) (a := ⟨w3.heap.size, 1, none⟩) (Ne.symm n2) (.slice aw zs.length cw)) (a := ⟨w3.heap.size, 2, none⟩) (Ne.symm n2) (.string p)) (a := ⟨w3.heap.size, 3, none⟩) (Ne.symm n2) (.slice bw ts.length ew))
        refine hK.out _ _ ?_ (fun hHeld => ?_)
        · exact BF
        clear hK K
        try simp only [Act.put]
        refine wpAnyH_done (by kernel_rfl) ?_ _
        go_wp2_with fail
        go_meet
        exact ⟨w3.heap.size, aw, cw, bw, ew, rfl, ZF, o1, o2, BF, lB, ZF.lt⟩
    · have hH0 := hHeld
      go_simp
      have ZB : Bx (w2.drew.alloc (.cells #[.int .i64 0, .slice none 0 0, .string ⟨#[]⟩, .slice none 0 0] 32)) w2.heap.size 32 #[.int .i64 0, .slice none 0 0, .string ⟨#[]⟩, .slice none 0 0] := Bx.new _ _ _
      have hHA := hH0
      refine hK.out _ _ ?_ (fun hHeld => ?_)
      · exact hH0.alloc hH0.size _
      clear hK K
      try simp only [Act.put, List.setIfInBounds_toArray, List.set_cons_zero, List.set_cons_succ]
      refine wpAnyH_ready (rs := [1]) (by kernel_rfl) (by simp) ?_
      refine AllReadyH.cons rfl (fun K hK => ?_) AllReadyH.nil
      have hH0 := hHeld
      go_simp
      refine (HTO.out _ (HA.out.keep (kb B2.out hH0 (Nat.le_refl _)))).mono ?_
      rintro e w3 ⟨⟨g3, k3, rfl, ho3, hp3, -⟩, hb3⟩
      replace ZB := ZB.keep hb3
      go_wp2_with fail
      refine hK.out _ _ ?_ (fun hHeld => ?_)
      · exact kb hH0 hb3 (Nat.le_refl _)
      clear hK K
      try simp only [Act.put, List.setIfInBounds_toArray, List.set_cons_zero, List.set_cons_succ]
      refine wpAnyH_ready (rs := [4]) (by kernel_rfl) (by simp) ?_
      refine AllReadyH.cons rfl (fun K hK => ?_) AllReadyH.nil
      have hH0 := hHeld
      go_simp
      refine (HPO.out _).mono ?_
      rintro e w3b ⟨rfl, hb3b⟩
      replace ZB := ZB.keep hb3b
      replace ho3 := owns_keep ho3 hb3b
      replace hp3 := owns_keep hp3 hb3b
      go_wp2_with fail
      refine hK.out _ _ ?_ (fun hHeld => ?_)
      · exact kb hH0 hb3b (Nat.le_refl _)
      clear hK K
      try simp only [Act.put, List.setIfInBounds_toArray, List.set_cons_zero, List.set_cons_succ]
      refine wpAnyH_ready (rs := [5]) (by kernel_rfl) (by simp) ?_
      refine AllReadyH.cons rfl (fun K hK => ?_) AllReadyH.nil
      have hH0 := hHeld
      go_simp
      refine (S1.out _ _ _ ⟨owns_rs ho3, owns_rs hp3⟩).mono ?_
      rintro e w3c ⟨⟨aw, cw, bw, ew, rfl, ro', rp'⟩, hb3c⟩
      replace ZB := ZB.keep hb3c
      replace ho3 := owns_keep ho3 hb3c
      replace hp3 := owns_keep hp3 hb3c
      have ro := owns_mono3 ro' hH0.size
      have rp := owns_mono3 rp' hH0.size
      clear ro' rp'
      go_wp2_with fail
      refine hK.out _ _ ?_ (fun hHeld => ?_)
      · exact kb hH0 hb3c (Nat.le_refl _)
      clear hK K
      try simp only [Act.put, List.setIfInBounds_toArray, List.set_cons_zero, List.set_cons_succ]
      have z0 := ZB.cell 0
      have z1 := ZB.cell 1
      have z2 := ZB.cell 2
      have z3 := ZB.cell 3
      simp at z0 z1 z2 z3
      have f0 := ZB.frozen 0
      have f1 := ZB.frozen 1
      have f2 := ZB.frozen 2
      have f3 := ZB.frozen 3
      have hH0 := hHeld
      refine wpAnyH_ready (rs := [7]) (by kernel_rfl) (by simp) ?_
      refine AllReadyH.cons rfl (fun K hK => ?_) AllReadyH.nil
      go_simp
      have lB : w2.heap.size ≤ w2.heap.size := by exact Nat.le_refl _
      have BF := ((((hH0.setCell (p := ⟨w2.heap.size, 0, none⟩) lB (.int .i64 ((m : Nat) : Int))).setCell (p := ⟨w2.heap.size, 1, none⟩) lB (.slice aw zs.length cw)).setCell (p := ⟨w2.heap.size, 2, none⟩) lB (.string p)).setCell (p := ⟨w2.heap.size, 3, none⟩) lB (.slice bw ts.length ew))
      have n1 := ZB.ne (by decide) ro
      have n2 := ZB.ne (by decide) rp
      have ZF := ((((ZB.put 0 (.int .i64 ((m : Nat) : Int))).put 1 (.slice aw zs.length cw)).put 2 (.string p)).put 3 (.slice bw ts.length ew))
      have o1 := (ownsRow_setCell_other (ownsRow_setCell_other (ownsRow_setCell_other (ownsRow_setCell_other ro (a := ⟨w2.heap.size, 0, none⟩) (Ne.symm n1) (.int .i64 ((m : Nat) : Int))) (a := ⟨w2.heap.size, 1, none⟩) (Ne.symm n1) (.slice aw zs.length cw)) (a := ⟨w2.heap.size, 2, none⟩) (Ne.symm n1) (.string p)) (a := ⟨w2.heap.size, 3, none⟩) (Ne.symm n1) (.slice bw ts.length ew))
      have o2 := (ownsRow_setCell_other (ownsRow_setCell_other (ownsRow_setCell_other (ownsRow_setCell_other rp (a := ⟨w2.heap.size, 0, none⟩) (Ne.symm n2) (.int .i64 ((m : Nat) : Int))) (a := ⟨w2.heap.size, 1, none⟩) (Ne.symm n2) (.slice aw zs.length cw)) (a := ⟨w2.heap.size, 2, none⟩) (Ne.symm n2) (.string p)) (a := ⟨w2.heap.size, 3, none⟩) (Ne.symm n2) (.slice bw ts.length ew))
      refine hK.out _ _ ?_ (fun hHeld => ?_)
      · exact BF
      clear hK K
      try simp only [Act.put]
      refine wpAnyH_done (by kernel_rfl) ?_ _
      go_wp2_with fail
      go_meet
      exact ⟨w2.heap.size, aw, cw, bw, ew, rfl, ZF, o1, o2, BF, lB, ZF.lt⟩
  case rest =>
    rename World => wA
    obtain ⟨Wb, aw, cw, bw, ew, rfl, ZW, oW, rW, BW, lW, ltW⟩ := hcut
    have A3 := HA2.out.keep BW
    have P3 := HP2.out.keep BW
    clear a0 a1 a2 a3 p0 p1
    obtain ⟨a0, a1, a2, a3⟩ := A3.cells4
    obtain ⟨p0, p1⟩ := P3.cells2
    have B3 := kb B2.out BW (Nat.le_refl _)
    have la3 := A3.lt
    have lp3 := P3.lt
    have lhw := fun r e => (oW.lt r e).2
    have lrw := fun r e => (rW.lt r e).2
    go_wp2_with (first
      | (go_at_call 7; refine (HTO.out _ (HA.out.keep B3)).mono ?_; rintro e w6 ⟨⟨g6, k6, rfl, ho6, hp6, -⟩, hb6⟩)
      | fail)
    obtain ⟨U6, hU6⟩ : ∃ U, U = w6.alloc (.cells #[.int .i64 nx, .slice (some ⟨g6, 0, none⟩) xs.length xs.length, .string o, .slice (some ⟨k6, 0, none⟩) rs.length rs.length] 32) := ⟨_, rfl⟩
    rw [← hU6]
    have b6 : Below wA.heap.size wA U6 := by rw [hU6]; exact hb6.alloc hb6.size _
    have X6 : Bx U6 w6.heap.size 32 #[.int .i64 nx, .slice (some ⟨g6, 0, none⟩) xs.length xs.length, .string o, .slice (some ⟨k6, 0, none⟩) rs.length rs.length] := by rw [hU6]; exact Bx.new _ _ _
    have hx : U6.ownsRow wA.heap.size 46 3 (.slice (some ⟨g6, 0, none⟩) xs.length xs.length) xs.length (hs xs) := by rw [hU6]; exact ho6.alloc _
    have hy : U6.ownsRow wA.heap.size 9 1 (.slice (some ⟨k6, 0, none⟩) rs.length rs.length) rs.length (ss rs) := by rw [hU6]; exact hp6.alloc _
    have lU6 : U6.heap.size = w6.heap.size + 1 := by rw [hU6]; simp
    have lx := ho6.lt g6 rfl
    have ly := hp6.lt k6 rfl
    have A6 := A3.keep b6
    have P6 := P3.keep b6
    have W6 := ZW.keep b6
    have oW6 := owns_keep oW b6
    have rW6 := owns_keep rW b6
    have B6 : Hid (Below w.heap.size w U6) := kb B3 b6 (Nat.le_refl _)
    have hl6 : wA.heap.size < U6.heap.size := by have := b6.size; have := hb6.size; omega
    have LX : Hid (wA.heap.size ≤ g6 ∧ g6 < U6.heap.size ∧ wA.heap.size ≤ k6 ∧ k6 < U6.heap.size) := ⟨lx.1, by omega, ly.1, by omega⟩
    have HX6 : Hid (Bx U6 w6.heap.size 32 #[.int .i64 nx, .slice (some ⟨g6, 0, none⟩) xs.length xs.length, .string o, .slice (some ⟨k6, 0, none⟩) rs.length rs.length] ∧ Bx U6 w.heap.size 25 #[.int .i64 nx, .slice ao xs.length ca, .string o, .slice so rs.length cs] ∧ Bx U6 (w.heap.size + 1) 27 #[.string s, .bool l] ∧ Bx U6 Wb 32 #[.int .i64 ((m : Nat) : Int), .slice aw zs.length cw, .string p, .slice bw ts.length ew]) := ⟨X6, A6, P6, W6⟩
    have HR6 : Hid (U6.ownsRow wA.heap.size 46 3 (.slice (some ⟨g6, 0, none⟩) xs.length xs.length) xs.length (hs xs) ∧ U6.ownsRow wA.heap.size 9 1 (.slice (some ⟨k6, 0, none⟩) rs.length rs.length) rs.length (ss rs) ∧ U6.ownsRow w2.heap.size 46 3 (.slice aw zs.length cw) zs.length (hs zs) ∧ U6.ownsRow w2.heap.size 9 1 (.slice bw ts.length ew) ts.length (ss ts)) := ⟨hx, hy, oW6, rW6⟩
    have HLW : Hid ((∀ r, (Value.slice aw zs.length cw).ownBlock = some r → r < wA.heap.size) ∧ (∀ r, (Value.slice bw ts.length ew).ownBlock = some r → r < wA.heap.size)) := ⟨lhw, lrw⟩
    have HLL : Hid (w.heap.size < wA.heap.size ∧ w.heap.size + 1 < wA.heap.size ∧ Wb < wA.heap.size ∧ wA.heap.size ≤ U6.heap.size ∧ w.heap.size ≤ wA.heap.size) := ⟨la3, lp3, ltW, by omega, by omega⟩
    clear a0 a1 a2 a3 p0 p1
    obtain ⟨x0, x1, x2, x3⟩ := X6.cells4
    obtain ⟨p0, p1⟩ := P6.cells2
    clear hU6 X6 A6 P6 W6 oW6 rW6 oW rW ZW A3 P3 ho6 hp6 hb6 B3 b6 BW HA2 HP2 lhw lrw lx ly lU6
    go_cut [10] from 33 to 37 (fun v wx => ∃ (B : Nat) (aw : Option Addr) (cw : Nat) (bw : Option Addr) (ew : Nat), v = .pointer (some ⟨B, 0, none⟩) ∧ Bx wx B 32 #[.int .i64 ((m : Nat) : Int), .slice aw zs.length cw, .string p, .slice bw ts.length ew] ∧ wx.ownsRow U6.heap.size 46 3 (.slice aw zs.length cw) zs.length (hs zs) ∧ wx.ownsRow U6.heap.size 9 1 (.slice bw ts.length ew) ts.length (ss ts) ∧ Below U6.heap.size U6 wx ∧ U6.heap.size ≤ B ∧ B < wx.heap.size)
    case first =>
      refine wp_region_held_drew (S := (fun w' => Below U6.heap.size U6 w')) (by kernel_rfl) ?_ (fun hHeld => ?_)
      · exact (Below.refl _ _).drew
      refine tkE 0 (some 33) ?_ ?_ ?_
      rotate_left
      · (intro w hSw; (have hx0 := cell_keep x0 hSw); (have hx1 := cell_keep x1 hSw); (have hx2 := cell_keep x2 hSw); (have hx3 := cell_keep x3 hSw); go_simp <;> with_reducible rfl)
      refine tkF 1 (some 34) ?_
      refine tkE 2 (some 35) ?_ ?_ ?_
      rotate_left
      · (intro w hSw; (have hp0 := cell_keep p0 hSw); (have hp1 := cell_keep p1 hSw); go_simp <;> with_reducible rfl)
      replace hx := World.ownsRow.drew hx
      replace hy := World.ownsRow.drew hy
      refine wpAnyH_ready (rs := [3, 5]) (by kernel_rfl) (by simp) ?_
      refine AllReadyH.cons rfl (fun K hK => ?_) (AllReadyH.cons rfl (fun K hK => ?_) AllReadyH.nil)
      · have hH0 := hHeld
        go_simp
        refine (HPO.out _).mono ?_
        rintro e w7 ⟨rfl, hb7⟩
        replace hx := owns_keep hx hb7
        replace hy := owns_keep hy hb7
        go_wp2_with fail
        refine hK.out _ _ ?_ (fun hHeld => ?_)
        · exact kb hH0 hb7 (Nat.le_refl _)
        clear hK K
        try simp only [Act.put, List.setIfInBounds_toArray, List.set_cons_zero, List.set_cons_succ]
        refine wpAnyH_ready (rs := [4, 5]) (by kernel_rfl) (by simp) ?_
        refine AllReadyH.cons rfl (fun K hK => ?_) (AllReadyH.cons rfl (fun K hK => ?_) AllReadyH.nil)
        · have hH0 := hHeld
          go_simp
          refine (S2.out _ _ _ ⟨owns_rs hx, owns_rs hy⟩).mono ?_
          rintro e w8 ⟨⟨aw, cw, bw, ew, rfl, ro', rp'⟩, hb8⟩
          replace hx := owns_keep hx hb8
          replace hy := owns_keep hy hb8
          have ro := owns_mono3 ro' hH0.size
          have rp := owns_mono3 rp' hH0.size
          clear ro' rp'
          go_wp2_with fail
          refine hK.out _ _ ?_ (fun hHeld => ?_)
          · exact kb hH0 hb8 (Nat.le_refl _)
          clear hK K
          try simp only [Act.put, List.setIfInBounds_toArray, List.set_cons_zero, List.set_cons_succ]
          refine wpAnyH_ready (rs := [5]) (by kernel_rfl) (by simp) ?_
          refine AllReadyH.cons rfl (fun K hK => ?_) AllReadyH.nil
          have hH0 := hHeld
          go_simp
          have ZB : Bx (w8.alloc (.cells #[.int .i64 0, .slice none 0 0, .string ⟨#[]⟩, .slice none 0 0] 32)) w8.heap.size 32 #[.int .i64 0, .slice none 0 0, .string ⟨#[]⟩, .slice none 0 0] := Bx.new _ _ _
          have ro0 := ro
          have rp0 := rp
          replace hx := hx.alloc (.cells #[.int .i64 0, .slice none 0 0, .string ⟨#[]⟩, .slice none 0 0] 32)
          replace hy := hy.alloc (.cells #[.int .i64 0, .slice none 0 0, .string ⟨#[]⟩, .slice none 0 0] 32)
          replace ro := ro.alloc (.cells #[.int .i64 0, .slice none 0 0, .string ⟨#[]⟩, .slice none 0 0] 32)
          replace rp := rp.alloc (.cells #[.int .i64 0, .slice none 0 0, .string ⟨#[]⟩, .slice none 0 0] 32)
          have hHA := hH0
          refine hK.out _ _ ?_ (fun hHeld => ?_)
          · exact hH0.alloc hH0.size _
          clear hK K
          try simp only [Act.put, List.setIfInBounds_toArray, List.set_cons_zero, List.set_cons_succ]
          have hH0 := hHeld
          refine wpAnyH_ready (rs := [6]) (by kernel_rfl) (by simp) ?_
          refine AllReadyH.cons rfl (fun K hK => ?_) AllReadyH.nil
          go_simp
          have BF : Below U6.heap.size U6 (w8.alloc (.cells #[.int .i64 ((m : Nat) : Int), .slice aw zs.length cw, .string p, .slice bw ts.length ew] 32)) := hHA.alloc hHA.size _
          have ZF : Bx (w8.alloc (.cells #[.int .i64 ((m : Nat) : Int), .slice aw zs.length cw, .string p, .slice bw ts.length ew] 32)) w8.heap.size 32 #[.int .i64 ((m : Nat) : Int), .slice aw zs.length cw, .string p, .slice bw ts.length ew] := Bx.new _ _ _
          have o1 := ro0.alloc (.cells #[.int .i64 ((m : Nat) : Int), .slice aw zs.length cw, .string p, .slice bw ts.length ew] 32)
          have o2 := rp0.alloc (.cells #[.int .i64 ((m : Nat) : Int), .slice aw zs.length cw, .string p, .slice bw ts.length ew] 32)
          have lB : U6.heap.size ≤ w8.heap.size := hHA.size
          refine hK.out _ _ ?_ (fun hHeld => ?_)
          · exact BF
          clear hK K
          try simp only [Act.put]
          refine wpAnyH_done (by kernel_rfl) ?_ _
          go_wp2_with fail
          go_meet
          exact ⟨w8.heap.size, aw, cw, bw, ew, rfl, ZF, o1, o2, BF, lB, ZF.lt⟩
        · have hH0 := hHeld
          go_simp
          have ZB : Bx (w7.alloc (.cells #[.int .i64 0, .slice none 0 0, .string ⟨#[]⟩, .slice none 0 0] 32)) w7.heap.size 32 #[.int .i64 0, .slice none 0 0, .string ⟨#[]⟩, .slice none 0 0] := Bx.new _ _ _
          replace hx := hx.alloc (.cells #[.int .i64 0, .slice none 0 0, .string ⟨#[]⟩, .slice none 0 0] 32)
          replace hy := hy.alloc (.cells #[.int .i64 0, .slice none 0 0, .string ⟨#[]⟩, .slice none 0 0] 32)
          have hHA := hH0
          refine hK.out _ _ ?_ (fun hHeld => ?_)
          · exact hH0.alloc hH0.size _
          clear hK K
          try simp only [Act.put, List.setIfInBounds_toArray, List.set_cons_zero, List.set_cons_succ]
          refine wpAnyH_ready (rs := [4]) (by kernel_rfl) (by simp) ?_
          refine AllReadyH.cons rfl (fun K hK => ?_) AllReadyH.nil
          have hH0 := hHeld
          go_simp
          refine (S2.out _ _ _ ⟨owns_rs hx, owns_rs hy⟩).mono ?_
          rintro e w8 ⟨⟨aw, cw, bw, ew, rfl, ro', rp'⟩, hb8⟩
          replace ZB := ZB.keep hb8
          replace hx := owns_keep hx hb8
          replace hy := owns_keep hy hb8
          have ro := owns_mono3 ro' hH0.size
          have rp := owns_mono3 rp' hH0.size
          clear ro' rp'
          go_wp2_with fail
          refine hK.out _ _ ?_ (fun hHeld => ?_)
          · exact kb hH0 hb8 (Nat.le_refl _)
          clear hK K
          try simp only [Act.put, List.setIfInBounds_toArray, List.set_cons_zero, List.set_cons_succ]
          have z0 := ZB.cell 0
          have z1 := ZB.cell 1
          have z2 := ZB.cell 2
          have z3 := ZB.cell 3
          simp at z0 z1 z2 z3
          have f0 := ZB.frozen 0
          have f1 := ZB.frozen 1
          have f2 := ZB.frozen 2
          have f3 := ZB.frozen 3
          have hH0 := hHeld
          refine wpAnyH_ready (rs := [6]) (by kernel_rfl) (by simp) ?_
          refine AllReadyH.cons rfl (fun K hK => ?_) AllReadyH.nil
          go_simp
          have lB : U6.heap.size ≤ w7.heap.size := by exact hHA.size
          have BF := ((((hH0.setCell (p := ⟨w7.heap.size, 0, none⟩) lB (.int .i64 ((m : Nat) : Int))).setCell (p := ⟨w7.heap.size, 1, none⟩) lB (.slice aw zs.length cw)).setCell (p := ⟨w7.heap.size, 2, none⟩) lB (.string p)).setCell (p := ⟨w7.heap.size, 3, none⟩) lB (.slice bw ts.length ew))
          have n1 := ZB.ne (by decide) ro
          have n2 := ZB.ne (by decide) rp
          have ZF := ((((ZB.put 0 (.int .i64 ((m : Nat) : Int))).put 1 (.slice aw zs.length cw)).put 2 (.string p)).put 3 (.slice bw ts.length ew))
          have o1 := (ownsRow_setCell_other (ownsRow_setCell_other (ownsRow_setCell_other (ownsRow_setCell_other ro (a := ⟨w7.heap.size, 0, none⟩) (Ne.symm n1) (.int .i64 ((m : Nat) : Int))) (a := ⟨w7.heap.size, 1, none⟩) (Ne.symm n1) (.slice aw zs.length cw)) (a := ⟨w7.heap.size, 2, none⟩) (Ne.symm n1) (.string p)) (a := ⟨w7.heap.size, 3, none⟩) (Ne.symm n1) (.slice bw ts.length ew))
          have o2 := (ownsRow_setCell_other (ownsRow_setCell_other (ownsRow_setCell_other (ownsRow_setCell_other rp (a := ⟨w7.heap.size, 0, none⟩) (Ne.symm n2) (.int .i64 ((m : Nat) : Int))) (a := ⟨w7.heap.size, 1, none⟩) (Ne.symm n2) (.slice aw zs.length cw)) (a := ⟨w7.heap.size, 2, none⟩) (Ne.symm n2) (.string p)) (a := ⟨w7.heap.size, 3, none⟩) (Ne.symm n2) (.slice bw ts.length ew))
          refine hK.out _ _ ?_ (fun hHeld => ?_)
          · exact BF
          clear hK K
          try simp only [Act.put]
          refine wpAnyH_done (by kernel_rfl) ?_ _
          go_wp2_with fail
          go_meet
          exact ⟨w7.heap.size, aw, cw, bw, ew, rfl, ZF, o1, o2, BF, lB, ZF.lt⟩
      · have hH0 := hHeld
        go_simp
        have ZB : Bx (U6.drew.alloc (.cells #[.int .i64 0, .slice none 0 0, .string ⟨#[]⟩, .slice none 0 0] 32)) U6.heap.size 32 #[.int .i64 0, .slice none 0 0, .string ⟨#[]⟩, .slice none 0 0] := Bx.new _ _ _
        replace hx := hx.alloc (.cells #[.int .i64 0, .slice none 0 0, .string ⟨#[]⟩, .slice none 0 0] 32)
        replace hy := hy.alloc (.cells #[.int .i64 0, .slice none 0 0, .string ⟨#[]⟩, .slice none 0 0] 32)
        have hHA := hH0
        refine hK.out _ _ ?_ (fun hHeld => ?_)
        · exact hH0.alloc hH0.size _
        clear hK K
        try simp only [Act.put, List.setIfInBounds_toArray, List.set_cons_zero, List.set_cons_succ]
        refine wpAnyH_ready (rs := [3]) (by kernel_rfl) (by simp) ?_
        refine AllReadyH.cons rfl (fun K hK => ?_) AllReadyH.nil
        have hH0 := hHeld
        go_simp
        refine (HPO.out _).mono ?_
        rintro e w7 ⟨rfl, hb7⟩
        replace ZB := ZB.keep hb7
        replace hx := owns_keep hx hb7
        replace hy := owns_keep hy hb7
        go_wp2_with fail
        refine hK.out _ _ ?_ (fun hHeld => ?_)
        · exact kb hH0 hb7 (Nat.le_refl _)
        clear hK K
        try simp only [Act.put, List.setIfInBounds_toArray, List.set_cons_zero, List.set_cons_succ]
        refine wpAnyH_ready (rs := [4]) (by kernel_rfl) (by simp) ?_
        refine AllReadyH.cons rfl (fun K hK => ?_) AllReadyH.nil
        have hH0 := hHeld
        go_simp
        refine (S2.out _ _ _ ⟨owns_rs hx, owns_rs hy⟩).mono ?_
        rintro e w8 ⟨⟨aw, cw, bw, ew, rfl, ro', rp'⟩, hb8⟩
        replace ZB := ZB.keep hb8
        replace hx := owns_keep hx hb8
        replace hy := owns_keep hy hb8
        have ro := owns_mono3 ro' hH0.size
        have rp := owns_mono3 rp' hH0.size
        clear ro' rp'
        go_wp2_with fail
        refine hK.out _ _ ?_ (fun hHeld => ?_)
        · exact kb hH0 hb8 (Nat.le_refl _)
        clear hK K
        try simp only [Act.put, List.setIfInBounds_toArray, List.set_cons_zero, List.set_cons_succ]
        have z0 := ZB.cell 0
        have z1 := ZB.cell 1
        have z2 := ZB.cell 2
        have z3 := ZB.cell 3
        simp at z0 z1 z2 z3
        have f0 := ZB.frozen 0
        have f1 := ZB.frozen 1
        have f2 := ZB.frozen 2
        have f3 := ZB.frozen 3
        have hH0 := hHeld
        refine wpAnyH_ready (rs := [6]) (by kernel_rfl) (by simp) ?_
        refine AllReadyH.cons rfl (fun K hK => ?_) AllReadyH.nil
        go_simp
        have lB : U6.heap.size ≤ U6.heap.size := by exact Nat.le_refl _
        have BF := ((((hH0.setCell (p := ⟨U6.heap.size, 0, none⟩) lB (.int .i64 ((m : Nat) : Int))).setCell (p := ⟨U6.heap.size, 1, none⟩) lB (.slice aw zs.length cw)).setCell (p := ⟨U6.heap.size, 2, none⟩) lB (.string p)).setCell (p := ⟨U6.heap.size, 3, none⟩) lB (.slice bw ts.length ew))
        have n1 := ZB.ne (by decide) ro
        have n2 := ZB.ne (by decide) rp
        have ZF := ((((ZB.put 0 (.int .i64 ((m : Nat) : Int))).put 1 (.slice aw zs.length cw)).put 2 (.string p)).put 3 (.slice bw ts.length ew))
        have o1 := (ownsRow_setCell_other (ownsRow_setCell_other (ownsRow_setCell_other (ownsRow_setCell_other ro (a := ⟨U6.heap.size, 0, none⟩) (Ne.symm n1) (.int .i64 ((m : Nat) : Int))) (a := ⟨U6.heap.size, 1, none⟩) (Ne.symm n1) (.slice aw zs.length cw)) (a := ⟨U6.heap.size, 2, none⟩) (Ne.symm n1) (.string p)) (a := ⟨U6.heap.size, 3, none⟩) (Ne.symm n1) (.slice bw ts.length ew))
        have o2 := (ownsRow_setCell_other (ownsRow_setCell_other (ownsRow_setCell_other (ownsRow_setCell_other rp (a := ⟨U6.heap.size, 0, none⟩) (Ne.symm n2) (.int .i64 ((m : Nat) : Int))) (a := ⟨U6.heap.size, 1, none⟩) (Ne.symm n2) (.slice aw zs.length cw)) (a := ⟨U6.heap.size, 2, none⟩) (Ne.symm n2) (.string p)) (a := ⟨U6.heap.size, 3, none⟩) (Ne.symm n2) (.slice bw ts.length ew))
        refine hK.out _ _ ?_ (fun hHeld => ?_)
        · exact BF
        clear hK K
        try simp only [Act.put]
        refine wpAnyH_done (by kernel_rfl) ?_ _
        go_wp2_with fail
        go_meet
        exact ⟨U6.heap.size, aw, cw, bw, ew, rfl, ZF, o1, o2, BF, lB, ZF.lt⟩
    case rest =>
      obtain ⟨Gb, ag, cg, bg, eg, rfl, ZG, oG, rG, BG, lG, ltG⟩ := hcut
      obtain ⟨X6, A6, P6, W6⟩ := HX6.out
      obtain ⟨hx6, hy6, oW6, rW6⟩ := HR6.out
      obtain ⟨hLa, hLp, hLw, hLu, hLs⟩ := HLL.out
      have T10 : TG w wc w.heap.size (w.heap.size + 1) Wb Gb wA.heap.size U6.heap.size w2.heap.size 25 27 #[.int .i64 nx, .slice ao xs.length ca, .string o, .slice so rs.length cs] #[.string s, .bool l] #[.int .i64 ((m : Nat) : Int), .slice aw zs.length cw, .string p, .slice bw ts.length ew] #[.int .i64 ((m : Nat) : Int), .slice ag zs.length cg, .string p, .slice bg ts.length eg] (.slice aw zs.length cw) (.slice bw ts.length ew) (.slice ag zs.length cg) (.slice bg ts.length eg) zs.length ts.length (hs zs) (ss ts) (hs zs) (ss ts) := ⟨kb B6.out BG (Nat.le_refl _), A6.keep BG, P6.keep BG, W6.keep BG, ZG, owns_keep oW6 BG, owns_keep rW6 BG, oG, rG, hLa, hLp, hLw, HLW.out.1, HLW.out.2, hLu, lG, hLs⟩
      rename World => wB
      have X10 := X6.keep BG
      have hx10 := owns_keep hx6 BG
      have hy10 := owns_keep hy6 BG
      have hln := HS.out.n
      have hlk := HS.out.k
      clear x0 x1 x2 x3 p0 p1
      clear X6 A6 P6 W6 hx6 hy6 oW6 rW6 HX6 HR6 HLL HLW B6 ZG oG rG BG hx hy hT
      obtain ⟨a0, a1, a2, a3⟩ := T10.a.cells4
      obtain ⟨v0, v1, v2, v3⟩ := T10.wb.cells4
      obtain ⟨m0, m1, m2, m3⟩ := T10.gb.cells4
      obtain ⟨x0, x1, x2, x3⟩ := X10.cells4
      go_wp2_with (first
        | (go_at_call 10; refine (eqTake_same ((m : Nat) : Int) _ _ _ _ _ _ _ _ zs p ts _ (by omega) (by omega) ⟨owns_rs T10.ohg, owns_rs T10.org⟩ ⟨owns_rs T10.ohw, owns_rs T10.orw⟩).mono ?_; rintro e w9 ⟨rfl, hb9⟩; (have T11 := T10.keep hb9); (have X11 := X10.keep hb9); (have hx11 := owns_keep hx10 hb9); (have hy11 := owns_keep hy10 hb9); clear a0 a1 a2 a3 v0 v1 v2 v3 m0 m1 m2 m3 x0 x1 x2 x3; (obtain ⟨a0, a1, a2, a3⟩ := T11.a.cells4); (obtain ⟨v0, v1, v2, v3⟩ := T11.wb.cells4); (obtain ⟨m0, m1, m2, m3⟩ := T11.gb.cells4); (obtain ⟨x0, x1, x2, x3⟩ := X11.cells4))
        | fail)
      have R11 : Hid (Rt w9 (some ⟨g6, 0, none⟩) (some ⟨k6, 0, none⟩) xs rs) := (⟨owns_rs hx11, owns_rs hy11⟩ : Rt w9 (some ⟨g6, 0, none⟩) (some ⟨k6, 0, none⟩) xs rs)
      have hs9 := T11.a.lt
      have hx9 := X11.lt
      have HB9 : Hid (Below w.heap.size w w9) := T11.bel
      have HT11 : Hid (TG w w9 w.heap.size (w.heap.size + 1) Wb Gb wA.heap.size U6.heap.size w2.heap.size 25 27 #[.int .i64 nx, .slice ao xs.length ca, .string o, .slice so rs.length cs] #[.string s, .bool l] #[.int .i64 ((m : Nat) : Int), .slice aw zs.length cw, .string p, .slice bw ts.length ew] #[.int .i64 ((m : Nat) : Int), .slice ag zs.length cg, .string p, .slice bg ts.length eg] (.slice aw zs.length cw) (.slice bw ts.length ew) (.slice ag zs.length cg) (.slice bg ts.length eg) zs.length ts.length (hs zs) (ss ts) (hs zs) (ss ts)) := T11
      have HX11 : Hid (Bx w9 w6.heap.size 32 #[.int .i64 nx, .slice (some ⟨g6, 0, none⟩) xs.length xs.length, .string o, .slice (some ⟨k6, 0, none⟩) rs.length rs.length]) := X11
      have HH11 : Hid (w9.ownsRow wA.heap.size 46 3 (.slice (some ⟨g6, 0, none⟩) xs.length xs.length) xs.length (hs xs) ∧ w9.ownsRow wA.heap.size 9 1 (.slice (some ⟨k6, 0, none⟩) rs.length rs.length) rs.length (ss rs)) := ⟨hx11, hy11⟩
      clear T10 T11 X10 X11 hx10 hy10 hx11 hy11 hb9 v0 v1 v2 v3 m0 m1 m2 m3
      go_wp2
      go_region_held3 (fun w' => w'.cell? ⟨w.heap.size, 0, none⟩ = some (.int .i64 nx) ∧ w'.cell? ⟨w.heap.size, 1, none⟩ = some (.slice ao xs.length ca) ∧ w'.cell? ⟨w.heap.size, 2, none⟩ = some (.string o) ∧ w'.cell? ⟨w.heap.size, 3, none⟩ = some (.slice so rs.length cs) ∧ w'.cell? ⟨w6.heap.size, 0, none⟩ = some (.int .i64 nx) ∧ w'.cell? ⟨w6.heap.size, 1, none⟩ = some (.slice (some ⟨g6, 0, none⟩) xs.length xs.length) ∧ w'.cell? ⟨w6.heap.size, 2, none⟩ = some (.string o) ∧ w'.cell? ⟨w6.heap.size, 3, none⟩ = some (.slice (some ⟨k6, 0, none⟩) rs.length rs.length) ∧ Below w9.heap.size w9 w')
        (first | assumption | exact ⟨a0, a1, a2, a3, x0, x1, x2, x3, (Below.refl _ _).drew⟩ | (go_split_ands; refine ⟨mk.kp (by assumption) (by assumption) hb10 hs9, mk.kp (by assumption) (by assumption) hb10 hs9, mk.kp (by assumption) (by assumption) hb10 hs9, mk.kp (by assumption) (by assumption) hb10 hs9, mk.kp (by assumption) (by assumption) hb10 hx9, mk.kp (by assumption) (by assumption) hb10 hx9, mk.kp (by assumption) (by assumption) hb10 hx9, mk.kp (by assumption) (by assumption) hb10 hx9, mk.kb (by assumption) hb10 (Nat.le_refl _)⟩))
        (first
          | (go_at_call 7; refine (HTO.out _ (HA.out.keep (kb HB9.out (by go_split_ands; assumption) (Nat.le_refl _)))).mono ?_; rintro e w10 ⟨⟨g10, k10, rfl, ho10, hp10, -⟩, hb10⟩)
          | (go_at_call 10; refine (eqTake_same nx _ _ _ _ _ _ _ _ xs o rs _ (by omega) (by omega) (R11.out.keep (by go_split_ands; assumption)) ⟨owns_rs ho10, owns_rs hp10⟩).mono ?_; rintro e w10 ⟨rfl, hb10⟩))
      have hbl : Below w9.heap.size w9 w10 := by go_split_ands; assumption
      have T12 := HT11.out.keep hbl
      have X12 := HX11.out.keep hbl
      have hx12 := owns_keep HH11.out.1 hbl
      have hy12 := owns_keep HH11.out.2 hbl
      clear HT11 HX11 HH11 R11 hbl a0 a1 a2 a3 x0 x1 x2 x3
      obtain ⟨a0, a1, a2, a3⟩ := T12.a.cells4
      obtain ⟨v0, v1, v2, v3⟩ := T12.wb.cells4
      obtain ⟨m0, m1, m2, m3⟩ := T12.gb.cells4
      obtain ⟨x0, x1, x2, x3⟩ := X12.cells4
      obtain ⟨K, hK⟩ : ∃ K : Nat, K = 1 + xs.length * 3 + rs.length := ⟨_, rfl⟩
      have HMK := markTake_one wA.heap.size wA.heap.size nx _ _ o xs.length rs.length _ _ w10 (by omega) (by omega) hx12 hy12 K hK
      have hK0 : (0 : Int) ≤ (K : Int) := Int.natCast_nonneg K
      obtain ⟨K2, hK2⟩ : ∃ K : Nat, K = 1 + zs.length * 3 + ts.length := ⟨_, rfl⟩
      have HK2 : Hid (K2 = 1 + zs.length * 3 + ts.length) := hK2
      have hK20 : (0 : Int) ≤ (K2 : Int) := Int.natCast_nonneg K2
      clear hK hK2
      go_wp2_with (first
        | (go_at_call 11; refine HMK.mono ?_; rintro e w11 ⟨rfl, -, -, wm, g1, g2⟩; (have T13 := (T12.turn g1 (fun r e => by simp [Value.ownBlock] at e; subst e; exact ⟨LX.out.1, LX.out.2.1⟩)).turn g2 (fun r e => by simp [Value.ownBlock] at e; subst e; exact ⟨LX.out.2.2.1, LX.out.2.2.2⟩)); clear a0 a1 a2 a3 v0 v1 v2 v3 m0 m1 m2 m3 x0 x1 x2 x3; (obtain ⟨a0, a1, a2, a3⟩ := T13.a.cells4); (obtain ⟨v0, v1, v2, v3⟩ := T13.wb.cells4); (obtain ⟨m0, m1, m2, m3⟩ := T13.gb.cells4))
        | fail)
      clear T12 X12 hx12 hy12 HMK g1 g2
      go_wp2_with (first
        | (go_at_call 10; refine (eqTake_same ((m : Nat) : Int) _ _ _ _ _ _ _ _ zs p ts _ (by omega) (by omega) ⟨owns_rs T13.ohg, owns_rs T13.org⟩ ⟨owns_rs T13.ohw, owns_rs T13.orw⟩).mono ?_; rintro e w12 ⟨rfl, hb12⟩; (have T14 := T13.keep hb12); clear a0 a1 a2 a3 v0 v1 v2 v3 m0 m1 m2 m3; (obtain ⟨a0, a1, a2, a3⟩ := T14.a.cells4); (obtain ⟨v0, v1, v2, v3⟩ := T14.wb.cells4); (obtain ⟨m0, m1, m2, m3⟩ := T14.gb.cells4))
        | fail)
      clear T13 hb12
      go_wp2_with (first
        | (go_at_call 11; refine (markTake_one U6.heap.size U6.heap.size ((m : Nat) : Int) _ _ p zs.length ts.length _ _ _ (by omega) (by omega) T14.ohg T14.org K2 HK2.out).mono ?_; rintro e w13 ⟨rfl, ⟨cs1, o1, M1⟩, ⟨cs2, o2, M2⟩, wm, g1, g2⟩; (have T15 := T14.turnB g1 g2 o1 o2); clear a0 a1 a2 a3 v0 v1 v2 v3 m0 m1 m2 m3; (obtain ⟨a0, a1, a2, a3⟩ := T15.a.cells4); (obtain ⟨v0, v1, v2, v3⟩ := T15.wb.cells4); (obtain ⟨m0, m1, m2, m3⟩ := T15.gb.cells4))
        | fail)
      clear T14 g1 g2 o1 o2
      go_wp2_with (first
        | (go_at_call 12; refine (heldTake_one U6.heap.size U6.heap.size ((m : Nat) : Int) _ _ p zs.length ts.length _ _ _ (by omega) (by omega) T15.ohg T15.org M1 M2 K2 HK2.out).mono ?_; rintro e w14 ⟨rfl, hb14⟩; (have T16 := T15.keep hb14); clear a0 a1 a2 a3 v0 v1 v2 v3 m0 m1 m2 m3; (obtain ⟨a0, a1, a2, a3⟩ := T16.a.cells4); (obtain ⟨v0, v1, v2, v3⟩ := T16.wb.cells4); (obtain ⟨m0, m1, m2, m3⟩ := T16.gb.cells4))
        | fail)
      clear T15 hb14
      obtain ⟨p0, p1⟩ := T16.p.cells2
      go_cut [14] from 69 to 74 (fun v wx => ∃ (B : Nat) (aw : Option Addr) (cw : Nat) (bw : Option Addr) (ew : Nat), v = .pointer (some ⟨B, 0, none⟩) ∧ Bx wx B 32 #[.int .i64 ((m : Nat) : Int), .slice aw zs.length cw, .string p, .slice bw ts.length ew] ∧ wx.ownsRow w14.heap.size 46 3 (.slice aw zs.length cw) zs.length (hs zs) ∧ wx.ownsRow w14.heap.size 9 1 (.slice bw ts.length ew) ts.length (ss ts) ∧ Below w14.heap.size w14 wx ∧ w14.heap.size ≤ B ∧ B < wx.heap.size)
      case first =>
        refine wp_region_held_drew (S := (fun w' => Below w14.heap.size w14 w')) (by kernel_rfl) ?_ (fun hHeld => ?_)
        · exact (Below.refl _ _).drew
        refine tkE 0 (some 69) ?_ ?_ ?_
        rotate_left
        · (intro w hSw; (have ha0 := cell_keep a0 hSw); (have ha1 := cell_keep a1 hSw); (have ha2 := cell_keep a2 hSw); (have ha3 := cell_keep a3 hSw); go_simp <;> with_reducible rfl)
        refine tkF 2 (some 71) ?_
        refine tkE 3 (some 72) ?_ ?_ ?_
        rotate_left
        · (intro w hSw; (have hp0 := cell_keep p0 hSw); (have hp1 := cell_keep p1 hSw); go_simp <;> with_reducible rfl)
        refine wpAnyH_ready (rs := [1, 6]) (by kernel_rfl) (by simp) ?_
        refine AllReadyH.cons rfl (fun K hK => ?_) (AllReadyH.cons rfl (fun K hK => ?_) AllReadyH.nil)
        · have hH0 := hHeld
          go_simp
          refine (HTO.out _ (HA.out.keep (kb T16.bel hH0 (Nat.le_refl _)))).mono ?_
          rintro e w15 ⟨⟨g15, k15, rfl, ho15, hp15, -⟩, hb15⟩
          go_wp2_with fail
          refine hK.out _ _ ?_ (fun hHeld => ?_)
          · exact kb hH0 hb15 (Nat.le_refl _)
          clear hK K
          try simp only [Act.put, List.setIfInBounds_toArray, List.set_cons_zero, List.set_cons_succ]
          refine wpAnyH_ready (rs := [4, 6]) (by kernel_rfl) (by simp) ?_
          refine AllReadyH.cons rfl (fun K hK => ?_) (AllReadyH.cons rfl (fun K hK => ?_) AllReadyH.nil)
          · have hH0 := hHeld
            go_simp
            refine (HPO.out _).mono ?_
            rintro e w15b ⟨rfl, hb15b⟩
            replace ho15 := owns_keep ho15 hb15b
            replace hp15 := owns_keep hp15 hb15b
            go_wp2_with fail
            refine hK.out _ _ ?_ (fun hHeld => ?_)
            · exact kb hH0 hb15b (Nat.le_refl _)
            clear hK K
            try simp only [Act.put, List.setIfInBounds_toArray, List.set_cons_zero, List.set_cons_succ]
            refine wpAnyH_ready (rs := [5, 6]) (by kernel_rfl) (by simp) ?_
            refine AllReadyH.cons rfl (fun K hK => ?_) (AllReadyH.cons rfl (fun K hK => ?_) AllReadyH.nil)
            · have hH0 := hHeld
              go_simp
              refine (S2.out _ _ _ ⟨owns_rs ho15, owns_rs hp15⟩).mono ?_
              rintro e w15c ⟨⟨aw, cw, bw, ew, rfl, ro', rp'⟩, hb15c⟩
              replace ho15 := owns_keep ho15 hb15c
              replace hp15 := owns_keep hp15 hb15c
              have ro := owns_mono3 ro' hH0.size
              have rp := owns_mono3 rp' hH0.size
              clear ro' rp'
              go_wp2_with fail
              refine hK.out _ _ ?_ (fun hHeld => ?_)
              · exact kb hH0 hb15c (Nat.le_refl _)
              clear hK K
              try simp only [Act.put, List.setIfInBounds_toArray, List.set_cons_zero, List.set_cons_succ]
              refine wpAnyH_ready (rs := [6]) (by kernel_rfl) (by simp) ?_
              refine AllReadyH.cons rfl (fun K hK => ?_) AllReadyH.nil
              have hH0 := hHeld
              go_simp
              have ZB : Bx (w15c.alloc (.cells #[.int .i64 0, .slice none 0 0, .string ⟨#[]⟩, .slice none 0 0] 32)) w15c.heap.size 32 #[.int .i64 0, .slice none 0 0, .string ⟨#[]⟩, .slice none 0 0] := Bx.new _ _ _
              have ro0 := ro
              have rp0 := rp
              replace ho15 := ho15.alloc (.cells #[.int .i64 0, .slice none 0 0, .string ⟨#[]⟩, .slice none 0 0] 32)
              replace hp15 := hp15.alloc (.cells #[.int .i64 0, .slice none 0 0, .string ⟨#[]⟩, .slice none 0 0] 32)
              replace ro := ro.alloc (.cells #[.int .i64 0, .slice none 0 0, .string ⟨#[]⟩, .slice none 0 0] 32)
              replace rp := rp.alloc (.cells #[.int .i64 0, .slice none 0 0, .string ⟨#[]⟩, .slice none 0 0] 32)
              have hHA := hH0
              refine hK.out _ _ ?_ (fun hHeld => ?_)
              · exact hH0.alloc hH0.size _
              clear hK K
              try simp only [Act.put, List.setIfInBounds_toArray, List.set_cons_zero, List.set_cons_succ]
              have hH0 := hHeld
              refine wpAnyH_ready (rs := [7]) (by kernel_rfl) (by simp) ?_
              refine AllReadyH.cons rfl (fun K hK => ?_) AllReadyH.nil
              go_simp
              have BF : Below w14.heap.size w14 (w15c.alloc (.cells #[.int .i64 ((m : Nat) : Int), .slice aw zs.length cw, .string p, .slice bw ts.length ew] 32)) := hHA.alloc hHA.size _
              have ZF : Bx (w15c.alloc (.cells #[.int .i64 ((m : Nat) : Int), .slice aw zs.length cw, .string p, .slice bw ts.length ew] 32)) w15c.heap.size 32 #[.int .i64 ((m : Nat) : Int), .slice aw zs.length cw, .string p, .slice bw ts.length ew] := Bx.new _ _ _
              have o1 := ro0.alloc (.cells #[.int .i64 ((m : Nat) : Int), .slice aw zs.length cw, .string p, .slice bw ts.length ew] 32)
              have o2 := rp0.alloc (.cells #[.int .i64 ((m : Nat) : Int), .slice aw zs.length cw, .string p, .slice bw ts.length ew] 32)
              have lB : w14.heap.size ≤ w15c.heap.size := hHA.size
              refine hK.out _ _ ?_ (fun hHeld => ?_)
              · exact BF
              clear hK K
              try simp only [Act.put]
              refine wpAnyH_done (by kernel_rfl) ?_ _
              go_wp2_with fail
              go_meet
              exact ⟨w15c.heap.size, aw, cw, bw, ew, rfl, ZF, o1, o2, BF, lB, ZF.lt⟩
            · have hH0 := hHeld
              go_simp
              have ZB : Bx (w15b.alloc (.cells #[.int .i64 0, .slice none 0 0, .string ⟨#[]⟩, .slice none 0 0] 32)) w15b.heap.size 32 #[.int .i64 0, .slice none 0 0, .string ⟨#[]⟩, .slice none 0 0] := Bx.new _ _ _
              replace ho15 := ho15.alloc (.cells #[.int .i64 0, .slice none 0 0, .string ⟨#[]⟩, .slice none 0 0] 32)
              replace hp15 := hp15.alloc (.cells #[.int .i64 0, .slice none 0 0, .string ⟨#[]⟩, .slice none 0 0] 32)
              have hHA := hH0
              refine hK.out _ _ ?_ (fun hHeld => ?_)
              · exact hH0.alloc hH0.size _
              clear hK K
              try simp only [Act.put, List.setIfInBounds_toArray, List.set_cons_zero, List.set_cons_succ]
              refine wpAnyH_ready (rs := [5]) (by kernel_rfl) (by simp) ?_
              refine AllReadyH.cons rfl (fun K hK => ?_) AllReadyH.nil
              have hH0 := hHeld
              go_simp
              refine (S2.out _ _ _ ⟨owns_rs ho15, owns_rs hp15⟩).mono ?_
              rintro e w15c ⟨⟨aw, cw, bw, ew, rfl, ro', rp'⟩, hb15c⟩
              replace ZB := ZB.keep hb15c
              replace ho15 := owns_keep ho15 hb15c
              replace hp15 := owns_keep hp15 hb15c
              have ro := owns_mono3 ro' hH0.size
              have rp := owns_mono3 rp' hH0.size
              clear ro' rp'
              go_wp2_with fail
              refine hK.out _ _ ?_ (fun hHeld => ?_)
              · exact kb hH0 hb15c (Nat.le_refl _)
              clear hK K
              try simp only [Act.put, List.setIfInBounds_toArray, List.set_cons_zero, List.set_cons_succ]
              have z0 := ZB.cell 0
              have z1 := ZB.cell 1
              have z2 := ZB.cell 2
              have z3 := ZB.cell 3
              simp at z0 z1 z2 z3
              have f0 := ZB.frozen 0
              have f1 := ZB.frozen 1
              have f2 := ZB.frozen 2
              have f3 := ZB.frozen 3
              have hH0 := hHeld
              refine wpAnyH_ready (rs := [7]) (by kernel_rfl) (by simp) ?_
              refine AllReadyH.cons rfl (fun K hK => ?_) AllReadyH.nil
              go_simp
              have lB : w14.heap.size ≤ w15b.heap.size := by exact hHA.size
              have BF := ((((hH0.setCell (p := ⟨w15b.heap.size, 0, none⟩) lB (.int .i64 ((m : Nat) : Int))).setCell (p := ⟨w15b.heap.size, 1, none⟩) lB (.slice aw zs.length cw)).setCell (p := ⟨w15b.heap.size, 2, none⟩) lB (.string p)).setCell (p := ⟨w15b.heap.size, 3, none⟩) lB (.slice bw ts.length ew))
              have n1 := ZB.ne (by decide) ro
              have n2 := ZB.ne (by decide) rp
              have ZF := ((((ZB.put 0 (.int .i64 ((m : Nat) : Int))).put 1 (.slice aw zs.length cw)).put 2 (.string p)).put 3 (.slice bw ts.length ew))
              have o1 := (ownsRow_setCell_other (ownsRow_setCell_other (ownsRow_setCell_other (ownsRow_setCell_other ro (a := ⟨w15b.heap.size, 0, none⟩) (Ne.symm n1) (.int .i64 ((m : Nat) : Int))) (a := ⟨w15b.heap.size, 1, none⟩) (Ne.symm n1) (.slice aw zs.length cw)) (a := ⟨w15b.heap.size, 2, none⟩) (Ne.symm n1) (.string p)) (a := ⟨w15b.heap.size, 3, none⟩) (Ne.symm n1) (.slice bw ts.length ew))
              have o2 := (ownsRow_setCell_other (ownsRow_setCell_other (ownsRow_setCell_other (ownsRow_setCell_other rp (a := ⟨w15b.heap.size, 0, none⟩) (Ne.symm n2) (.int .i64 ((m : Nat) : Int))) (a := ⟨w15b.heap.size, 1, none⟩) (Ne.symm n2) (.slice aw zs.length cw)) (a := ⟨w15b.heap.size, 2, none⟩) (Ne.symm n2) (.string p)) (a := ⟨w15b.heap.size, 3, none⟩) (Ne.symm n2) (.slice bw ts.length ew))
              refine hK.out _ _ ?_ (fun hHeld => ?_)
              · exact BF
              clear hK K
              try simp only [Act.put]
              refine wpAnyH_done (by kernel_rfl) ?_ _
              go_wp2_with fail
              go_meet
              exact ⟨w15b.heap.size, aw, cw, bw, ew, rfl, ZF, o1, o2, BF, lB, ZF.lt⟩
          · have hH0 := hHeld
            go_simp
            have ZB : Bx (w15.alloc (.cells #[.int .i64 0, .slice none 0 0, .string ⟨#[]⟩, .slice none 0 0] 32)) w15.heap.size 32 #[.int .i64 0, .slice none 0 0, .string ⟨#[]⟩, .slice none 0 0] := Bx.new _ _ _
            replace ho15 := ho15.alloc (.cells #[.int .i64 0, .slice none 0 0, .string ⟨#[]⟩, .slice none 0 0] 32)
            replace hp15 := hp15.alloc (.cells #[.int .i64 0, .slice none 0 0, .string ⟨#[]⟩, .slice none 0 0] 32)
            have hHA := hH0
            refine hK.out _ _ ?_ (fun hHeld => ?_)
            · exact hH0.alloc hH0.size _
            clear hK K
            try simp only [Act.put, List.setIfInBounds_toArray, List.set_cons_zero, List.set_cons_succ]
            refine wpAnyH_ready (rs := [4]) (by kernel_rfl) (by simp) ?_
            refine AllReadyH.cons rfl (fun K hK => ?_) AllReadyH.nil
            have hH0 := hHeld
            go_simp
            refine (HPO.out _).mono ?_
            rintro e w15b ⟨rfl, hb15b⟩
            replace ZB := ZB.keep hb15b
            replace ho15 := owns_keep ho15 hb15b
            replace hp15 := owns_keep hp15 hb15b
            go_wp2_with fail
            refine hK.out _ _ ?_ (fun hHeld => ?_)
            · exact kb hH0 hb15b (Nat.le_refl _)
            clear hK K
            try simp only [Act.put, List.setIfInBounds_toArray, List.set_cons_zero, List.set_cons_succ]
            refine wpAnyH_ready (rs := [5]) (by kernel_rfl) (by simp) ?_
            refine AllReadyH.cons rfl (fun K hK => ?_) AllReadyH.nil
            have hH0 := hHeld
            go_simp
            refine (S2.out _ _ _ ⟨owns_rs ho15, owns_rs hp15⟩).mono ?_
            rintro e w15c ⟨⟨aw, cw, bw, ew, rfl, ro', rp'⟩, hb15c⟩
            replace ZB := ZB.keep hb15c
            replace ho15 := owns_keep ho15 hb15c
            replace hp15 := owns_keep hp15 hb15c
            have ro := owns_mono3 ro' hH0.size
            have rp := owns_mono3 rp' hH0.size
            clear ro' rp'
            go_wp2_with fail
            refine hK.out _ _ ?_ (fun hHeld => ?_)
            · exact kb hH0 hb15c (Nat.le_refl _)
            clear hK K
            try simp only [Act.put, List.setIfInBounds_toArray, List.set_cons_zero, List.set_cons_succ]
            have z0 := ZB.cell 0
            have z1 := ZB.cell 1
            have z2 := ZB.cell 2
            have z3 := ZB.cell 3
            simp at z0 z1 z2 z3
            have f0 := ZB.frozen 0
            have f1 := ZB.frozen 1
            have f2 := ZB.frozen 2
            have f3 := ZB.frozen 3
            have hH0 := hHeld
            refine wpAnyH_ready (rs := [7]) (by kernel_rfl) (by simp) ?_
            refine AllReadyH.cons rfl (fun K hK => ?_) AllReadyH.nil
            go_simp
            have lB : w14.heap.size ≤ w15.heap.size := by exact hHA.size
            have BF := ((((hH0.setCell (p := ⟨w15.heap.size, 0, none⟩) lB (.int .i64 ((m : Nat) : Int))).setCell (p := ⟨w15.heap.size, 1, none⟩) lB (.slice aw zs.length cw)).setCell (p := ⟨w15.heap.size, 2, none⟩) lB (.string p)).setCell (p := ⟨w15.heap.size, 3, none⟩) lB (.slice bw ts.length ew))
            have n1 := ZB.ne (by decide) ro
            have n2 := ZB.ne (by decide) rp
            have ZF := ((((ZB.put 0 (.int .i64 ((m : Nat) : Int))).put 1 (.slice aw zs.length cw)).put 2 (.string p)).put 3 (.slice bw ts.length ew))
            have o1 := (ownsRow_setCell_other (ownsRow_setCell_other (ownsRow_setCell_other (ownsRow_setCell_other ro (a := ⟨w15.heap.size, 0, none⟩) (Ne.symm n1) (.int .i64 ((m : Nat) : Int))) (a := ⟨w15.heap.size, 1, none⟩) (Ne.symm n1) (.slice aw zs.length cw)) (a := ⟨w15.heap.size, 2, none⟩) (Ne.symm n1) (.string p)) (a := ⟨w15.heap.size, 3, none⟩) (Ne.symm n1) (.slice bw ts.length ew))
            have o2 := (ownsRow_setCell_other (ownsRow_setCell_other (ownsRow_setCell_other (ownsRow_setCell_other rp (a := ⟨w15.heap.size, 0, none⟩) (Ne.symm n2) (.int .i64 ((m : Nat) : Int))) (a := ⟨w15.heap.size, 1, none⟩) (Ne.symm n2) (.slice aw zs.length cw)) (a := ⟨w15.heap.size, 2, none⟩) (Ne.symm n2) (.string p)) (a := ⟨w15.heap.size, 3, none⟩) (Ne.symm n2) (.slice bw ts.length ew))
            refine hK.out _ _ ?_ (fun hHeld => ?_)
            · exact BF
            clear hK K
            try simp only [Act.put]
            refine wpAnyH_done (by kernel_rfl) ?_ _
            go_wp2_with fail
            go_meet
            exact ⟨w15.heap.size, aw, cw, bw, ew, rfl, ZF, o1, o2, BF, lB, ZF.lt⟩
        · have hH0 := hHeld
          go_simp
          have ZB : Bx (w14.drew.alloc (.cells #[.int .i64 0, .slice none 0 0, .string ⟨#[]⟩, .slice none 0 0] 32)) w14.heap.size 32 #[.int .i64 0, .slice none 0 0, .string ⟨#[]⟩, .slice none 0 0] := Bx.new _ _ _
          have hHA := hH0
          refine hK.out _ _ ?_ (fun hHeld => ?_)
          · exact hH0.alloc hH0.size _
          clear hK K
          try simp only [Act.put, List.setIfInBounds_toArray, List.set_cons_zero, List.set_cons_succ]
          refine wpAnyH_ready (rs := [1]) (by kernel_rfl) (by simp) ?_
          refine AllReadyH.cons rfl (fun K hK => ?_) AllReadyH.nil
          have hH0 := hHeld
          go_simp
          refine (HTO.out _ (HA.out.keep (kb T16.bel hH0 (Nat.le_refl _)))).mono ?_
          rintro e w15 ⟨⟨g15, k15, rfl, ho15, hp15, -⟩, hb15⟩
          replace ZB := ZB.keep hb15
          go_wp2_with fail
          refine hK.out _ _ ?_ (fun hHeld => ?_)
          · exact kb hH0 hb15 (Nat.le_refl _)
          clear hK K
          try simp only [Act.put, List.setIfInBounds_toArray, List.set_cons_zero, List.set_cons_succ]
          refine wpAnyH_ready (rs := [4]) (by kernel_rfl) (by simp) ?_
          refine AllReadyH.cons rfl (fun K hK => ?_) AllReadyH.nil
          have hH0 := hHeld
          go_simp
          refine (HPO.out _).mono ?_
          rintro e w15b ⟨rfl, hb15b⟩
          replace ZB := ZB.keep hb15b
          replace ho15 := owns_keep ho15 hb15b
          replace hp15 := owns_keep hp15 hb15b
          go_wp2_with fail
          refine hK.out _ _ ?_ (fun hHeld => ?_)
          · exact kb hH0 hb15b (Nat.le_refl _)
          clear hK K
          try simp only [Act.put, List.setIfInBounds_toArray, List.set_cons_zero, List.set_cons_succ]
          refine wpAnyH_ready (rs := [5]) (by kernel_rfl) (by simp) ?_
          refine AllReadyH.cons rfl (fun K hK => ?_) AllReadyH.nil
          have hH0 := hHeld
          go_simp
          refine (S2.out _ _ _ ⟨owns_rs ho15, owns_rs hp15⟩).mono ?_
          rintro e w15c ⟨⟨aw, cw, bw, ew, rfl, ro', rp'⟩, hb15c⟩
          replace ZB := ZB.keep hb15c
          replace ho15 := owns_keep ho15 hb15c
          replace hp15 := owns_keep hp15 hb15c
          have ro := owns_mono3 ro' hH0.size
          have rp := owns_mono3 rp' hH0.size
          clear ro' rp'
          go_wp2_with fail
          refine hK.out _ _ ?_ (fun hHeld => ?_)
          · exact kb hH0 hb15c (Nat.le_refl _)
          clear hK K
          try simp only [Act.put, List.setIfInBounds_toArray, List.set_cons_zero, List.set_cons_succ]
          have z0 := ZB.cell 0
          have z1 := ZB.cell 1
          have z2 := ZB.cell 2
          have z3 := ZB.cell 3
          simp at z0 z1 z2 z3
          have f0 := ZB.frozen 0
          have f1 := ZB.frozen 1
          have f2 := ZB.frozen 2
          have f3 := ZB.frozen 3
          have hH0 := hHeld
          refine wpAnyH_ready (rs := [7]) (by kernel_rfl) (by simp) ?_
          refine AllReadyH.cons rfl (fun K hK => ?_) AllReadyH.nil
          go_simp
          have lB : w14.heap.size ≤ w14.heap.size := by exact Nat.le_refl _
          have BF := ((((hH0.setCell (p := ⟨w14.heap.size, 0, none⟩) lB (.int .i64 ((m : Nat) : Int))).setCell (p := ⟨w14.heap.size, 1, none⟩) lB (.slice aw zs.length cw)).setCell (p := ⟨w14.heap.size, 2, none⟩) lB (.string p)).setCell (p := ⟨w14.heap.size, 3, none⟩) lB (.slice bw ts.length ew))
          have n1 := ZB.ne (by decide) ro
          have n2 := ZB.ne (by decide) rp
          have ZF := ((((ZB.put 0 (.int .i64 ((m : Nat) : Int))).put 1 (.slice aw zs.length cw)).put 2 (.string p)).put 3 (.slice bw ts.length ew))
          have o1 := (ownsRow_setCell_other (ownsRow_setCell_other (ownsRow_setCell_other (ownsRow_setCell_other ro (a := ⟨w14.heap.size, 0, none⟩) (Ne.symm n1) (.int .i64 ((m : Nat) : Int))) (a := ⟨w14.heap.size, 1, none⟩) (Ne.symm n1) (.slice aw zs.length cw)) (a := ⟨w14.heap.size, 2, none⟩) (Ne.symm n1) (.string p)) (a := ⟨w14.heap.size, 3, none⟩) (Ne.symm n1) (.slice bw ts.length ew))
          have o2 := (ownsRow_setCell_other (ownsRow_setCell_other (ownsRow_setCell_other (ownsRow_setCell_other rp (a := ⟨w14.heap.size, 0, none⟩) (Ne.symm n2) (.int .i64 ((m : Nat) : Int))) (a := ⟨w14.heap.size, 1, none⟩) (Ne.symm n2) (.slice aw zs.length cw)) (a := ⟨w14.heap.size, 2, none⟩) (Ne.symm n2) (.string p)) (a := ⟨w14.heap.size, 3, none⟩) (Ne.symm n2) (.slice bw ts.length ew))
          refine hK.out _ _ ?_ (fun hHeld => ?_)
          · exact BF
          clear hK K
          try simp only [Act.put]
          refine wpAnyH_done (by kernel_rfl) ?_ _
          go_wp2_with fail
          go_meet
          exact ⟨w14.heap.size, aw, cw, bw, ew, rfl, ZF, o1, o2, BF, lB, ZF.lt⟩
      case rest =>
        obtain ⟨Hb, ah, ch, bh, eh, rfl, ZH, oH, rH, BH, lH, ltH⟩ := hcut
        rename World => wD
        have T17 := T16.keep BH
        clear a0 a1 a2 a3 v0 v1 v2 v3 m0 m1 m2 m3 p0 p1
        obtain ⟨v0, v1, v2, v3⟩ := T17.wb.cells4
        obtain ⟨m0, m1, m2, m3⟩ := T17.gb.cells4
        obtain ⟨h0, h1, h2, h3⟩ := ZH.cells4
        go_wp2_with (first
          | (go_at_call 10; refine (eqTake_same ((m : Nat) : Int) _ _ _ _ _ _ _ _ zs p ts _ (by omega) (by omega) ⟨owns_rs oH, owns_rs rH⟩ ⟨owns_rs T17.ohw, owns_rs T17.orw⟩).mono ?_; rintro e w18 ⟨rfl, hb18⟩; (have T18 := T17.keep hb18); clear v0 v1 v2 v3 m0 m1 m2 m3 h0 h1 h2 h3; (obtain ⟨m0, m1, m2, m3⟩ := T18.gb.cells4))
          | fail)
        go_wp2_with (first
          | (go_at_call 12; refine (heldTake_one U6.heap.size U6.heap.size ((m : Nat) : Int) _ _ p zs.length ts.length _ _ _ (by omega) (by omega) T18.ohg T18.org M1 M2 K2 HK2.out).mono ?_; rintro e w19 ⟨rfl, hb19⟩; (have T19 := T18.keep hb19))
          | fail)
        go_ret
        exact ⟨rfl, T19.bel⟩
end Go.Proofs.Yteceaadmgpjmcab.fnExactTakePart

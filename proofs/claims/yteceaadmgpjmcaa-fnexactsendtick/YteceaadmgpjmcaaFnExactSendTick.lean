/-
  THE LAW laws.FnExactSendTick: the walk over the contracts, and the row.
-/
import Derived.Test.YteceaadmgpjmcaaRows
import Derived.WalkKit
import Derived.ProofKit
import Derived.OpenShut
import Derived.ShutString
import Derived.ChangeOld
import Derived.Below
import Derived.Test.YteceaadmgpjmcaaLawS
import Derived.Test.YteceaadmgpjmcaaOpens
import Derived.Carry
namespace Go.Proofs.Yteceaadmgpjmcaa.fnExactSendTick
open Go.ChangeShapes Go.WideShapes Go.ChangeAt Go.RowKit
open Go.ChangeMaps (open_string shut_string)
set_option linter.unusedVariables false

theorem own : ownKnob Try.prog.godebug = none := by kernel_rfl

theorem laidOut : laidOutB Try.prog = true := by kernel_rfl
/-! ### THE WALK of the law -/
open Go.Proofs.Yteceaadmgpjmcaa.mk
theorem tickOf_ys (b : Int) (xs : List It) : (tickOf b xs).2.1.length ≤ xs.length ∧ (tickOf b xs).2.2.length ≤ 8 := by
  unfold tickOf
  split
  · exact ⟨by rw [tkn_length]; exact Nat.le_refl _, Nat.le_trans (snt_length _ _ _) (Nat.min_le_left _ _)⟩
  · simp
set_option maxRecDepth 100000 in
set_option maxHeartbeats 4000000 in
theorem walk (b : Int) (ao : Option Addr) (cap : Nat) (xs : List It) (w : World) (ha : Ai w ao xs) (hm : xs.length ≤ maxLen) (hs : ∀ i (h : i < xs.length), xs[i].text.size ≤ maxLen) :
    Calls Try.prog 8 #[.agg #[.int .i64 b, .slice ao xs.length cap]] w fun e w' => e = .returned (.bool true) ∧ Below w.heap.size w w' := by
  have b0 : Hid (Below w.heap.size w (w.alloc (.cells #[.int .i64 b, .slice ao xs.length cap] 47))) := (Below.refl _ _).alloc (Nat.le_refl _) _
  have X0 : Hid (Bx (w.alloc (.cells #[.int .i64 b, .slice ao xs.length cap] 47)) w.heap.size 47 #[.int .i64 b, .slice ao xs.length cap]) := Bx.new w _ _
  have HA : Hid (Ai w ao xs) := ha
  have HS : Hid (∀ i (h : i < xs.length), xs[i].text.size ≤ maxLen) := hs
  clear ha hs
  go_enter Try.func8, Try.ntmps8
  go_wp2_with (go_at_call 21; refine (szSend_any b ao cap xs _ _ (by omega) hm HS.out (HA.out.keep b0.out)).mono ?_; rintro e w1 ⟨⟨z, rfl, hz, hz1⟩, hb1⟩; (have A1 := X0.out.keep hb1); (obtain ⟨d0, d1⟩ := A1.cells))
  · go_ret
    exact ⟨rfl, kb b0.out hb1 (Nat.le_refl _)⟩
  have hz0 : 0 ≤ z := by omega
  obtain ⟨hz2, hl, hsz⟩ := hz hz0
  have HSZ : Hid (∀ i (h : i < xs.length), xs[i].text.size ≤ 1048576) := hsz
  have B1 := kb b0.out hb1 (Nat.le_refl _)
  clear hz hsz HS b0 X0 hb1
  obtain ⟨hyl, hzl⟩ := tickOf_ys b xs
  obtain ⟨B, ys, zs, hJ⟩ : ∃ B ys zs, tickOf b xs = (B, ys, zs) := ⟨_, _, _, rfl⟩
  rw [hJ] at hyl hzl
  dsimp only at hyl hzl
  have S1 : Hid (∀ (u : World) (g c : Nat), Rs u (some ⟨g, 0, none⟩) xs.length (is xs) → Calls Try.prog 30 #[.agg #[.int .i64 b, .slice (some ⟨g, 0, none⟩) xs.length c]] u fun e w' => (∃ a1 c1 a2 c2, e = .returned (.tuple #[.agg #[.int .i64 B, .slice a1 ys.length c1], .slice a2 zs.length c2]) ∧ w'.ownsRow u.heap.size 87 4 (.slice a1 ys.length c1) ys.length (is ys) ∧ w'.ownsRow u.heap.size 3 1 (.slice a2 zs.length c2) zs.length (ns zs)) ∧ Below u.heap.size u w') := fun u g c h => (specTick_any b g c xs u hl HSZ.out h).mono fun e w' hp => by unfold TickPost at hp; rw [hJ] at hp; exact hp
  have S2 : Hid (∀ (u : World) (g c : Nat), Rs u (some ⟨g, 0, none⟩) xs.length (is xs) → Calls Try.prog 31 #[.agg #[.int .i64 b, .slice (some ⟨g, 0, none⟩) xs.length c]] u fun e w' => (∃ a1 c1 a2 c2, e = .returned (.tuple #[.agg #[.int .i64 B, .slice a1 ys.length c1], .slice a2 zs.length c2]) ∧ w'.ownsRow u.heap.size 87 4 (.slice a1 ys.length c1) ys.length (is ys) ∧ w'.ownsRow u.heap.size 3 1 (.slice a2 zs.length c2) zs.length (ns zs)) ∧ Below u.heap.size u w') := fun u g c h => (implTick_any b (some ⟨g, 0, none⟩) c xs u hl HSZ.out h).mono fun e w' hp => by unfold TickPost at hp; rw [hJ] at hp; exact hp
  clear hJ
  have l1 := A1.lt
  go_wp2_with (first
    | (go_at_call 23; refine (toSend_any b ao cap xs _ hl (HA.out.keep B1)).mono ?_; rintro e w2 ⟨⟨g2, rfl, ho2⟩, hb2⟩)
    | (go_at_call 30; refine (S1.out _ _ _ (owns_rs ho2)).mono ?_; rintro e w3 ⟨⟨wa, wc, na, nc, rfl, hw3, hn3⟩, hb3⟩; (have B3 := kb (kb B1 hb2 (Nat.le_refl _)) hb3 (Nat.le_refl _)); (have A3 := (A1.keep hb2).keep hb3); (have l3 := A3.lt); (obtain ⟨e30, e31⟩ := A3.cells); clear d0 d1))
  have h23 : Hid (w.heap.size ≤ w2.heap.size) := Nat.le_trans B1.size hb2.size
  clear hb2 hb3 ho2
  go_wp2_with (first
    | (go_at_call 23; refine (toSend_any b ao cap xs _ hl (HA.out.keep (B3.alloc B3.size _))).mono ?_; rintro e w4 ⟨⟨g4, rfl, ho4⟩, hb4⟩)
    | (go_at_call 31; refine (S2.out _ _ _ (owns_rs (ho4.alloc _))).mono ?_; rintro e w5 ⟨⟨ga, gc, ma, mc, rfl, hw5, hn5⟩, hb5⟩; (have S := TS.start B3 A3 hw3 hn3 h23.out hb4 ho4 hb5 hw5 hn5); (have W5 := (((Bx.new w3 38 #[.int .i64 B, .slice wa ys.length wc]).keep hb4).alloc (.cells #[.int .i64 b, .slice (some ⟨g4, 0, none⟩) xs.length xs.length] 38)).keep hb5); (have l5 := W5.lt); (obtain ⟨f50, f51⟩ := W5.cells))
    | (go_at_call 25; refine (eqSend_same B _ _ _ _ ys _ (by omega) (owns_rs S.gi) (owns_rs S.wi)).mono ?_; rintro e w6 ⟨rfl, hb6⟩; (have T6 := S.keep hb6))
    | (go_at_call 32; refine (eqIntS_same _ _ _ _ zs _ (by omega) (owns_rs T6.gk) (owns_rs T6.wk)).mono ?_; rintro e w7 ⟨rfl, hb7⟩; (have T7 := T6.keep hb7); (obtain ⟨kA0, kA1, kW0, kW1, kX0, kX1, kG0, kG1⟩ := T7.cells)))
  clear f50 f51 e30 e31 hw3 hn3 ho4 hb4 hb5 hw5 hn5 hb6 hb7 W5 l5 S T6 A3 l3 A1 l1 B1 B3 h23 S1
  have lA := T7.arg.lt
  have lX := T7.xb.lt
  have HT : Hid (TS w w7 _ _ _ _ _ _ _ _ _ _ _ _ _ _ _ _ _ _ _ _ _ _) := T7
  go_region_held3 (fun w' => w'.cell? ⟨w.heap.size, 0, none⟩ = some (.int .i64 b) ∧ w'.cell? ⟨w.heap.size, 1, none⟩ = some (.slice ao xs.length cap) ∧ w'.cell? ⟨w4.heap.size, 0, none⟩ = some (.int .i64 b) ∧ w'.cell? ⟨w4.heap.size, 1, none⟩ = some (.slice (some ⟨g4, 0, none⟩) xs.length xs.length) ∧ Below w7.heap.size w7 w')
    (first | assumption | exact ⟨kA0, kA1, kX0, kX1, (Below.refl _ _).drew⟩ | (go_split_ands; refine ⟨kp (by assumption) (by assumption) hb8 lA, kp (by assumption) (by assumption) hb8 lA, kp (by assumption) (by assumption) hb8 lX, kp (by assumption) (by assumption) hb8 lX, kb (by assumption) hb8 (Nat.le_refl _)⟩))
    (first
      | (go_at_call 23; refine (toSend_any b ao cap xs _ hl (HA.out.keep (kb T7.bel (by go_split_ands; assumption) (Nat.le_refl _)))).mono ?_; rintro e w8 ⟨⟨g8, rfl, ho8⟩, hb8⟩)
      | (go_at_call 25; refine (eqSend_same b _ _ _ _ xs _ (by omega) (owns_rs (owns_keep T7.xi (by go_split_ands; assumption))) (owns_rs ho8)).mono ?_; rintro e w8 ⟨rfl, hb8⟩))
  have hbl : Below w7.heap.size w7 w8 := by go_split_ands; assumption
  have T9 := T7.keep hbl
  clear kA0 kA1 kW0 kW1 kX0 kX1 kG0 kG1 HT T7 ho8 hb8 hbl lA lX
  obtain ⟨kA0, kA1, kW0, kW1, kX0, kX1, kG0, kG1⟩ := T9.cells
  have b9 := T9.bel.size
  have c9 := T9.b1
  go_wp2_with (go_at_call 26; refine (markSend_one _ b _ _ _ _ (by omega) T9.xle T9.xi).mono ?_; rintro e w10 ⟨rfl, ⟨cs10, ho10, hM10⟩, hg10⟩; (have T10 := T9.markX hg10 ho10); clear kA0 kA1 kW0 kW1 kX0 kX1 kG0 kG1; (obtain ⟨kA0, kA1, kW0, kW1, kX0, kX1, kG0, kG1⟩ := T10.cells))
  clear ho10 hM10 hg10 T9
  go_wp2_with (first
    | (go_at_call 25; refine (eqSend_same B _ _ _ _ ys _ (by omega) (owns_rs T10.gi) (owns_rs T10.wi)).mono ?_; rintro e w11 ⟨rfl, hb11⟩; (have T11 := T10.keep hb11); clear kA0 kA1 kW0 kW1 kX0 kX1 kG0 kG1; (obtain ⟨kA0, kA1, kW0, kW1, kX0, kX1, kG0, kG1⟩ := T11.cells))
    | (go_at_call 32; refine (eqIntS_same _ _ _ _ zs _ (by omega) (owns_rs T11.gk) (owns_rs T11.wk)).mono ?_; rintro e w12 ⟨rfl, hb12⟩; (have T12 := T11.keep hb12); clear kA0 kA1 kW0 kW1 kX0 kX1 kG0 kG1; (obtain ⟨kA0, kA1, kW0, kW1, kX0, kX1, kG0, kG1⟩ := T12.cells)))
  clear hb11 hb12 T10 T11
  have HI : Hid (∀ (u : World) (cs : List Value), u.ownsRow (w4.alloc (.cells #[.int .i64 b, .slice (some ⟨g4, 0, none⟩) xs.length xs.length] 38)).heap.size 3 1 (.slice ma zs.length mc) zs.length cs → Calls Try.prog 33 #[.slice ma zs.length mc, .int .i64 ((1 + ys.length * 4 : Nat) : Int)] u fun e w' => e = .returned (.int .i64 ((1 + ys.length * 4 + zs.length : Nat) : Int)) ∧ (∃ cs', w'.ownsRow (w4.alloc (.cells #[.int .i64 b, .slice (some ⟨g4, 0, none⟩) xs.length xs.length] 38)).heap.size 3 1 (.slice ma zs.length mc) zs.length cs' ∧ Mn (1 + ys.length * 4) zs.length cs') ∧ u.grownBy w' (Value.slice ma zs.length mc).ownBlock) := fun u cs h => markIntS_any _ _ zs.length (1 + ys.length * 4) cs u (by omega) (by omega) h
  have HJ : Hid (∀ (u : World) (cs : List Value), u.ownsRow (w4.alloc (.cells #[.int .i64 b, .slice (some ⟨g4, 0, none⟩) xs.length xs.length] 38)).heap.size 3 1 (.slice ma zs.length mc) zs.length cs → Mn (1 + ys.length * 4) zs.length cs → Calls Try.prog 34 #[.slice ma zs.length mc, .int .i64 ((1 + ys.length * 4 : Nat) : Int)] u fun e w' => e = .returned (.int .i64 ((1 + ys.length * 4 + zs.length : Nat) : Int)) ∧ Below u.heap.size u w') := fun u cs h hM => heldIntS_any _ _ zs.length (1 + ys.length * 4) cs u (by omega) (by omega) h hM
  have HM1 : Hid (∀ (u : World) (cs : List Value), (w4.alloc (.cells #[.int .i64 b, .slice (some ⟨g4, 0, none⟩) xs.length xs.length] 38)).heap.size ≤ u.heap.size → u.ownsRow (w4.alloc (.cells #[.int .i64 b, .slice (some ⟨g4, 0, none⟩) xs.length xs.length] 38)).heap.size 87 4 (.slice ga ys.length gc) ys.length cs → Calls Try.prog 26 #[.agg #[.int .i64 B, .slice ga ys.length gc], .int .i64 1] u fun e w' => e = .returned (.int .i64 ((1 + ys.length * 4 : Nat) : Int)) ∧ (∃ cs', w'.ownsRow (w4.alloc (.cells #[.int .i64 b, .slice (some ⟨g4, 0, none⟩) xs.length xs.length] 38)).heap.size 87 4 (.slice ga ys.length gc) ys.length cs' ∧ Mi 1 ys.length cs') ∧ u.grownBy w' (Value.slice ga ys.length gc).ownBlock) := fun u cs hb h => markSend_one _ B _ _ cs u (by omega) hb h
  obtain ⟨P, hP⟩ : ∃ P : Nat, P = 1 + ys.length * 4 := ⟨_, rfl⟩
  have hPb : P ≤ 5000000 := by omega
  obtain ⟨Q, hQ⟩ : ∃ Q : Nat, Q = P + zs.length := ⟨_, rfl⟩
  have hQb : Q ≤ 6000000 := by omega
  have HH : Hid (∀ (u : World) (cs : List Value), u.ownsRow (w4.alloc (.cells #[.int .i64 b, .slice (some ⟨g4, 0, none⟩) xs.length xs.length] 38)).heap.size 87 4 (.slice ga ys.length gc) ys.length cs → Mi 1 ys.length cs → Calls Try.prog 27 #[.agg #[.int .i64 B, .slice ga ys.length gc], .int .i64 1] u fun e w' => e = .returned (.int .i64 ((1 + ys.length * 4 : Nat) : Int)) ∧ Below u.heap.size u w') := fun u cs h hM => heldSend_one _ B _ _ cs u (by omega) h hM
  rw [← hP, ← hQ] at HI HJ
  rw [← hP] at HM1 HH
  clear hP hQ
  have q12 := T12.gle
  go_wp2_with (first
    | (go_at_call 26; refine (HM1.out _ _ T12.gle T12.gi).mono ?_; rintro e w13 ⟨rfl, ⟨cs13, ho13, hM13⟩, hg13⟩; (have T13 := T12.markG hg13 ho13))
    | (go_at_call 33; refine (HI.out _ _ T13.gk).mono ?_; rintro e w14 ⟨rfl, ⟨cs14, ho14, hM14⟩, hg14⟩; (have T14 := T13.markN hg14 ho14); clear kA0 kA1 kW0 kW1 kX0 kX1 kG0 kG1; (obtain ⟨kA0, kA1, kW0, kW1, kX0, kX1, kG0, kG1⟩ := T14.cells))
    | (go_at_call 27; refine (HH.out _ _ T14.gi hM13).mono ?_; rintro e w15 ⟨rfl, hb15⟩; (have T15 := T14.keep hb15))
    | (go_at_call 34; refine (HJ.out _ _ T15.gk hM14).mono ?_; rintro e w16 ⟨rfl, hb16⟩; (have T16 := T15.keep hb16); clear kA0 kA1 kW0 kW1 kX0 kX1 kG0 kG1; (obtain ⟨kA0, kA1, kW0, kW1, kX0, kX1, kG0, kG1⟩ := T16.cells)))
  clear ho13 hg13 ho14 hg14 hb15 hb16 T12 T13 T14 T15 HM1 HI
  go_wp2_with (first
    | (go_at_call 23; refine (toSend_any b ao cap xs _ hl (HA.out.keep T16.bel)).mono ?_; rintro e w17 ⟨⟨g17, rfl, ho17⟩, hb17⟩; (have T17 := T16.keep hb17))
    | (go_at_call 31; refine (S2.out _ _ _ (owns_rs ho17)).mono ?_; rintro e w18 ⟨⟨ha, hc, hna, hnc, rfl, hw18, hn18⟩, hb18⟩; (have T18 := T17.keep hb18); clear kA0 kA1 kW0 kW1 kX0 kX1 kG0 kG1; (obtain ⟨kA0, kA1, kW0, kW1, kX0, kX1, kG0, kG1⟩ := T18.cells); (have lW := T18.wb.lt); (have lG := T18.gb.lt); (have T18a := T18.keep ((Below.refl _ _).alloc (Nat.le_refl _) (.cells #[.int .i64 B, .slice ha ys.length hc] 38))))
    | (go_at_call 25; refine (eqSend_same B _ _ _ _ ys _ (by omega) (owns_rs (hw18.alloc _)) (owns_rs T18a.wi)).mono ?_; rintro e w19 ⟨rfl, hb19⟩; (have T19 := T18a.keep hb19))
    | (go_at_call 32; refine (eqIntS_same _ _ _ _ zs _ (by omega) (owns_rs (owns_keep (hn18.alloc _) hb19)) (owns_rs T19.wk)).mono ?_; rintro e w20 ⟨rfl, hb20⟩; (have T20 := T19.keep hb20); clear kA0 kA1 kW0 kW1 kX0 kX1 kG0 kG1; (obtain ⟨kA0, kA1, kW0, kW1, kX0, kX1, kG0, kG1⟩ := T20.cells)))
  go_wp2_with (first
    | (go_at_call 27; refine (HH.out _ _ T20.gi hM13).mono ?_; rintro e w21 ⟨rfl, hb21⟩; (have T21 := T20.keep hb21))
    | (go_at_call 34; refine (HJ.out _ _ T21.gk hM14).mono ?_; rintro e w22 ⟨rfl, hb22⟩; (have T22 := T21.keep hb22)))
  go_ret
  exact ⟨rfl, T22.bel⟩

set_option maxRecDepth 100000 in
theorem lifted (os : Os) (started : os.Started) (H : Type) (enc : TypeId × Value → H) :
    ReturnsInHanded {} Try.checked os 8 .any (Rows.fnExactSendTickSpec.pre6 enc Try.prog Try.f8 Rows.fnExactSendTickRow.domain false) (Rows.fnExactSendTickSpec.post enc Try.prog Try.f8 false true false false) := by
  refine returnsInHanded_of_change (C := Try.checked) own started (by kernel_rfl) Try.func8
    (ChangeSpec.witness6 (enc := enc) (C := Try.checked) false ⟨#[], #[.agg #[.int .i64 0, .slice none 0 0]], []⟩ 8 (by kernel_rfl) (by kernel_rfl) (by kernel_rfl) (by kernel_rfl)) ?_
  intro W base args ds gs before hval0 hW hcnd _
  have hval : ∀ (j : Nat) t v, Try.f8.params[j]? = some t → args[j]? = some v → Value.okWide Try.prog W .any base t v := hval0
  have hW' := hW
  obtain ⟨p, q, hA0, hV, rfl, hfz, hnd⟩ := hW
  have hA : DataW.TrodAll enc Try.prog W 0 (fun _ => true) true Try.f8.params.toList args.toList ds p := hA0
  rw [Try.params8] at hA hval
  obtain ⟨v0, vs0, d0, ds0, p0, q0, hargs, rfl, rfl, h0, r0⟩ := trodAll_cons hA
  obtain ⟨rfl, rfl, rfl⟩ := trodAll_nil r0
  obtain rfl : args = #[v0] := by cases args; simp_all
  obtain ⟨rfl, rfl⟩ := trodVars_none hV
  have k0 := h0
  have lt0 : ∀ x ∈ p0, x.block < W.heap.size := by obtain ⟨m, hm⟩ := k0; exact DataW.trod_lt m _ _ _ hm
  obtain ⟨b, ao, cap, xs, rfl, hap, hlen, hsz⟩ := opened.send (hval 0 47 v0 rfl rfl) h0
  clear hA0 hval0
  simp only [List.append_nil] at hW'
  refine (walk b ao cap xs W hap hlen hsz).mono fun e W' ⟨he, bel⟩ => ?_
  subst he
  exact ⟨_, rfl, _, _, _, [], _, [], hW', trodAll_mk1 (shut_bool Try.underlying4 _), (trodAll_cons_mk (Below.trod laidOut (by kernel_rfl) (of_decide_eq_true (by kernel_rfl)) k0 bel lt0) trodAll_mk0), rfl, bel.frame _, fun h => by cases h⟩

theorem over : Rows.fnExactSendTickRow.holds Try.pinned (OpenSpec.ofChange Rows.fnExactSendTickSpec) :=
  OpenClaim.holds_of_wide 8 Try.f8 rfl rfl rfl rfl rfl rfl rfl ⟨rfl, rfl, rfl, rfl, rfl⟩ rfl rfl rfl rfl rfl (by kernel_rfl) Try.func8 (by kernel_rfl)
    (of_decide_eq_true (by kernel_rfl)) (by unfold Func.isWrapper; first | (rw [if_pos (by decide +kernel)]; kernel_rfl) | (rw [if_neg (by decide +kernel)]; exact ⟨rfl, rfl⟩))
    (fun os started H enc _ => lifted os started H enc)

theorem proved : Rows.FnExactSendTickSaid :=
  over
#print axioms proved
end Go.Proofs.Yteceaadmgpjmcaa.fnExactSendTick

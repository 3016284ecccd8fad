/-
  THE LAW laws.FnExactSendWord: the walk over the contracts, and the row.
-/
import Derived.Test.YteceaadmgpjmcaaRows
import Derived.WalkKit
import Derived.ProofKit
import Derived.OpenShut
import Derived.ShutString
import Derived.ChangeOld
import Derived.Below
import Derived.Test.YteceaadmgpjmcaaLawS
import Derived.Test.YteceaadmgpjmcaaWordH
import Derived.Test.YteceaadmgpjmcaaOpens
import Derived.Carry
namespace Go.Proofs.Yteceaadmgpjmcaa.fnExactSendWord
open Go.ChangeShapes Go.WideShapes Go.ChangeAt Go.RowKit
open Go.ChangeMaps (open_string shut_string)
set_option linter.unusedVariables false

theorem own : ownKnob Try.prog.godebug = none := by kernel_rfl

theorem laidOut : laidOutB Try.prog = true := by kernel_rfl
/-! ### THE WALK of the law -/
open Go.Proofs.Yteceaadmgpjmcaa.mk
theorem wordOf_ys (b : Int) (xs : List It) (next mask : Int) : (wordOf b xs next mask).2.length ≤ 60 := by
  cases hv : sdOk b xs
  · rw [wordOf_no hv]; simp
  · obtain ⟨n, rfl⟩ : ∃ n : Nat, b = (n : Int) := ⟨b.toNat, by have := (sdOk_of hv).1; unfold HdOk at this; omega⟩
    rw [wordOf_yes hv]
    have h1 := (heard_le n xs next mask).1
    have h2 : xs.length ≤ 60 := by have := (sdOk_of hv).1; unfold HdOk at this; omega
    exact Nat.le_trans h1 h2
set_option maxRecDepth 100000 in
set_option maxHeartbeats 4000000 in
theorem walk (b : Int) (ao : Option Addr) (cap : Nat) (xs : List It) (nxt msk : Int) (w : World) (ha : Ai w ao xs) (hm : xs.length ≤ maxLen) (hs : ∀ i (h : i < xs.length), xs[i].text.size ≤ maxLen) :
    Calls Try.prog 7 #[.agg #[.int .i64 b, .slice ao xs.length cap], .int .i64 nxt, .int .i64 msk] w fun e w' => e = .returned (.bool true) ∧ Below w.heap.size w w' := by
  have b0 : Hid (Below w.heap.size w (w.alloc (.cells #[.int .i64 b, .slice ao xs.length cap] 47))) := (Below.refl _ _).alloc (Nat.le_refl _) _
  have X0 : Hid (Bx (w.alloc (.cells #[.int .i64 b, .slice ao xs.length cap] 47)) w.heap.size 47 #[.int .i64 b, .slice ao xs.length cap]) := Bx.new w _ _
  have HA : Hid (Ai w ao xs) := ha
  have HS : Hid (∀ i (h : i < xs.length), xs[i].text.size ≤ maxLen) := hs
  clear ha hs
  go_enter Try.func7, Try.ntmps7
  go_wp2_with (go_at_call 21; refine (szSend_any b ao cap xs _ _ (by omega) hm HS.out (HA.out.keep b0.out)).mono ?_; rintro e w1 ⟨⟨z, rfl, hz, hz1⟩, hb1⟩; (have A1 := X0.out.keep hb1); (obtain ⟨d0, d1⟩ := A1.cells))
  · go_ret
    exact ⟨rfl, kb b0.out hb1 (Nat.le_refl _)⟩
  have hz0 : 0 ≤ z := by omega
  obtain ⟨hz2, hl, hsz⟩ := hz hz0
  have HSZ : Hid (∀ i (h : i < xs.length), xs[i].text.size ≤ 1048576) := hsz
  have B1 := kb b0.out hb1 (Nat.le_refl _)
  clear hz hsz HS b0 X0 hb1
  have hyl := wordOf_ys b xs nxt msk
  obtain ⟨B, ys, hJ⟩ : ∃ B ys, wordOf b xs nxt msk = (B, ys) := ⟨_, _, rfl⟩
  rw [hJ] at hyl
  dsimp only at hyl
  have S1 : Hid (∀ (u : World) (g c : Nat), Rs u (some ⟨g, 0, none⟩) xs.length (is xs) → Calls Try.prog 28 #[.agg #[.int .i64 b, .slice (some ⟨g, 0, none⟩) xs.length c], .int .i64 nxt, .int .i64 msk] u fun e w' => (∃ a1 c1, e = .returned (.agg #[.int .i64 B, .slice a1 ys.length c1]) ∧ w'.ownsRow u.heap.size 87 4 (.slice a1 ys.length c1) ys.length (is ys)) ∧ Below u.heap.size u w') := fun u g c h => (specWord_any b g c xs nxt msk u hl HSZ.out h).mono fun e w' hp => by unfold WordPost at hp; rw [hJ] at hp; exact hp
  have S2 : Hid (∀ (u : World) (g c : Nat), Rs u (some ⟨g, 0, none⟩) xs.length (is xs) → Calls Try.prog 29 #[.agg #[.int .i64 b, .slice (some ⟨g, 0, none⟩) xs.length c], .int .i64 nxt, .int .i64 msk] u fun e w' => (∃ a1 c1, e = .returned (.agg #[.int .i64 B, .slice a1 ys.length c1]) ∧ w'.ownsRow u.heap.size 87 4 (.slice a1 ys.length c1) ys.length (is ys)) ∧ Below u.heap.size u w') := fun u g c h => (implWord_any b (some ⟨g, 0, none⟩) c xs nxt msk u hl HSZ.out h).mono fun e w' hp => by unfold WordPost at hp; rw [hJ] at hp; exact hp
  clear hJ
  have l1 := A1.lt
  go_wp2_with (first
    | (go_at_call 23; refine (toSend_any b ao cap xs _ hl (HA.out.keep B1)).mono ?_; rintro e w2 ⟨⟨g2, rfl, ho2⟩, hb2⟩)
    | (go_at_call 28; refine (S1.out _ _ _ (owns_rs ho2)).mono ?_; rintro e w3 ⟨⟨wa, wc, rfl, hw3⟩, hb3⟩; (have B3 := kb (kb B1 hb2 (Nat.le_refl _)) hb3 (Nat.le_refl _)); (have A3 := (A1.keep hb2).keep hb3); (have l3 := A3.lt); (obtain ⟨e30, e31⟩ := A3.cells); clear d0 d1))
  have h23 : Hid (w.heap.size ≤ w2.heap.size) := Nat.le_trans B1.size hb2.size
  clear hb2 hb3 ho2
  go_wp2_with (first
    | (go_at_call 23; refine (toSend_any b ao cap xs _ hl (HA.out.keep (B3.alloc B3.size _))).mono ?_; rintro e w4 ⟨⟨g4, rfl, ho4⟩, hb4⟩)
    | (go_at_call 29; refine (S2.out _ _ _ (owns_rs (ho4.alloc _))).mono ?_; rintro e w5 ⟨⟨ga, gc, rfl, hw5⟩, hb5⟩; (have S := TS.start B3 A3 hw3 (World.ownsRow_nil w3 w2.heap.size 3 1) h23.out hb4 ho4 hb5 hw5 (World.ownsRow_nil w5 _ 3 1)); (have W5 := (((Bx.new w3 38 #[.int .i64 B, .slice wa ys.length wc]).keep hb4).alloc (.cells #[.int .i64 b, .slice (some ⟨g4, 0, none⟩) xs.length xs.length] 38)).keep hb5); (have l5 := W5.lt); (obtain ⟨f50, f51⟩ := W5.cells))
    | (go_at_call 25; refine (eqSend_same B _ _ _ _ ys _ (by omega) (owns_rs S.gi) (owns_rs S.wi)).mono ?_; rintro e w7 ⟨rfl, hb6⟩; (have T7 := S.keep hb6); (obtain ⟨kA0, kA1, kW0, kW1, kX0, kX1, kG0, kG1⟩ := T7.cells)))
  clear f50 f51 e30 e31 hw3 ho4 hb4 hb5 hw5 hb6 W5 l5 S A3 l3 A1 l1 B1 B3 h23 S1
  have lA := T7.arg.lt
  have lX := T7.xb.lt
  have HT : Hid (TS w w7 _ _ _ _ _ _ _ _ _ _ _ _ _ _ _ _ _ _ _ _ _ _) := T7
  go_region_held3 (fun w' => w'.cell? ⟨w.heap.size, 0, none⟩ = some (.int .i64 b) ∧ w'.cell? ⟨w.heap.size, 1, none⟩ = some (.slice ao xs.length cap) ∧ w'.cell? ⟨w4.heap.size, 0, none⟩ = some (.int .i64 b) ∧ w'.cell? ⟨w4.heap.size, 1, none⟩ = some (.slice (some ⟨g4, 0, none⟩) xs.length xs.length) ∧ Below w7.heap.size w7 w')
    (first | assumption | exact ⟨kA0, kA1, kX0, kX1, (Below.refl _ _).drew⟩ | (go_split_ands; refine ⟨kp (by assumption) (by assumption) hb8 lA, kp (by assumption) (by assumption) hb8 lA, kp (by assumption) (by assumption) hb8 lX, kp (by assumption) (by assumption) hb8 lX, kb (by assumption) hb8 (Nat.le_refl _)⟩))
    (first
      | (go_at_call 23; refine (toSend_any b ao cap xs _ hl (HA.out.keep (kb T7.bel (by go_split_ands; assumption) (Nat.le_refl _)))).mono ?_; rintro e w8 ⟨⟨g8, rfl, ho8⟩, hb8⟩)
      | (go_at_call 25; refine (eqSend_same b _ _ _ _ xs _ (by omega) (owns_rs (owns_keep T7.xi (by go_split_ands; assumption))) (owns_rs ho8)).mono ?_; rintro e w8 ⟨rfl, hb8⟩))
  have hbl : Below w7.heap.size w7 w8 := by go_split_ands; assumption
  have T9 := T7.keep hbl
  clear kA0 kA1 kW0 kW1 kX0 kX1 kG0 kG1 HT T7 ho8 hb8 hbl lA lX
  obtain ⟨kA0, kA1, kW0, kW1, kX0, kX1, kG0, kG1⟩ := T9.cells
  have b9 := T9.bel.size
  have c9 := T9.b1
  go_wp2_with (go_at_call 26; refine (markSend_one _ b _ _ _ _ (by omega) T9.xle T9.xi).mono ?_; rintro e w10 ⟨rfl, ⟨cs10, ho10, hM10⟩, hg10⟩; (have T10 := T9.markX hg10 ho10); clear kA0 kA1 kW0 kW1 kX0 kX1 kG0 kG1; (obtain ⟨kA0, kA1, kW0, kW1, kX0, kX1, kG0, kG1⟩ := T10.cells))
  clear ho10 hM10 hg10 T9
  go_wp2_with (first
    | (go_at_call 25; refine (eqSend_same B _ _ _ _ ys _ (by omega) (owns_rs T10.gi) (owns_rs T10.wi)).mono ?_; rintro e w12 ⟨rfl, hb11⟩; (have T12 := T10.keep hb11); clear kA0 kA1 kW0 kW1 kX0 kX1 kG0 kG1; (obtain ⟨kA0, kA1, kW0, kW1, kX0, kX1, kG0, kG1⟩ := T12.cells)))
  clear hb11 T10
  have HM1 : Hid (∀ (u : World) (cs : List Value), (w4.alloc (.cells #[.int .i64 b, .slice (some ⟨g4, 0, none⟩) xs.length xs.length] 38)).heap.size ≤ u.heap.size → u.ownsRow (w4.alloc (.cells #[.int .i64 b, .slice (some ⟨g4, 0, none⟩) xs.length xs.length] 38)).heap.size 87 4 (.slice ga ys.length gc) ys.length cs → Calls Try.prog 26 #[.agg #[.int .i64 B, .slice ga ys.length gc], .int .i64 1] u fun e w' => e = .returned (.int .i64 ((1 + ys.length * 4 : Nat) : Int)) ∧ (∃ cs', w'.ownsRow (w4.alloc (.cells #[.int .i64 b, .slice (some ⟨g4, 0, none⟩) xs.length xs.length] 38)).heap.size 87 4 (.slice ga ys.length gc) ys.length cs' ∧ Mi 1 ys.length cs') ∧ u.grownBy w' (Value.slice ga ys.length gc).ownBlock) := fun u cs hb h => markSend_one _ B _ _ cs u (by omega) hb h
  obtain ⟨P, hP⟩ : ∃ P : Nat, P = 1 + ys.length * 4 := ⟨_, rfl⟩
  have hPb : P ≤ 5000000 := by omega
  have HH : Hid (∀ (u : World) (cs : List Value), u.ownsRow (w4.alloc (.cells #[.int .i64 b, .slice (some ⟨g4, 0, none⟩) xs.length xs.length] 38)).heap.size 87 4 (.slice ga ys.length gc) ys.length cs → Mi 1 ys.length cs → Calls Try.prog 27 #[.agg #[.int .i64 B, .slice ga ys.length gc], .int .i64 1] u fun e w' => e = .returned (.int .i64 ((1 + ys.length * 4 : Nat) : Int)) ∧ Below u.heap.size u w') := fun u cs h hM => heldSend_one _ B _ _ cs u (by omega) h hM
  rw [← hP] at HM1 HH
  clear hP
  have q12 := T12.gle
  go_wp2_with (first
    | (go_at_call 26; refine (HM1.out _ _ T12.gle T12.gi).mono ?_; rintro e w13 ⟨rfl, ⟨cs13, ho13, hM13⟩, hg13⟩; (have T13 := T12.markG hg13 ho13); clear kA0 kA1 kW0 kW1 kX0 kX1 kG0 kG1; (obtain ⟨kA0, kA1, kW0, kW1, kX0, kX1, kG0, kG1⟩ := T13.cells))
    | (go_at_call 27; refine (HH.out _ _ T13.gi hM13).mono ?_; rintro e w16 ⟨rfl, hb15⟩; (have T16 := T13.keep hb15); clear kA0 kA1 kW0 kW1 kX0 kX1 kG0 kG1; (obtain ⟨kA0, kA1, kW0, kW1, kX0, kX1, kG0, kG1⟩ := T16.cells)))
  clear ho13 hg13 hb15 T12 T13 HM1
  go_wp2_with (first
    | (go_at_call 23; refine (toSend_any b ao cap xs _ hl (HA.out.keep T16.bel)).mono ?_; rintro e w17 ⟨⟨g17, rfl, ho17⟩, hb17⟩; (have T17 := T16.keep hb17))
    | (go_at_call 29; refine (S2.out _ _ _ (owns_rs ho17)).mono ?_; rintro e w18 ⟨⟨ha, hc, rfl, hw18⟩, hb18⟩; (have T18 := T17.keep hb18); clear kA0 kA1 kW0 kW1 kX0 kX1 kG0 kG1; (obtain ⟨kA0, kA1, kW0, kW1, kX0, kX1, kG0, kG1⟩ := T18.cells); (have lW := T18.wb.lt); (have lG := T18.gb.lt); (have T18a := T18.keep ((Below.refl _ _).alloc (Nat.le_refl _) (.cells #[.int .i64 B, .slice ha ys.length hc] 38))))
    | (go_at_call 25; refine (eqSend_same B _ _ _ _ ys _ (by omega) (owns_rs (hw18.alloc _)) (owns_rs T18a.wi)).mono ?_; rintro e w20 ⟨rfl, hb19⟩; (have T20 := T18a.keep hb19); clear kA0 kA1 kW0 kW1 kX0 kX1 kG0 kG1; (obtain ⟨kA0, kA1, kW0, kW1, kX0, kX1, kG0, kG1⟩ := T20.cells)))
  go_wp2_with (first
    | (go_at_call 27; refine (HH.out _ _ T20.gi hM13).mono ?_; rintro e w22 ⟨rfl, hb21⟩; (have T22 := T20.keep hb21)))
  go_ret
  exact ⟨rfl, T22.bel⟩
set_option maxRecDepth 100000 in
theorem lifted (os : Os) (started : os.Started) (H : Type) (enc : TypeId × Value → H) :
    ReturnsInHanded {} Try.checked os 7 .any (Rows.fnExactSendWordSpec.pre6 enc Try.prog Try.f7 Rows.fnExactSendWordRow.domain false) (Rows.fnExactSendWordSpec.post enc Try.prog Try.f7 false true false false) := by
  refine returnsInHanded_of_change (C := Try.checked) own started (by kernel_rfl) Try.func7
    (ChangeSpec.witness6 (enc := enc) (C := Try.checked) false ⟨#[], #[.agg #[.int .i64 0, .slice none 0 0], .int .i64 0, .int .i64 0], []⟩ 8 (by kernel_rfl) (by kernel_rfl) (by kernel_rfl) (by kernel_rfl)) ?_
  intro W base args ds gs before hval0 hW hcnd _
  have hval : ∀ (j : Nat) t v, Try.f7.params[j]? = some t → args[j]? = some v → Value.okWide Try.prog W .any base t v := hval0
  have hW' := hW
  obtain ⟨p, q, hA0, hV, rfl, hfz, hnd⟩ := hW
  have hA : DataW.TrodAll enc Try.prog W 0 (fun _ => true) true Try.f7.params.toList args.toList ds p := hA0
  rw [Try.params7] at hA hval
  obtain ⟨v0, vs0, d0, ds0, p0, q0, hargs, rfl, rfl, h0, r0⟩ := trodAll_cons hA
  obtain ⟨v1, vs1, d1, ds1, p1, q1, hargs1, rfl, rfl, h1, r1⟩ := trodAll_cons r0
  obtain ⟨v2, vs2, d2, ds2, p2, q2, hargs2, rfl, rfl, h2, r2⟩ := trodAll_cons r1
  obtain ⟨rfl, rfl, rfl⟩ := trodAll_nil r2
  obtain rfl : args = #[v0, v1, v2] := by cases args; simp_all
  obtain ⟨rfl, rfl⟩ := trodVars_none hV
  have k0 := h0
  have lt0 : ∀ x ∈ p0, x.block < W.heap.size := by obtain ⟨m, hm⟩ := k0; exact DataW.trod_lt m _ _ _ hm
  obtain ⟨b, ao, cap, xs, rfl, hap, hlen, hsz⟩ := opened.send (hval 0 47 v0 rfl rfl) h0
  obtain ⟨nxt, rfl, rfl, rfl, w1⟩ := open_int Try.underlying3 (hval 1 3 v1 rfl rfl) h1
  obtain ⟨msk, rfl, rfl, rfl, w2⟩ := open_int Try.underlying3 (hval 2 3 v2 rfl rfl) h2
  clear hA0 hval0
  simp only [List.append_nil] at hW'
  refine (walk b ao cap xs nxt msk W hap hlen hsz).mono fun e W' ⟨he, bel⟩ => ?_
  subst he
  exact ⟨_, rfl, _, _, _, [], _, [], hW', trodAll_mk1 (shut_bool Try.underlying4 _), (trodAll_cons_mk (Below.trod laidOut (by kernel_rfl) (of_decide_eq_true (by kernel_rfl)) k0 bel lt0) (trodAll_cons_mk (shut_int Try.underlying3 w1) (trodAll_cons_mk (shut_int Try.underlying3 w2) trodAll_mk0))), rfl, bel.frame _, fun h => by cases h⟩

theorem over : Rows.fnExactSendWordRow.holds Try.pinned (OpenSpec.ofChange Rows.fnExactSendWordSpec) :=
  OpenClaim.holds_of_wide 7 Try.f7 rfl rfl rfl rfl rfl rfl rfl ⟨rfl, rfl, rfl, rfl, rfl⟩ rfl rfl rfl rfl rfl (by kernel_rfl) Try.func7 (by kernel_rfl)
    (of_decide_eq_true (by kernel_rfl)) (by unfold Func.isWrapper; first | (rw [if_pos (by decide +kernel)]; kernel_rfl) | (rw [if_neg (by decide +kernel)]; exact ⟨rfl, rfl⟩))
    (fun os started H enc _ => lifted os started H enc)

theorem proved : Rows.FnExactSendWordSaid :=
  over
#print axioms proved
end Go.Proofs.Yteceaadmgpjmcaa.fnExactSendWord

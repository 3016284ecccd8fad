/-
  THE LAW laws.FnExactNewWorld: the walk over the contracts, and the row.
-/
import Derived.Test.YtmliinglojmojaaRows
import Derived.WalkKit
import Derived.ProofKit
import Derived.OpenShut
import Derived.ShutString
import Derived.ChangeOld
import Derived.Below
import Derived.Test.YtmliinglojmojaaNwC
import Derived.Carry
namespace Go.Proofs.Ytmliinglojmojaa.fnExactNewWorld
open Go.ChangeShapes Go.WideShapes Go.ChangeAt Go.RowKit
open Go.ChangeMaps (open_string shut_string)
set_option linter.unusedVariables false

theorem own : ownKnob Try.prog.godebug = none := by kernel_rfl

theorem laidOut : laidOutB Try.prog = true := by kernel_rfl
theorem cells7 {u : World} {B : Nat} {t : TypeId} {c0 c1 c2 c3 c4 c5 c6 : Value} (h : mk.Bx u B t #[c0, c1, c2, c3, c4, c5, c6]) : u.cell? ⟨B, 0, none⟩ = some c0 ∧ u.cell? ⟨B, 1, none⟩ = some c1 ∧ u.cell? ⟨B, 2, none⟩ = some c2 ∧ u.cell? ⟨B, 3, none⟩ = some c3 ∧ u.cell? ⟨B, 4, none⟩ = some c4 ∧ u.cell? ⟨B, 5, none⟩ = some c5 ∧ u.cell? ⟨B, 6, none⟩ = some c6 := ⟨h.cell 0, h.cell 1, h.cell 2, h.cell 3, h.cell 4, h.cell 5, h.cell 6⟩
theorem _root_.Go.Proofs.Ytmliinglojmojaa.mk.Bx.bet {u u' : World} {B lo hi : Nat} {t : TypeId} {cs : Array Value} (h : mk.Bx u B t cs) (hb : mk.Bet lo hi u u') (ho : B < lo ∨ hi ≤ B) : mk.Bx u' B t cs := (hb.block B h.lt ho).trans h
/-! ### THE WALK of the law -/
set_option maxHeartbeats 4000000 in
theorem walkE (key : ByteArray) (width : Int) (K : ByteArray) (W : Int) (es : List mk.Ev) (w : World) (hz : key.size ≤ 1048576) (hk : K.size ≤ 2000000) (hN : mk.NewW es)
    (s1 : ∀ u : World, Calls Try.prog 9 #[.string key, .int .i64 width] u fun e w' => mk.newPost (K, W, es) u e w') (s2 : ∀ u : World, Calls Try.prog 10 #[.string key, .int .i64 width] u fun e w' => mk.newPost (K, W, es) u e w') :
    Calls Try.prog 3 #[.string key, .int .i64 width] w fun e w' => e = .returned (.bool true) ∧ Below w.heap.size w w' := by
  have S1 : Hid (∀ u : World, Calls Try.prog 9 #[.string key, .int .i64 width] u fun e w' => mk.newPost (K, W, es) u e w') := s1
  have S2 : Hid (∀ u : World, Calls Try.prog 10 #[.string key, .int .i64 width] u fun e w' => mk.newPost (K, W, es) u e w') := s2
  have HN : Hid (mk.NewW es) := hN
  have hes := hN.len
  clear s1 s2 hN
  go_enter Try.func3, Try.ntmps3
  go_wp2_with (first
    | (go_at_call 9; refine (S1.out _).mono ?_; rintro e w1 ⟨⟨wa, wc, rfl, pw⟩, hb1⟩; dsimp only at pw)
    | (go_at_call 10; refine (S2.out _).mono ?_; rintro e w2 ⟨⟨ga, gc, rfl, pg⟩, hb2⟩; dsimp only at pg; (have W2 := (mk.Bx.new w1 26 #[.string K, .int .i64 W, .slice wa es.length wc, .slice none 0 0, .string ⟨#[]⟩, .slice none 0 0, .slice none 0 0]).keep hb2); (have lw2 := W2.lt); (obtain ⟨v0, v1, v2, v3, v4, v5, v6⟩ := cells7 W2))
    | (go_at_call 11; refine (mk.eqWorld_new K W es _ _ _ _ _ hk HN.out (mk.owns_rs (pg.alloc _)) (mk.owns_rs (mk.owns_keep (pw.alloc _) hb2 |>.alloc _))).mono ?_; rintro e w3 ⟨rfl, hb3⟩; (have G3 := (mk.Bx.new w2 26 #[.string K, .int .i64 W, .slice ga es.length gc, .slice none 0 0, .string ⟨#[]⟩, .slice none 0 0, .slice none 0 0]).keep hb3); (have W3 := (W2.alloc (.cells #[.string K, .int .i64 W, .slice ga es.length gc, .slice none 0 0, .string ⟨#[]⟩, .slice none 0 0, .slice none 0 0] 26)).keep hb3); clear v0 v1 v2 v3 v4 v5 v6; (obtain ⟨v0, v1, v2, v3, v4, v5, v6⟩ := cells7 W3); (obtain ⟨m0, m1, m2, m3, m4, m5, m6⟩ := cells7 G3))
    | fail)
  have B2 := mk.kb (hb1.alloc hb1.size (.cells #[.string K, .int .i64 W, .slice wa es.length wc, .slice none 0 0, .string ⟨#[]⟩, .slice none 0 0, .slice none 0 0] 26)) hb2 (Nat.le_refl _)
  have B3 := mk.kb (B2.alloc B2.size (.cells #[.string K, .int .i64 W, .slice ga es.length gc, .slice none 0 0, .string ⟨#[]⟩, .slice none 0 0, .slice none 0 0] 26)) hb3 (Nat.le_refl _)
  have PW : mk.Rw w1 w.heap.size w1.heap.size 49 12 (.slice wa es.length wc) es.length (mk.evs es) := mk.Rw.of pw
  have PG : mk.Rw w2 (w1.heap.size + 1) w2.heap.size 49 12 (.slice ga es.length gc) es.length (mk.evs es) := (by have := mk.Rw.of pg; rw [World.size_alloc] at this; exact this : mk.Rw w2 (w1.heap.size + 1) w2.heap.size 49 12 (.slice ga es.length gc) es.length (mk.evs es))
  have QW : Hid (mk.Rw w3 w.heap.size w1.heap.size 49 12 (.slice wa es.length wc) es.length (mk.evs es)) := ((((PW.keep ((Below.refl _ _).alloc (Nat.le_refl _) (.cells #[.string K, .int .i64 W, .slice wa es.length wc, .slice none 0 0, .string ⟨#[]⟩, .slice none 0 0, .slice none 0 0] 26))).keep hb2).keep ((Below.refl _ _).alloc (Nat.le_refl _) (.cells #[.string K, .int .i64 W, .slice ga es.length gc, .slice none 0 0, .string ⟨#[]⟩, .slice none 0 0, .slice none 0 0] 26))).keep hb3)
  have QG : Hid (mk.Rw w3 (w1.heap.size + 1) w2.heap.size 49 12 (.slice ga es.length gc) es.length (mk.evs es)) := ((PG.keep ((Below.refl _ _).alloc (Nat.le_refl _) (.cells #[.string K, .int .i64 W, .slice ga es.length gc, .slice none 0 0, .string ⟨#[]⟩, .slice none 0 0, .slice none 0 0] 26))).keep hb3)
  have z1 := hb1.size
  have z2 := hb2.size
  have z3 := hb3.size
  simp only [World.size_alloc] at z2 z3
  clear pw pg PW PG hb1 hb2 hb3 B2 W2
  obtain ⟨M, hM⟩ : ∃ M : Nat, M = 1 + es.length * 9 := ⟨_, rfl⟩
  have HM1 : Hid (M = 1 + es.length * 9) := hM
  have hM0 : (0 : Int) ≤ (M : Int) := Int.natCast_nonneg M
  clear hM
  go_wp2_with (first
    | (go_at_call 12; refine (mk.markWorld_nil (w1.heap.size + 1) es.length K W _ _ w3 (by omega) QG.out.own HN.out.nil M HM1.out).mono ?_; rintro e w4 ⟨rfl, ⟨cs, oG, hMe⟩, hg4⟩; (have T4 : mk.Bet (w1.heap.size + 1) w2.heap.size w3 w4 := mk.Bet.of_grown hg4 (fun r e => ⟨(QG.out.own.lt r e).1, QG.out.lt r e⟩)); (have W4 := W3.bet T4 (by omega)); (have G4 := G3.bet T4 (by omega)); clear v0 v1 v2 v3 v4 v5 v6 m0 m1 m2 m3 m4 m5 m6; (obtain ⟨v0, v1, v2, v3, v4, v5, v6⟩ := cells7 W4); (obtain ⟨m0, m1, m2, m3, m4, m5, m6⟩ := cells7 G4))
    | fail)
  have B4 := B3.trans (T4.below (B := w.heap.size) (by omega) (by omega))
  have QW4 : Hid _ := QW.out.bet T4 (by omega)
  have QG4 : Hid (w4.ownsRow (w1.heap.size + 1) 49 12 (.slice ga es.length gc) es.length cs) := oG
  have HMe : Hid (mk.Me 1 es.length cs) := hMe
  have z4 := T4.size
  clear T4 hg4 oG hMe QW QG B3 W3 G3
  go_wp2_with (first
    | (go_at_call 13; refine (mk.heldWorld_nil (w1.heap.size + 1) es.length K W _ _ w4 (by omega) QG4.out HMe.out M HM1.out).mono ?_; rintro e w5 ⟨rfl, hb5⟩; (have W5 := W4.keep hb5); (have G5 := G4.keep hb5); clear v0 v1 v2 v3 v4 v5 v6 m0 m1 m2 m3 m4 m5 m6; (obtain ⟨v0, v1, v2, v3, v4, v5, v6⟩ := cells7 W5); (obtain ⟨m0, m1, m2, m3, m4, m5, m6⟩ := cells7 G5))
    | fail)
  have B5 := mk.kb B4 hb5 (Nat.le_refl _)
  have QW5 : Hid _ := QW4.out.keep hb5
  have QG5 : Hid (w5.ownsRow (w1.heap.size + 1) 49 12 (.slice ga es.length gc) es.length cs) := mk.owns_keep QG4.out hb5
  clear QW4 QG4 hb5 B4 W4 G4
  go_wp2_with (first
    | (go_at_call 10; refine (S2.out _).mono ?_; rintro e w6 ⟨⟨ha, hc, rfl, ph⟩, hb6⟩; dsimp only at ph; (have W6 := W5.keep hb6); (have G6 := G5.keep hb6); (have lw6 := W6.lt); (have lg6 := G6.lt); clear v0 v1 v2 v3 v4 v5 v6 m0 m1 m2 m3 m4 m5 m6; (obtain ⟨v0, v1, v2, v3, v4, v5, v6⟩ := cells7 W6); (obtain ⟨m0, m1, m2, m3, m4, m5, m6⟩ := cells7 G6))
    | (go_at_call 11; refine (mk.eqWorld_new K W es _ _ _ _ _ hk HN.out (mk.owns_rs (ph.alloc _)) (mk.owns_rs (mk.owns_keep QW5.out.own hb6 |>.alloc _))).mono ?_; rintro e w7 ⟨rfl, hb7⟩; (have G7 := (G6.alloc (.cells #[.string K, .int .i64 W, .slice ha es.length hc, .slice none 0 0, .string ⟨#[]⟩, .slice none 0 0, .slice none 0 0] 26)).keep hb7); clear v0 v1 v2 v3 v4 v5 v6 m0 m1 m2 m3 m4 m5 m6; (obtain ⟨m0, m1, m2, m3, m4, m5, m6⟩ := cells7 G7))
    | fail)
  have B6 := mk.kb B5 hb6 (Nat.le_refl _)
  have B7 := mk.kb (B6.alloc B6.size (.cells #[.string K, .int .i64 W, .slice ha es.length hc, .slice none 0 0, .string ⟨#[]⟩, .slice none 0 0, .slice none 0 0] 26)) hb7 (Nat.le_refl _)
  have QG7 : Hid (w7.ownsRow (w1.heap.size + 1) 49 12 (.slice ga es.length gc) es.length cs) := mk.owns_keep ((mk.owns_keep QG5.out hb6).alloc (.cells #[.string K, .int .i64 W, .slice ha es.length hc, .slice none 0 0, .string ⟨#[]⟩, .slice none 0 0, .slice none 0 0] 26)) hb7
  clear QG5 QW5 hb6 hb7 B5 B6 ph
  go_wp2_with (first
    | (go_at_call 13; refine (mk.heldWorld_nil (w1.heap.size + 1) es.length K W _ _ w7 (by omega) QG7.out HMe.out M HM1.out).mono ?_; rintro e w8 ⟨rfl, hb8⟩)
    | fail)
  go_ret
  exact ⟨rfl, mk.kb B7 hb8 (Nat.le_refl _)⟩
theorem walk (key : ByteArray) (width : Int) (w : World) (hz : key.size ≤ maxLen) :
    Calls Try.prog 3 #[.string key, .int .i64 width] w fun e w' => e = .returned (.bool true) ∧ Below w.heap.size w w' := by
  by_cases h : key.size ≤ 1048576
  · refine walkE key width (mk.newOf key width).1 (mk.newOf key width).2.1 (mk.newOf key width).2.2 w h ?_ (mk.newOf_is key width) (fun u => mk.specNewWorld_any key width u h) (fun u => mk.implNewWorld_any key width u h)
    unfold mk.newOf
    split
    · show key.size ≤ 2000000
      omega
    · exact Nat.zero_le _
  · have hz' : (key.size : Int) ≤ 9223372036854775807 := by unfold maxLen at hz; omega
    go_enter Try.func3, Try.ntmps3
    go_wp2
    go_ret
    exact ⟨rfl, Below.refl _ _⟩

set_option maxRecDepth 100000 in
theorem lifted (os : Os) (started : os.Started) (H : Type) (enc : TypeId × Value → H) :
    ReturnsInHanded {} Try.checked os 3 .any (Rows.fnExactNewWorldSpec.pre6 enc Try.prog Try.f3 Rows.fnExactNewWorldRow.domain false) (Rows.fnExactNewWorldSpec.post enc Try.prog Try.f3 false true false false) := by
  refine returnsInHanded_of_change (C := Try.checked) own started (by kernel_rfl) Try.func3
    (ChangeSpec.witness6 (enc := enc) (C := Try.checked) false ⟨#[], #[.string ByteArray.empty, .int .i64 0], []⟩ 8 (by kernel_rfl) (by kernel_rfl) (by kernel_rfl) (by kernel_rfl)) ?_
  intro W base args ds gs before hval0 hW hcnd _
  have hval : ∀ (j : Nat) t v, Try.f3.params[j]? = some t → args[j]? = some v → Value.okWide Try.prog W .any base t v := hval0
  have hW' := hW
  obtain ⟨p, q, hA0, hV, rfl, hfz, hnd⟩ := hW
  have hA : DataW.TrodAll enc Try.prog W 0 (fun _ => true) true Try.f3.params.toList args.toList ds p := hA0
  rw [Try.params3] at hA hval
  obtain ⟨v0, vs0, d0, ds0, p0, q0, hargs, rfl, rfl, h0, r0⟩ := trodAll_cons hA
  obtain ⟨v1, vs1, d1, ds1, p1, q1, hargs1, rfl, rfl, h1, r1⟩ := trodAll_cons r0
  obtain ⟨rfl, rfl, rfl⟩ := trodAll_nil r1
  obtain rfl : args = #[v0, v1] := by cases args; simp_all
  obtain ⟨rfl, rfl⟩ := trodVars_none hV
  obtain ⟨s, rfl, rfl, rfl, hs⟩ := open_string Try.underlying9 (hval 0 9 v0 rfl rfl) h0
  obtain ⟨z, rfl, rfl, rfl, w1⟩ := open_int Try.underlying3 (hval 1 3 v1 rfl rfl) h1
  clear hA0 hval0
  simp only [List.append_nil] at hW'
  refine (walk s z W hs).mono fun e W' ⟨he, bel⟩ => ?_
  subst he
  exact ⟨_, rfl, _, _, _, [], [], [], hW', trodAll_mk1 (shut_bool Try.underlying4 _), (trodAll_cons_mk (shut_string Try.underlying9 hs) (trodAll_cons_mk (shut_int Try.underlying3 w1) trodAll_mk0)), rfl, bel.frame _, fun h => by cases h⟩

theorem over : Rows.fnExactNewWorldRow.holds Try.pinned (OpenSpec.ofChange Rows.fnExactNewWorldSpec) :=
  OpenClaim.holds_of_wide 3 Try.f3 rfl rfl rfl rfl rfl rfl rfl ⟨rfl, rfl, rfl, rfl, rfl⟩ rfl rfl rfl rfl rfl (by kernel_rfl) Try.func3 (by kernel_rfl)
    (of_decide_eq_true (by kernel_rfl)) (by unfold Func.isWrapper; first | (rw [if_pos (by decide +kernel)]; kernel_rfl) | (rw [if_neg (by decide +kernel)]; exact ⟨rfl, rfl⟩))
    (fun os started H enc _ => lifted os started H enc)

theorem proved : Rows.FnExactNewWorldSaid :=
  over
#print axioms proved
end Go.Proofs.Ytmliinglojmojaa.fnExactNewWorld

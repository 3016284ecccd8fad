/-
  THE LAW laws.FnExactNewEnd: the two functions, the walk over the contracts, and the row.
-/
import Derived.Test.YteceaadmgpjmcaaRows
import Derived.WalkKit
import Derived.ProofKit
import Derived.OpenShut
import Derived.ShutString
import Derived.ChangeOld
import Derived.Below
import Derived.Test.YteceaadmgpjmcaaBase
import Derived.Test.YteceaadmgpjmcaaNilM
import Derived.Test.YteceaadmgpjmcaaValA
import Derived.Carry
namespace Go.Proofs.Yteceaadmgpjmcaa.fnExactNewEnd
open Go.ChangeShapes Go.WideShapes Go.ChangeAt Go.RowKit
open Go.ChangeMaps (open_string shut_string)
set_option linter.unusedVariables false

theorem own : ownKnob Try.prog.godebug = none := by kernel_rfl

theorem laidOut : laidOutB Try.prog = true := by kernel_rfl
theorem isEnd_yes (n : Int) (w : World) (h : n = 1 ∨ n = 2) : Calls Try.prog 48 #[.int .i64 n] w fun e w' => e = .returned (.bool true) ∧ w = w' := by
  rcases h with rfl | rfl
  · go_enter Try.func48, Try.ntmps48
    go_wp2
    go_ret
    exact ⟨rfl, rfl⟩
  · go_enter Try.func48, Try.ntmps48
    go_wp2
    go_ret
    exact ⟨rfl, rfl⟩
theorem isEnd_no (n : Int) (w : World) (h1 : ¬ n = 1) (h2 : ¬ n = 2) : Calls Try.prog 48 #[.int .i64 n] w fun e w' => e = .returned (.bool false) ∧ w = w' := by
  go_enter Try.func48, Try.ntmps48
  go_wp2
  go_ret
  exact ⟨mk.ret_b (by simp [h1, h2]), rfl⟩
theorem specNew_yes (n : Int) (w : World) (h : n = 1 ∨ n = 2) : Calls Try.prog 16 #[.int .i64 n] w fun e w' => e = .returned (.agg #[.int .i64 n, .bool true, .int .i64 1, .int .i64 0, .int .i64 0, .bool false, .int .i64 0, .slice none 0 0, .int .i64 0, .slice none 0 0, .string ⟨#[]⟩, .slice none 0 0]) ∧ Below w.heap.size w w' := by
  have HH : Hid (n = 1 ∨ n = 2) := h
  have HC : Hid (∀ u : World, Calls Try.prog 37 #[.int .i64 n, .int .i64 1, .int .i64 2] u fun e w' => e = .returned (.bool true) ∧ u = w') := fun u => mk.l1In_true n 1 2 u (by omega) (by omega)
  clear h HH
  go_enter Try.func16, Try.ntmps16
  go_wp2_with (go_at_call 37; refine (HC.out _).mono ?_; rintro e w1 ⟨rfl, rfl⟩)
  exact bodyPost_ret (v := .agg #[.int .i64 n, .bool true, .int .i64 1, .int .i64 0, .int .i64 0, .bool false, .int .i64 0, .slice none 0 0, .int .i64 0, .slice none 0 0, .string ⟨#[]⟩, .slice none 0 0]) (by simp [results, Try.results16, go_sem]) rfl ⟨rfl, (Below.refl _ _).alloc (Nat.le_refl _) _⟩
theorem specNew_no (n : Int) (w : World) (h : ¬ (n = 1 ∨ n = 2)) : Calls Try.prog 16 #[.int .i64 n] w fun e w' => e = .returned (.agg #[.int .i64 0, .bool false, .int .i64 0, .int .i64 0, .int .i64 0, .bool false, .int .i64 0, .slice none 0 0, .int .i64 0, .slice none 0 0, .string ⟨#[]⟩, .slice none 0 0]) ∧ Below w.heap.size w w' := by
  have HC : Hid (∀ u : World, Calls Try.prog 37 #[.int .i64 n, .int .i64 1, .int .i64 2] u fun e w' => e = .returned (.bool false) ∧ u = w') := fun u => mk.l1In_false n 1 2 u (by omega)
  clear h
  go_enter Try.func16, Try.ntmps16
  go_wp2_with (go_at_call 37; refine (HC.out _).mono ?_; rintro e w1 ⟨rfl, rfl⟩)
  exact bodyPost_ret (v := .agg #[.int .i64 0, .bool false, .int .i64 0, .int .i64 0, .int .i64 0, .bool false, .int .i64 0, .slice none 0 0, .int .i64 0, .slice none 0 0, .string ⟨#[]⟩, .slice none 0 0]) (by simp [results, Try.results16, go_sem]) rfl ⟨rfl, (Below.refl _ _).alloc (Nat.le_refl _) _⟩
theorem implNew_yes (n : Int) (w : World) (h : n = 1 ∨ n = 2) : Calls Try.prog 17 #[.int .i64 n] w fun e w' => e = .returned (.agg #[.int .i64 n, .bool true, .int .i64 1, .int .i64 0, .int .i64 0, .bool false, .int .i64 0, .slice none 0 0, .int .i64 0, .slice none 0 0, .string ⟨#[]⟩, .slice none 0 0]) ∧ Below w.heap.size w w' := by
  have HH : Hid (n = 1 ∨ n = 2) := h
  have HC : Hid (∀ u : World, Calls Try.prog 48 #[.int .i64 n] u fun e w' => e = .returned (.bool true) ∧ u = w') := fun u => isEnd_yes n u h
  clear h HH
  go_enter Try.func17, Try.ntmps17
  go_wp2_with (go_at_call 48; refine (HC.out _).mono ?_; rintro e w1 ⟨rfl, rfl⟩)
  exact bodyPost_ret (v := .agg #[.int .i64 n, .bool true, .int .i64 1, .int .i64 0, .int .i64 0, .bool false, .int .i64 0, .slice none 0 0, .int .i64 0, .slice none 0 0, .string ⟨#[]⟩, .slice none 0 0]) (by simp [results, Try.results17, go_sem]) rfl ⟨rfl, (Below.refl _ _).alloc (Nat.le_refl _) _⟩
theorem implNew_no (n : Int) (w : World) (h : ¬ (n = 1 ∨ n = 2)) : Calls Try.prog 17 #[.int .i64 n] w fun e w' => e = .returned (.agg #[.int .i64 0, .bool false, .int .i64 0, .int .i64 0, .int .i64 0, .bool false, .int .i64 0, .slice none 0 0, .int .i64 0, .slice none 0 0, .string ⟨#[]⟩, .slice none 0 0]) ∧ Below w.heap.size w w' := by
  have HC : Hid (∀ u : World, Calls Try.prog 48 #[.int .i64 n] u fun e w' => e = .returned (.bool false) ∧ u = w') := fun u => isEnd_no n u (by omega) (by omega)
  clear h
  go_enter Try.func17, Try.ntmps17
  go_wp2_with (go_at_call 48; refine (HC.out _).mono ?_; rintro e w1 ⟨rfl, rfl⟩)
  exact bodyPost_ret (v := .agg #[.int .i64 0, .bool false, .int .i64 0, .int .i64 0, .int .i64 0, .bool false, .int .i64 0, .slice none 0 0, .int .i64 0, .slice none 0 0, .string ⟨#[]⟩, .slice none 0 0]) (by simp [results, Try.results17, go_sem]) rfl ⟨rfl, (Below.refl _ _).alloc (Nat.le_refl _) _⟩
/-! ### THE WALK of the law -/
set_option maxHeartbeats 2000000 in
theorem walkV (n num life : Int) (up : Bool) (w : World) (hs0 : ∀ u : World, Calls Try.prog 16 #[.int .i64 n] u fun e w' => e = .returned (.agg #[.int .i64 num, .bool up, .int .i64 life, .int .i64 0, .int .i64 0, .bool false, .int .i64 0, .slice none 0 0, .int .i64 0, .slice none 0 0, .string ⟨#[]⟩, .slice none 0 0]) ∧ Below u.heap.size u w') (hi0 : ∀ u : World, Calls Try.prog 17 #[.int .i64 n] u fun e w' => e = .returned (.agg #[.int .i64 num, .bool up, .int .i64 life, .int .i64 0, .int .i64 0, .bool false, .int .i64 0, .slice none 0 0, .int .i64 0, .slice none 0 0, .string ⟨#[]⟩, .slice none 0 0]) ∧ Below u.heap.size u w') :
    Calls Try.prog 5 #[.int .i64 n] w fun e w' => e = .returned (.bool true) ∧ Below w.heap.size w w' := by
  have HS : Hid (∀ u : World, Calls Try.prog 16 #[.int .i64 n] u fun e w' => e = .returned (.agg #[.int .i64 num, .bool up, .int .i64 life, .int .i64 0, .int .i64 0, .bool false, .int .i64 0, .slice none 0 0, .int .i64 0, .slice none 0 0, .string ⟨#[]⟩, .slice none 0 0]) ∧ Below u.heap.size u w') := hs0
  have HI : Hid (∀ u : World, Calls Try.prog 17 #[.int .i64 n] u fun e w' => e = .returned (.agg #[.int .i64 num, .bool up, .int .i64 life, .int .i64 0, .int .i64 0, .bool false, .int .i64 0, .slice none 0 0, .int .i64 0, .slice none 0 0, .string ⟨#[]⟩, .slice none 0 0]) ∧ Below u.heap.size u w') := hi0
  clear hs0 hi0
  go_enter Try.func5, Try.ntmps5
  go_wp2_with (first
    | (go_at_call 16; refine (HS.out _).mono ?_; rintro e w1 ⟨rfl, hb1⟩)
    | fail)
  go_wp2_with (first
    | (go_at_call 17; refine (HI.out _).mono ?_; rintro e w2 ⟨rfl, hb2⟩; (have D := (mk.Ex.new w1 40 #[.int .i64 num, .bool up, .int .i64 life, .int .i64 0, .int .i64 0, .bool false, .int .i64 0, .slice none 0 0, .int .i64 0, .slice none 0 0, .string ⟨#[]⟩, .slice none 0 0]).keep hb2); (have lt1 := D.lt); (obtain ⟨d0, d1, d2, d3, d4, d5, d6, d7, d8, d9, d10, d11⟩ := D.cells))
    | (go_at_call 18; refine (mk.eqEnd_none num up life 0 0 false 0 0 ⟨#[]⟩ _).mono ?_; rintro e w3 ⟨rfl, hb3⟩; (have G3 := (mk.Ex.new w2 40 #[.int .i64 num, .bool up, .int .i64 life, .int .i64 0, .int .i64 0, .bool false, .int .i64 0, .slice none 0 0, .int .i64 0, .slice none 0 0, .string ⟨#[]⟩, .slice none 0 0]).keep hb3); (have D3 := (D.alloc (.cells #[.int .i64 num, .bool up, .int .i64 life, .int .i64 0, .int .i64 0, .bool false, .int .i64 0, .slice none 0 0, .int .i64 0, .slice none 0 0, .string ⟨#[]⟩, .slice none 0 0] 40)).keep hb3); clear d0 d1 d2 d3 d4 d5 d6 d7 d8 d9 d10 d11 D; (obtain ⟨d0, d1, d2, d3, d4, d5, d6, d7, d8, d9, d10, d11⟩ := D3.cells); (obtain ⟨g0, g1, g2, g3, g4, g5, g6, g7, g8, g9, g10, g11⟩ := G3.cells))
    | fail)
  have B2 := mk.kb (hb1.alloc hb1.size _) hb2 (Nat.le_refl _)
  have B3 := mk.kb (B2.alloc B2.size _) hb3 (Nat.le_refl _)
  clear hb1 hb2 hb3 B2
  go_wp2_with (first
    | (go_at_call 19; refine (mk.markEnd_nil num up life 0 0 false 0 0 ⟨#[]⟩ 1 _ (by decide)).mono ?_; rintro e w4 ⟨rfl, hb4⟩; (have D4 := D3.keep hb4); (have G4 := G3.keep hb4); clear d0 d1 d2 d3 d4 d5 d6 d7 d8 d9 d10 d11 g0 g1 g2 g3 g4 g5 g6 g7 g8 g9 g10 g11; (obtain ⟨d0, d1, d2, d3, d4, d5, d6, d7, d8, d9, d10, d11⟩ := D4.cells); (obtain ⟨g0, g1, g2, g3, g4, g5, g6, g7, g8, g9, g10, g11⟩ := G4.cells))
    | fail)
  go_wp2_with (first
    | (go_at_call 20; refine (mk.heldEnd_nil num up life 0 0 false 0 0 ⟨#[]⟩ 1 _ (by decide)).mono ?_; rintro e w5 ⟨rfl, hb5⟩; (have D5 := D4.keep hb5); (have G5 := G4.keep hb5); clear d0 d1 d2 d3 d4 d5 d6 d7 d8 d9 d10 d11 g0 g1 g2 g3 g4 g5 g6 g7 g8 g9 g10 g11; (obtain ⟨d0, d1, d2, d3, d4, d5, d6, d7, d8, d9, d10, d11⟩ := D5.cells); (obtain ⟨g0, g1, g2, g3, g4, g5, g6, g7, g8, g9, g10, g11⟩ := G5.cells))
    | fail)
  have B5 := mk.kb (mk.kb B3 hb4 (Nat.le_refl _)) hb5 (Nat.le_refl _)
  clear B3 hb4 hb5 D3 D4 G3 G4
  go_wp2_with (first
    | (go_at_call 17; refine (HI.out _).mono ?_; rintro e w6 ⟨rfl, hb6⟩; (have lt6 := Nat.lt_of_lt_of_le D5.lt hb6.size); (have lu6 := Nat.lt_of_lt_of_le G5.lt hb6.size); (have D6 := D5.keep hb6); (have G6 := G5.keep hb6); clear d0 d1 d2 d3 d4 d5 d6 d7 d8 d9 d10 d11 g0 g1 g2 g3 g4 g5 g6 g7 g8 g9 g10 g11; (obtain ⟨d0, d1, d2, d3, d4, d5, d6, d7, d8, d9, d10, d11⟩ := D6.cells); (obtain ⟨g0, g1, g2, g3, g4, g5, g6, g7, g8, g9, g10, g11⟩ := G6.cells))
    | (go_at_call 18; refine (mk.eqEnd_none num up life 0 0 false 0 0 ⟨#[]⟩ _).mono ?_; rintro e w7 ⟨rfl, hb7⟩; (have D7 := (D6.alloc (.cells #[.int .i64 num, .bool up, .int .i64 life, .int .i64 0, .int .i64 0, .bool false, .int .i64 0, .slice none 0 0, .int .i64 0, .slice none 0 0, .string ⟨#[]⟩, .slice none 0 0] 40)).keep hb7); (have G7 := (G6.alloc (.cells #[.int .i64 num, .bool up, .int .i64 life, .int .i64 0, .int .i64 0, .bool false, .int .i64 0, .slice none 0 0, .int .i64 0, .slice none 0 0, .string ⟨#[]⟩, .slice none 0 0] 40)).keep hb7); clear d0 d1 d2 d3 d4 d5 d6 d7 d8 d9 d10 d11 g0 g1 g2 g3 g4 g5 g6 g7 g8 g9 g10 g11; (obtain ⟨d0, d1, d2, d3, d4, d5, d6, d7, d8, d9, d10, d11⟩ := D7.cells); (obtain ⟨g0, g1, g2, g3, g4, g5, g6, g7, g8, g9, g10, g11⟩ := G7.cells))
    | fail)
  have B6 := mk.kb B5 hb6 (Nat.le_refl _)
  have B7 := mk.kb (B6.alloc B6.size _) hb7 (Nat.le_refl _)
  clear B5 hb6 hb7
  go_wp2_with (first
    | (go_at_call 20; refine (mk.heldEnd_nil num up life 0 0 false 0 0 ⟨#[]⟩ 1 _ (by decide)).mono ?_; rintro e w8 ⟨rfl, hb8⟩)
    | fail)
  go_ret
  exact ⟨rfl, mk.kb B7 hb8 (Nat.le_refl _)⟩
theorem walk (n : Int) (w : World) : Calls Try.prog 5 #[.int .i64 n] w fun e w' => e = .returned (.bool true) ∧ Below w.heap.size w w' := by
  by_cases h : n = 1 ∨ n = 2
  · exact walkV n n 1 true w (fun u => specNew_yes n u h) (fun u => implNew_yes n u h)
  · exact walkV n 0 0 false w (fun u => specNew_no n u h) (fun u => implNew_no n u h)

set_option maxRecDepth 100000 in
theorem lifted (os : Os) (started : os.Started) (H : Type) (enc : TypeId × Value → H) :
    ReturnsInHanded {} Try.checked os 5 .any (Rows.fnExactNewEndSpec.pre6 enc Try.prog Try.f5 Rows.fnExactNewEndRow.domain false) (Rows.fnExactNewEndSpec.post enc Try.prog Try.f5 false true false false) := by
  refine returnsInHanded_of_change (C := Try.checked) own started (by kernel_rfl) Try.func5
    (ChangeSpec.witness6 (enc := enc) (C := Try.checked) false ⟨#[], #[.int .i64 0], []⟩ 8 (by kernel_rfl) (by kernel_rfl) (by kernel_rfl) (by kernel_rfl)) ?_
  intro W base args ds gs before hval0 hW hcnd _
  have hval : ∀ (j : Nat) t v, Try.f5.params[j]? = some t → args[j]? = some v → Value.okWide Try.prog W .any base t v := hval0
  have hW' := hW
  obtain ⟨p, q, hA0, hV, rfl, hfz, hnd⟩ := hW
  have hA : DataW.TrodAll enc Try.prog W 0 (fun _ => true) true Try.f5.params.toList args.toList ds p := hA0
  rw [Try.params5] at hA hval
  obtain ⟨v0, vs0, d0, ds0, p0, q0, hargs, rfl, rfl, h0, r0⟩ := trodAll_cons hA
  obtain ⟨rfl, rfl, rfl⟩ := trodAll_nil r0
  obtain rfl : args = #[v0] := by cases args; simp_all
  obtain ⟨rfl, rfl⟩ := trodVars_none hV
  have k0 := h0
  have lt0 : ∀ x ∈ p0, x.block < W.heap.size := by obtain ⟨m, hm⟩ := k0; exact DataW.trod_lt m _ _ _ hm
  obtain ⟨n, rfl, rfl, rfl, w0⟩ := open_int Try.underlying3 (hval 0 3 v0 rfl rfl) h0
  clear hA0 hval0
  simp only [List.append_nil] at hW'
  refine (walk n W).mono fun e W' ⟨he, bel⟩ => ?_
  subst he
  exact ⟨_, rfl, _, _, _, [], _, [], hW', trodAll_mk1 (shut_bool Try.underlying4 _), (trodAll_cons_mk (Below.trod laidOut (by kernel_rfl) (of_decide_eq_true (by kernel_rfl)) k0 bel lt0) trodAll_mk0), rfl, bel.frame _, fun h => by cases h⟩

theorem over : Rows.fnExactNewEndRow.holds Try.pinned (OpenSpec.ofChange Rows.fnExactNewEndSpec) :=
  OpenClaim.holds_of_wide 5 Try.f5 rfl rfl rfl rfl rfl rfl rfl ⟨rfl, rfl, rfl, rfl, rfl⟩ rfl rfl rfl rfl rfl (by kernel_rfl) Try.func5 (by kernel_rfl)
    (of_decide_eq_true (by kernel_rfl)) (by unfold Func.isWrapper; first | (rw [if_pos (by decide +kernel)]; kernel_rfl) | (rw [if_neg (by decide +kernel)]; exact ⟨rfl, rfl⟩))
    (fun os started H enc _ => lifted os started H enc)

theorem proved : Rows.FnExactNewEndSaid :=
  over
#print axioms proved
end Go.Proofs.Yteceaadmgpjmcaa.fnExactNewEnd

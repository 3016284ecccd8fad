/-
  THE LAW laws.FnExactTakeWord: the walk over the contracts, and the row.
-/
import Derived.Test.YteceaadmgpjmcaaRows
import Derived.WalkKit
import Derived.ProofKit
import Derived.OpenShut
import Derived.ShutString
import Derived.ChangeOld
import Derived.Below
import Derived.Test.YteceaadmgpjmcaaTkW
import Derived.Test.YteceaadmgpjmcaaBase
import Derived.Test.YteceaadmgpjmcaaOpens
import Derived.Carry
namespace Go.Proofs.Yteceaadmgpjmcaa.fnExactTakeWord
open Go.ChangeShapes Go.WideShapes Go.ChangeAt Go.RowKit
open Go.ChangeMaps (open_string shut_string)
set_option linter.unusedVariables false

theorem own : ownKnob Try.prog.godebug = none := by kernel_rfl

theorem laidOut : laidOutB Try.prog = true := by kernel_rfl
/-! ### THE WALK of the law -/
theorem c4 {u : World} {B : Nat} {t : TypeId} {a b c d : Value} (h : u.heap[B]? = some (.cells #[a, b, c, d] t (0, 0))) : u.cell? ⟨B, 0, none⟩ = some a ∧ u.cell? ⟨B, 1, none⟩ = some b ∧ u.cell? ⟨B, 2, none⟩ = some c ∧ u.cell? ⟨B, 3, none⟩ = some d := by
  simp [World.cell?, h]
/-- a box of four that stays -/
def Fx (u : World) (B : Nat) (a b c d : Value) : Prop := u.cell? ⟨B, 0, none⟩ = some a ∧ u.cell? ⟨B, 1, none⟩ = some b ∧ u.cell? ⟨B, 2, none⟩ = some c ∧ u.cell? ⟨B, 3, none⟩ = some d
theorem Fx.keep {u u' : World} {B : Nat} {a b c d : Value} (h : Fx u B a b c d) (hb : Below u.heap.size u u') : Fx u' B a b c d := ⟨mk.cell_keep h.1 hb, mk.cell_keep h.2.1 hb, mk.cell_keep h.2.2.1 hb, mk.cell_keep h.2.2.2 hb⟩
theorem Fx.new (u : World) (t : TypeId) (a b c d : Value) : Fx (u.alloc (.cells #[a, b, c, d] t)) u.heap.size a b c d := ⟨by simp [go_sem], by simp [go_sem], by simp [go_sem], by simp [go_sem]⟩
set_option maxHeartbeats 2000000 in
theorem walk (nx : Int) (ao so : Option Addr) (ca cs : Nat) (xs : List mk.Hd) (o : ByteArray) (rs : List ByteArray) (w : World) (ha : mk.At w ao so xs rs) (hm : mk.Sm maxLen xs o rs) :
    Calls Try.prog 4 #[.agg #[.int .i64 nx, .slice ao xs.length ca, .string o, .slice so rs.length cs]] w fun e w' => e = .returned (.bool true) ∧ Below w.heap.size w w' := by
  have b0 : Hid (Below w.heap.size w (w.alloc (.cells #[.int .i64 nx, .slice ao xs.length ca, .string o, .slice so rs.length cs] 25))) := (Below.refl _ _).alloc (Nat.le_refl _) _
  have X0 : Hid (Fx (w.alloc (.cells #[.int .i64 nx, .slice ao xs.length ca, .string o, .slice so rs.length cs] 25)) w.heap.size (.int .i64 nx) (.slice ao xs.length ca) (.string o) (.slice so rs.length cs)) := Fx.new w _ _ _ _ _
  have HA : Hid (mk.At w ao so xs rs) := ha
  have HM : Hid (mk.Sm maxLen xs o rs) := hm
  clear ha hm
  go_enter Try.func4, Try.ntmps4
  go_wp2_with (go_at_call 9; refine (mk.szTake_any nx ao so ca cs xs o rs _ _ (by omega) HM.out (HA.out.keep b0.out)).mono ?_; rintro e w1 ⟨⟨z, rfl, hz1, hz2, hz3⟩, hb1⟩; (have HZ : Hid (0 ≤ z → mk.Sm 1048576 xs o rs) := hz3); clear hz3; (have X1 := X0.out.keep hb1); (obtain ⟨d0, d1, d2, d3⟩ := X1))
  · go_ret
    exact ⟨rfl, mk.kb b0.out hb1 (Nat.le_refl _)⟩
  have HS : Hid (mk.Sm 1048576 xs o rs) := HZ.out (by omega)
  have B1 := mk.kb b0.out hb1 (Nat.le_refl _)
  have X1 : Hid (Fx w1 w.heap.size (.int .i64 nx) (.slice ao xs.length ca) (.string o) (.slice so rs.length cs)) := ⟨d0, d1, d2, d3⟩
  clear HZ b0 X0 hb1 HM
  obtain ⟨A, B, hV⟩ : ∃ A B, mk.tellOf nx xs o rs = (A, B) := ⟨_, _, rfl⟩
  have S1 : Hid (∀ (u : World) (a b : Option Addr) (c d : Nat), mk.Rt u a b xs rs → Calls Try.prog 14 #[.agg #[.int .i64 nx, .slice a xs.length c, .string o, .slice b rs.length d]] u fun e w' => e = .returned (.tuple #[.int .i64 A, .int .i64 (B : Nat)]) ∧ Below u.heap.size u w') := fun u a b c d h => by have := mk.specTell_any nx a b c d xs o rs u HS.out.n HS.out.t HS.out.o HS.out.k HS.out.r h; rw [hV] at this; exact this
  have S2 : Hid (∀ (u : World) (a b : Option Addr) (c d : Nat), mk.Rt u a b xs rs → Calls Try.prog 15 #[.agg #[.int .i64 nx, .slice a xs.length c, .string o, .slice b rs.length d]] u fun e w' => e = .returned (.tuple #[.int .i64 A, .int .i64 (B : Nat)]) ∧ Below u.heap.size u w') := fun u a b c d h => by have := mk.implTell_any nx a b c d xs o rs u HS.out.n HS.out.t HS.out.o HS.out.k HS.out.r h; rw [hV] at this; exact this
  clear hV
  go_wp2_with (first
    | (go_at_call 11; refine (mk.toTake_any nx ao so ca cs xs o rs _ HS.out.n HS.out.k (HA.out.keep B1)).mono ?_; rintro e w2 ⟨⟨g2, k2, rfl, ho2, hp2, -⟩, hb2⟩)
    | (go_at_call 14; refine (S1.out _ _ _ _ _ ⟨mk.owns_rs ho2, mk.owns_rs hp2⟩).mono ?_; rintro e w3 ⟨rfl, hb3⟩; (have X3 := (X1.out.keep hb2).keep hb3); clear d0 d1 d2 d3; (obtain ⟨d0, d1, d2, d3⟩ := X3)))
  have B3 := mk.kb (mk.kb B1 hb2 (Nat.le_refl _)) hb3 (Nat.le_refl _)
  have X3 : Hid (Fx w3 w.heap.size (.int .i64 nx) (.slice ao xs.length ca) (.string o) (.slice so rs.length cs)) := ⟨d0, d1, d2, d3⟩
  clear ho2 hp2 hb2 hb3 B1 X1
  go_wp2_with (first
    | (go_at_call 11; refine (mk.toTake_any nx ao so ca cs xs o rs _ HS.out.n HS.out.k (HA.out.keep B3)).mono ?_; rintro e w4 ⟨⟨g4, k4, rfl, ho4, hp4, -⟩, hb4⟩; (have X4 := Fx.new w4 30 (.int .i64 nx) (.slice (some ⟨g4, 0, none⟩) xs.length xs.length) (.string o) (.slice (some ⟨k4, 0, none⟩) rs.length rs.length)))
    | (go_at_call 15; refine (S2.out _ _ _ _ _ ⟨mk.owns_rs (ho4.alloc _), mk.owns_rs (hp4.alloc _)⟩).mono ?_; rintro e w5 ⟨rfl, hb5⟩; (have Y5 := ((X3.out.keep hb4).keep ((Below.refl _ _).alloc (Nat.le_refl _) _)).keep hb5); (have X5 := X4.keep hb5); clear d0 d1 d2 d3; (obtain ⟨d0, d1, d2, d3⟩ := Y5); (obtain ⟨x0, x1, x2, x3⟩ := X5)))
  have R5 : Hid (mk.Rt w5 (some ⟨g4, 0, none⟩) (some ⟨k4, 0, none⟩) xs rs) := (⟨mk.owns_rs (mk.owns_keep (ho4.alloc _) hb5), mk.owns_rs (mk.owns_keep (hp4.alloc _) hb5)⟩ : mk.Rt w5 (some ⟨g4, 0, none⟩) (some ⟨k4, 0, none⟩) xs rs)
  have B5 : Hid (Below w.heap.size w w5) := mk.kb ((mk.kb B3 hb4 (Nat.le_refl _)).alloc (mk.kb B3 hb4 (Nat.le_refl _)).size _) hb5 (Nat.le_refl _)
  have hx5 : w4.heap.size < w5.heap.size := by have := hb5.size; simp at this; omega
  have hs5 : w.heap.size < w5.heap.size := by have := B3.size; have := hb4.size; omega
  clear ho4 hp4 hb4 hb5 B3 X3 X4 S1 S2
  go_wp2
  go_region_held3 (fun w' => w'.cell? ⟨w.heap.size, 0, none⟩ = some (.int .i64 nx) ∧ w'.cell? ⟨w.heap.size, 1, none⟩ = some (.slice ao xs.length ca) ∧ w'.cell? ⟨w.heap.size, 2, none⟩ = some (.string o) ∧ w'.cell? ⟨w.heap.size, 3, none⟩ = some (.slice so rs.length cs) ∧ w'.cell? ⟨w4.heap.size, 0, none⟩ = some (.int .i64 nx) ∧ w'.cell? ⟨w4.heap.size, 1, none⟩ = some (.slice (some ⟨g4, 0, none⟩) xs.length xs.length) ∧ w'.cell? ⟨w4.heap.size, 2, none⟩ = some (.string o) ∧ w'.cell? ⟨w4.heap.size, 3, none⟩ = some (.slice (some ⟨k4, 0, none⟩) rs.length rs.length) ∧ Below w5.heap.size w5 w')
    (first | assumption | exact ⟨d0, d1, d2, d3, x0, x1, x2, x3, (Below.refl _ _).drew⟩ | (go_split_ands; refine ⟨mk.kp (by assumption) (by assumption) hb6 hs5, mk.kp (by assumption) (by assumption) hb6 hs5, mk.kp (by assumption) (by assumption) hb6 hs5, mk.kp (by assumption) (by assumption) hb6 hs5, mk.kp (by assumption) (by assumption) hb6 hx5, mk.kp (by assumption) (by assumption) hb6 hx5, mk.kp (by assumption) (by assumption) hb6 hx5, mk.kp (by assumption) (by assumption) hb6 hx5, mk.kb (by assumption) hb6 (Nat.le_refl _)⟩))
    (first
      | (go_at_call 11; refine (mk.toTake_any nx ao so ca cs xs o rs _ HS.out.n HS.out.k (HA.out.keep (mk.kb B5.out (by go_split_ands; assumption) (Nat.le_refl _)))).mono ?_; rintro e w6 ⟨⟨g6, k6, rfl, ho6, hp6, -⟩, hb6⟩)
      | (go_at_call 13; refine (mk.eqTake_same nx _ _ _ _ _ _ _ _ xs o rs _ (by have := HS.out.n; omega) (by have := HS.out.k; omega) (R5.out.keep (by go_split_ands; assumption)) ⟨mk.owns_rs ho6, mk.owns_rs hp6⟩).mono ?_; rintro e w6 ⟨rfl, hb6⟩))
  have hbl : Below w5.heap.size w5 w6 := by go_split_ands; assumption
  go_wp2
  go_ret
  exact ⟨rfl, mk.kb B5.out hbl (Nat.le_refl _)⟩

set_option maxRecDepth 100000 in
theorem lifted (os : Os) (started : os.Started) (H : Type) (enc : TypeId × Value → H) :
    ReturnsInHanded {} Try.checked os 4 .any (Rows.fnExactTakeWordSpec.pre6 enc Try.prog Try.f4 Rows.fnExactTakeWordRow.domain false) (Rows.fnExactTakeWordSpec.post enc Try.prog Try.f4 false true false false) := by
  refine returnsInHanded_of_change (C := Try.checked) own started (by kernel_rfl) Try.func4
    (ChangeSpec.witness6 (enc := enc) (C := Try.checked) false ⟨#[], #[.agg #[.int .i64 0, .slice none 0 0, .string ByteArray.empty, .slice none 0 0]], []⟩ 8 (by kernel_rfl) (by kernel_rfl) (by kernel_rfl) (by kernel_rfl)) ?_
  intro W base args ds gs before hval0 hW hcnd _
  have hval : ∀ (j : Nat) t v, Try.f4.params[j]? = some t → args[j]? = some v → Value.okWide Try.prog W .any base t v := hval0
  have hW' := hW
  obtain ⟨p, q, hA0, hV, rfl, hfz, hnd⟩ := hW
  have hA : DataW.TrodAll enc Try.prog W 0 (fun _ => true) true Try.f4.params.toList args.toList ds p := hA0
  rw [Try.params4] at hA hval
  obtain ⟨v0, vs0, d0, ds0, p0, q0, hargs, rfl, rfl, h0, r0⟩ := trodAll_cons hA
  obtain ⟨rfl, rfl, rfl⟩ := trodAll_nil r0
  obtain rfl : args = #[v0] := by cases args; simp_all
  obtain ⟨rfl, rfl⟩ := trodVars_none hV
  have k0 := h0
  have lt0 : ∀ x ∈ p0, x.block < W.heap.size := by obtain ⟨m, hm⟩ := k0; exact DataW.trod_lt m _ _ _ hm
  obtain ⟨nx, ao, so, ca, cs, xs, o, rs, rfl, hat, hsm⟩ := openedT.take (hval 0 25 v0 rfl rfl) h0
  clear hA0 hval0
  simp only [List.append_nil] at hW'
  refine (walk nx ao so ca cs xs o rs W hat hsm).mono fun e W' ⟨he, bel⟩ => ?_
  subst he
  exact ⟨_, rfl, _, _, _, [], _, [], hW', trodAll_mk1 (shut_bool Try.underlying4 _), (trodAll_cons_mk (Below.trod laidOut (by kernel_rfl) (of_decide_eq_true (by kernel_rfl)) k0 bel lt0) trodAll_mk0), rfl, bel.frame _, fun h => by cases h⟩

theorem over : Rows.fnExactTakeWordRow.holds Try.pinned (OpenSpec.ofChange Rows.fnExactTakeWordSpec) :=
  OpenClaim.holds_of_wide 4 Try.f4 rfl rfl rfl rfl rfl rfl rfl ⟨rfl, rfl, rfl, rfl, rfl⟩ rfl rfl rfl rfl rfl (by kernel_rfl) Try.func4 (by kernel_rfl)
    (of_decide_eq_true (by kernel_rfl)) (by unfold Func.isWrapper; first | (rw [if_pos (by decide +kernel)]; kernel_rfl) | (rw [if_neg (by decide +kernel)]; exact ⟨rfl, rfl⟩))
    (fun os started H enc _ => lifted os started H enc)

theorem proved : Rows.FnExactTakeWordSaid :=
  over
#print axioms proved
end Go.Proofs.Yteceaadmgpjmcaa.fnExactTakeWord

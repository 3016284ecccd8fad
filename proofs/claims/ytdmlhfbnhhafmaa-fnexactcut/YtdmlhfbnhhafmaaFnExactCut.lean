/-
  THE LAW laws.FnExactCut: the walk over the contracts, and the row.
-/
import Derived.Test.YtdmlhfbnhhafmaaRows
import Derived.WalkKit
import Derived.ProofKit
import Derived.OpenShut
import Derived.ShutString
import Derived.ChangeOld
import Derived.Below
import Derived.Test.YtdmlhfbnhhafmaaCutB
namespace Go.Proofs.Ytdmlhfbnhhafmaa.fnExactCut
open Go.ChangeShapes Go.WideShapes Go.ChangeAt Go.RowKit
open Go.ChangeMaps (open_string shut_string)
set_option linter.unusedVariables false

theorem own : ownKnob Try.prog.godebug = none := by kernel_rfl

/-! ### THE WALK of the law -/
theorem cutOf_length (s : ByteArray) : (mk.cutOf s).length ≤ 20 := by
  unfold mk.cutOf
  split
  · have := mk.cut_length s; omega
  · simp
theorem walk (a0 : ByteArray) (w : World) :
    Calls Try.prog 4 #[.string a0] w fun e w' => e = .returned (.bool true) ∧ Below w.heap.size w w' := by
  by_cases h0 : (a0.size : Int) ≤ 1048576
  · have hl := cutOf_length a0
    obtain ⟨xs, hxs⟩ : ∃ xs, xs = mk.cutOf a0 := ⟨_, rfl⟩
    have S1 : Hid (∀ u : World, Calls Try.prog 11 #[.string a0] u fun e w' => (∃ v, e = .returned v ∧ w'.ownsRow u.heap.size 66 2 v xs.length (mk.ps xs)) ∧ Below u.heap.size u w') := fun u => by rw [hxs]; exact mk.specCut_any a0 u (by omega)
    have S2 : Hid (∀ u : World, Calls Try.prog 12 #[.string a0] u fun e w' => (∃ v, e = .returned v ∧ w'.ownsRow u.heap.size 66 2 v xs.length (mk.ps xs)) ∧ Below u.heap.size u w') := fun u => by rw [hxs]; exact mk.implCut_any a0 u (by omega)
    rw [← hxs] at hl
    clear hxs
    go_enter Try.func4, Try.ntmps4
    go_wp2_with (go_at_call 11; refine (S1.out _).mono ?_; rintro e w1 ⟨⟨v1, rfl, ho1⟩, hb1⟩; obtain ⟨ao1, c1, rfl, k1, m1, r1⟩ := mk.rs_of_owns ho1)
    go_wp2_with (go_at_call 12; refine (S2.out _).mono ?_; rintro e w2 ⟨⟨v2, rfl, ho2⟩, hb2⟩; obtain ⟨ao2, c2, rfl, k2, m2, r2⟩ := mk.rs_of_owns ho2)
    go_wp2_with (go_at_call 13; refine (mk.eqPartS_same _ _ _ _ xs _ (by omega) r2 (r1.keep hb2)).mono ?_; rintro e w3 ⟨rfl, hb3⟩)
    go_wp2_with (go_at_call 14; refine (mk.markPartS_one _ _ _ _ _ (by omega) (mk.owns_keep ho2 hb3)).mono ?_; rintro e w4 ⟨rfl, ⟨cs, ho4, hM⟩, hg4⟩)
    have hlt := ho2.lt
    have r4 : mk.Rs w4 ao1 xs.length (mk.ps xs) := ((r1.keep hb2).keep hb3).other r1.lt hg4 (fun k hk => (hlt k hk).1)
    have B4 : Below w.heap.size w w4 := ((hb1.trans (hb2.mono hb1.size)).trans (hb3.mono (Nat.le_trans hb1.size hb2.size))).grown hg4 (Nat.le_trans hb1.size (Nat.le_trans hb2.size hb3.size)) (fun k hk => Nat.le_trans hb1.size (hlt k hk).1)
    have R4 : Hid (mk.Rs w4 ao1 xs.length (mk.ps xs)) := r4
    have O4 : Hid (w4.ownsRow w1.heap.size 66 2 (.slice ao2 xs.length c2) xs.length cs) := ho4
    clear ho1 ho2 hg4 hlt r1 r2 r4 ho4 hb3 hb2
    go_wp2_with (go_at_call 15; refine (mk.heldPartS_one _ _ _ cs _ (by omega) O4.out hM).mono ?_; rintro e w5 ⟨rfl, hb5⟩)
    go_wp2_with (go_at_call 12; refine (S2.out _).mono ?_; rintro e w6 ⟨⟨v6, rfl, ho6⟩, hb6⟩; obtain ⟨ao6, c6, rfl, k6, m6, r6⟩ := mk.rs_of_owns ho6)
    go_wp2_with (go_at_call 13; refine (mk.eqPartS_same _ _ _ _ xs _ (by omega) r6 ((R4.out.keep hb5).keep hb6)).mono ?_; rintro e w7 ⟨rfl, hb7⟩)
    go_wp2_with (go_at_call 15; refine (mk.heldPartS_one _ _ _ cs _ (by omega) (mk.owns_keep (mk.owns_keep (mk.owns_keep O4.out hb5) hb6) hb7) hM).mono ?_; rintro e w8 ⟨rfl, hb8⟩)
    go_ret
    exact ⟨rfl, B4.trans ((hb5.mono B4.size).trans ((hb6.mono (Nat.le_trans B4.size hb5.size)).trans ((hb7.mono (Nat.le_trans B4.size (Nat.le_trans hb5.size hb6.size))).trans (hb8.mono (Nat.le_trans B4.size (Nat.le_trans hb5.size (Nat.le_trans hb6.size hb7.size)))))))⟩
  · go_enter Try.func4, Try.ntmps4
    go_wp2
    go_ret
    exact ⟨rfl, Below.refl _ _⟩

set_option maxRecDepth 100000 in
theorem lifted (os : Os) (started : os.Started) (H : Type) (enc : TypeId × Value → H) :
    ReturnsInHanded {} Try.checked os 4 .any (Rows.fnExactCutSpec.pre6 enc Try.prog Try.f4 Rows.fnExactCutRow.domain false) (Rows.fnExactCutSpec.post enc Try.prog Try.f4 false true false false) := by
  refine returnsInHanded_of_change (C := Try.checked) own started (by kernel_rfl) Try.func4
    (ChangeSpec.witness6 (enc := enc) (C := Try.checked) false ⟨#[], #[.string ByteArray.empty], []⟩ 8 (by kernel_rfl) (by kernel_rfl) (by kernel_rfl) (by kernel_rfl)) ?_
  intro W base args ds gs before hval0 hW hcnd _
  have hval : ∀ (j : Nat) t v, Try.f4.params[j]? = some t → args[j]? = some v → Value.okWide Try.prog W .any base t v := hval0
  have hW' := hW
  obtain ⟨p, q, hA0, hV, rfl, hfz, hnd⟩ := hW
  have hA : DataW.TrodAll enc Try.prog W 0 (fun _ => true) true Try.f4.params.toList args.toList ds p := hA0
  rw [Try.params4] at hA hval
  obtain ⟨v0, vs0, d0, ds0, p0, q0, hargs, rfl, rfl, h0, r0⟩ := trodAll_cons hA
  obtain ⟨rfl, rfl, rfl⟩ := trodAll_nil r0
  obtain rfl : args = #[v0] := by cases args; simp_all
  obtain ⟨rfl, rfl⟩ := trodVars_none hV
  obtain ⟨a0, rfl, rfl, rfl, w0⟩ := open_string Try.underlying9 (hval 0 9 v0 rfl rfl) h0
  clear hA0 hval0
  simp only [List.append_nil] at hW'
  refine (walk a0 W).mono fun e W' ⟨he, bel⟩ => ?_
  subst he
  exact ⟨_, rfl, _, _, _, [], [], [], hW', trodAll_mk1 (shut_bool Try.underlying4 _), (trodAll_cons_mk (shut_string Try.underlying9 w0) trodAll_mk0), rfl, bel.frame _, fun h => by cases h⟩

theorem over : Rows.fnExactCutRow.holds Try.pinned (OpenSpec.ofChange Rows.fnExactCutSpec) :=
  OpenClaim.holds_of_wide 4 Try.f4 rfl rfl rfl rfl rfl rfl rfl ⟨rfl, rfl, rfl, rfl, rfl⟩ rfl rfl rfl rfl rfl (by kernel_rfl) Try.func4 (by kernel_rfl)
    (of_decide_eq_true (by kernel_rfl)) (by unfold Func.isWrapper; first | (rw [if_pos (by decide +kernel)]; kernel_rfl) | (rw [if_neg (by decide +kernel)]; exact ⟨rfl, rfl⟩))
    (fun os started H enc _ => lifted os started H enc)

theorem proved : Rows.FnExactCutSaid :=
  over
#print axioms proved
end Go.Proofs.Ytdmlhfbnhhafmaa.fnExactCut

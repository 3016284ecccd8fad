/-
  THE LAW laws.FnExactJoin: the walk over the contracts, and the row.
-/
import Derived.Test.YtdmlhfbnhhafmaaRows
import Derived.WalkKit
import Derived.ProofKit
import Derived.OpenShut
import Derived.ShutString
import Derived.ChangeOld
import Derived.Below
import Derived.Test.YtdmlhfbnhhafmaaJoinB
import Derived.Test.YtdmlhfbnhhafmaaOpenPa
import Derived.Carry
namespace Go.Proofs.Ytdmlhfbnhhafmaa.fnExactJoin
open Go.ChangeShapes Go.WideShapes Go.ChangeAt Go.RowKit
open Go.ChangeMaps (open_string shut_string)
set_option linter.unusedVariables false

theorem own : ownKnob Try.prog.godebug = none := by kernel_rfl

theorem laidOut : laidOutB Try.prog = true := by kernel_rfl
/-! ### THE WALK of the law -/
theorem jn_length (xs : List (ByteArray × Bool)) (ms : List ByteArray) (o : ByteArray) : (mk.jn xs ms o).1.length ≤ ms.length + xs.length := by
  induction xs generalizing ms o with
  | nil => simp [mk.jn]
  | cons x xs ih =>
    rw [mk.jn]
    split
    · simp
    · split
      · have := ih (ms ++ [o ++ x.1]) ⟨#[]⟩; simp at this ⊢; omega
      · have := ih ms (o ++ x.1); simp; omega
theorem join_length (xs : List (ByteArray × Bool)) : (mk.join xs).1.length ≤ xs.length := by
  unfold mk.join
  split
  · simp
  · have := jn_length xs [] ⟨#[]⟩; simpa using this
set_option maxHeartbeats 1000000 in
theorem walk (ao : Option Addr) (cap : Nat) (xs : List (ByteArray × Bool)) (w : World) (ha : mk.Ap w ao xs) (hm : xs.length ≤ maxLen) (hs : ∀ i (h : i < xs.length), xs[i].1.size ≤ maxLen) :
    Calls Try.prog 6 #[.slice ao xs.length cap] w fun e w' => e = .returned (.bool true) ∧ Below w.heap.size w w' := by
  have HA : Hid (mk.Ap w ao xs) := ha
  have HS : Hid (∀ i (h : i < xs.length), xs[i].1.size ≤ maxLen) := hs
  clear ha hs
  have hjl := join_length xs
  obtain ⟨M, O, b, hJ⟩ : ∃ M O b, mk.join xs = (M, O, b) := ⟨_, _, _, rfl⟩
  rw [hJ] at hjl
  have hM : M.length ≤ xs.length := hjl
  have S1 : Hid (∀ (u : World) (bo : Option Addr) (c : Nat), xs.length ≤ 1048576 → (∀ i (h : i < xs.length), xs[i].1.size ≤ 1048576) → mk.Rs u bo xs.length (mk.ps xs) → Calls Try.prog 20 #[.slice bo xs.length c] u fun e w' => (∃ v, e = .returned (.tuple #[v, .string O, .bool b]) ∧ w'.ownsRow u.heap.size 9 1 v M.length (mk.ss M)) ∧ Below u.heap.size u w') := fun u bo c h1 h2 h3 => by have := mk.specJoin_any bo c xs u h1 h2 h3; rw [hJ] at this; exact this
  have S2 : Hid (∀ (u : World) (bo : Option Addr) (c : Nat), xs.length ≤ 1048576 → (∀ i (h : i < xs.length), xs[i].1.size ≤ 1048576) → mk.Rs u bo xs.length (mk.ps xs) → Calls Try.prog 17 #[.slice bo xs.length c] u fun e w' => (∃ v, e = .returned (.tuple #[v, .string O, .bool b]) ∧ w'.ownsRow u.heap.size 9 1 v M.length (mk.ss M)) ∧ Below u.heap.size u w') := fun u bo c h1 h2 h3 => by have := mk.implJoin_any bo c xs u h1 h2 h3; rw [hJ] at this; exact this
  clear hJ hjl
  go_enter Try.func6, Try.ntmps6
  go_wp2_with (go_at_call 21; refine (mk.szPartS_any ao cap xs _ _ (by omega) hm HS.out HA.out).mono ?_; rintro e w1 ⟨⟨z, rfl, hz, hz1⟩, hb1⟩)
  · go_ret
    exact ⟨rfl, hb1⟩
  have hz0 : 0 ≤ z := by omega
  obtain ⟨hz2, hl, hsz⟩ := hz hz0
  have HSZ : Hid (∀ i (h : i < xs.length), xs[i].1.size ≤ 1048576) := hsz
  clear hz hsz HS
  go_wp2_with (go_at_call 22; refine (mk.toPartS_any ao cap xs _ hl (HA.out.keep hb1)).mono ?_; rintro e w2 ⟨⟨g2, rfl, ho2⟩, hb2⟩)
  have r2 := mk.owns_rs ho2
  have B2 := mk.kb hb1 hb2 (Nat.le_refl _)
  clear ho2
  go_wp2_with (go_at_call 20; refine (S1.out _ _ _ hl HSZ.out r2).mono ?_; rintro e w3 ⟨⟨v3, rfl, ho3⟩, hb3⟩; obtain ⟨ao3, c3, rfl, _, _, _⟩ := mk.rs_of_owns ho3)
  have B3 := mk.kb B2 hb3 (Nat.le_refl _)
  have O3 : Hid (w3.ownsRow w2.heap.size 9 1 (.slice ao3 M.length c3) M.length (mk.ss M)) := ho3
  clear ho3 r2 hb2 hb1
  go_wp2_with (go_at_call 22; refine (mk.toPartS_any ao cap xs _ hl (HA.out.keep B3)).mono ?_; rintro e w4 ⟨⟨g4, rfl, ho4⟩, hb4⟩)
  have B4 := mk.kb B3 hb4 (Nat.le_refl _)
  have O4 : Hid (w4.ownsRow w3.heap.size 66 2 (.slice (some ⟨g4, 0, none⟩) xs.length xs.length) xs.length (mk.ps xs)) := ho4
  clear ho4 hb3
  go_wp2_with (go_at_call 17; refine (S2.out _ _ _ hl HSZ.out (mk.owns_rs O4.out)).mono ?_; rintro e w5 ⟨⟨v5, rfl, ho5⟩, hb5⟩; obtain ⟨ao5, c5, rfl, _, _, _⟩ := mk.rs_of_owns ho5)
  have B5 := mk.kb B4 hb5 (Nat.le_refl _)
  have O5 : Hid (w5.ownsRow w4.heap.size 9 1 (.slice ao5 M.length c5) M.length (mk.ss M)) := ho5
  clear ho5
  go_wp2_with (go_at_call 23; refine (mk.eqStringS_same _ _ _ _ M _ (by omega) (mk.owns_rs O5.out) (mk.owns_rs (mk.owns_keep (mk.owns_keep O3.out hb4) hb5))).mono ?_; rintro e w6 ⟨rfl, hb6⟩)
  have B6 := mk.kb B5 hb6 (Nat.le_refl _)
  go_wp2_with (go_at_call 22; refine (mk.toPartS_any ao cap xs _ hl (HA.out.keep B6)).mono ?_; rintro e w7 ⟨⟨g7, rfl, ho7⟩, hb7⟩)
  have B7 := mk.kb B6 hb7 (Nat.le_refl _)
  have O7 : Hid (w7.ownsRow w6.heap.size 66 2 (.slice (some ⟨g7, 0, none⟩) xs.length xs.length) xs.length (mk.ps xs)) := ho7
  clear ho7
  go_wp2_with (go_at_call 13; refine (mk.eqPartS_same _ _ _ _ xs _ (by omega) (mk.owns_rs (mk.owns_keep (mk.owns_keep (mk.owns_keep O4.out hb5) hb6) hb7)) (mk.owns_rs O7.out)).mono ?_; rintro e w8 ⟨rfl, hb8⟩)
  have B8 := mk.kb B7 hb8 (Nat.le_refl _)
  have O48 : Hid (w8.ownsRow w3.heap.size 66 2 (.slice (some ⟨g4, 0, none⟩) xs.length xs.length) xs.length (mk.ps xs)) := mk.owns_keep (mk.owns_keep (mk.owns_keep (mk.owns_keep O4.out hb5) hb6) hb7) hb8
  have O38 : Hid (w8.ownsRow w2.heap.size 9 1 (.slice ao3 M.length c3) M.length (mk.ss M)) := mk.owns_keep (mk.owns_keep (mk.owns_keep (mk.owns_keep (mk.owns_keep O3.out hb4) hb5) hb6) hb7) hb8
  have O58 : Hid (w8.ownsRow w4.heap.size 9 1 (.slice ao5 M.length c5) M.length (mk.ss M)) := mk.owns_keep (mk.owns_keep (mk.owns_keep O5.out hb6) hb7) hb8
  have L3 : Hid (∀ k, (Value.slice ao3 M.length c3).ownBlock = some k → k < w4.heap.size) := fun k hk => Nat.lt_of_lt_of_le (O3.out.lt k hk).2 hb4.size
  have L5 : Hid (∀ k, (Value.slice ao5 M.length c5).ownBlock = some k → w4.heap.size ≤ k) := fun k hk => (O5.out.lt k hk).1
  have h34 : Hid (w3.heap.size ≤ w8.heap.size ∧ w.heap.size ≤ w3.heap.size ∧ w.heap.size ≤ w4.heap.size) := ⟨Nat.le_trans hb4.size (Nat.le_trans hb5.size (Nat.le_trans hb6.size (Nat.le_trans hb7.size hb8.size))), B3.size, B4.size⟩
  clear O3 O4 O5 O7 hb4 hb5 hb6 hb7 hb8 B2 B3 B4 B5 B6 B7
  go_wp2_with (go_at_call 14; refine (mk.markPartS_one _ _ _ _ _ (by omega) O48.out).mono ?_; rintro e w9 ⟨rfl, ⟨cs9, ho9, hM9⟩, hg9⟩)
  have O39 : Hid (w9.ownsRow w2.heap.size 9 1 (.slice ao3 M.length c3) M.length (mk.ss M)) := O38.out.kept hg9 (mk.rows_ne O38.out O48.out (by decide))
  have O59 : Hid (w9.ownsRow w4.heap.size 9 1 (.slice ao5 M.length c5) M.length (mk.ss M)) := O58.out.kept hg9 (mk.rows_ne O58.out O48.out (by decide))
  have B9 : Below w.heap.size w w9 := B8.grown hg9 B8.size (fun k hk => Nat.le_trans h34.out.2.1 (O48.out.lt k hk).1)
  clear ho9 hM9 hg9 O38 O48 O58 B8
  go_wp2_with (go_at_call 23; refine (mk.eqStringS_same _ _ _ _ M _ (by omega) (mk.owns_rs O59.out) (mk.owns_rs O39.out)).mono ?_; rintro e w10 ⟨rfl, hb10⟩)
  have B10 := mk.kb B9 hb10 (Nat.le_refl _)
  go_wp2_with (go_at_call 24; refine (mk.markStringS_one _ _ _ _ _ (by omega) (mk.owns_keep O59.out hb10)).mono ?_; rintro e w11 ⟨rfl, ⟨cs, ho11, hMs⟩, hg11⟩)
  have O11 : Hid (w11.ownsRow w4.heap.size 9 1 (.slice ao5 M.length c5) M.length cs) := ho11
  have O3b : Hid (w11.ownsRow w2.heap.size 9 1 (.slice ao3 M.length c3) M.length (mk.ss M)) := (mk.owns_keep O39.out hb10).kept hg11 (mk.rows_lt L3.out L5.out)
  have B11 : Below w.heap.size w w11 := B10.grown hg11 B10.size (fun k hk => Nat.le_trans h34.out.2.2 (L5.out k hk))
  have HM : Hid (mk.Ms 1 M.length cs) := hMs
  clear ho11 hg11 O39 O59 B9 B10 hb10 hMs
  go_wp2_with (go_at_call 25; refine (mk.heldStringS_one _ _ _ cs _ (by omega) O11.out HM.out).mono ?_; rintro e w12 ⟨rfl, hb12⟩)
  have B12 := mk.kb B11 hb12 (Nat.le_refl _)
  go_wp2_with (go_at_call 22; refine (mk.toPartS_any ao cap xs _ hl (HA.out.keep B12)).mono ?_; rintro e w13 ⟨⟨g13, rfl, ho13⟩, hb13⟩)
  have B13 := mk.kb B12 hb13 (Nat.le_refl _)
  have r13 := mk.owns_rs ho13
  clear ho13
  go_wp2_with (go_at_call 17; refine (S2.out _ _ _ hl HSZ.out r13).mono ?_; rintro e w14 ⟨⟨v14, rfl, ho14⟩, hb14⟩; obtain ⟨ao14, c14, rfl, _, _, _⟩ := mk.rs_of_owns ho14)
  have B14 := mk.kb B13 hb14 (Nat.le_refl _)
  have r14 := mk.owns_rs ho14
  clear ho14 r13
  go_wp2_with (go_at_call 23; refine (mk.eqStringS_same _ _ _ _ M _ (by omega) r14 (mk.owns_rs (mk.owns_keep (mk.owns_keep (mk.owns_keep O3b.out hb12) hb13) hb14))).mono ?_; rintro e w15 ⟨rfl, hb15⟩)
  have B15 := mk.kb B14 hb15 (Nat.le_refl _)
  go_wp2_with (go_at_call 25; refine (mk.heldStringS_one _ _ _ cs _ (by omega) (mk.owns_keep (mk.owns_keep (mk.owns_keep (mk.owns_keep O11.out hb12) hb13) hb14) hb15) HM.out).mono ?_; rintro e w16 ⟨rfl, hb16⟩)
  go_ret
  exact ⟨rfl, mk.kb B15 hb16 (Nat.le_refl _)⟩

set_option maxRecDepth 100000 in
theorem lifted (os : Os) (started : os.Started) (H : Type) (enc : TypeId × Value → H) :
    ReturnsInHanded {} Try.checked os 6 .any (Rows.fnExactJoinSpec.pre6 enc Try.prog Try.f6 Rows.fnExactJoinRow.domain false) (Rows.fnExactJoinSpec.post enc Try.prog Try.f6 false true false false) := by
  refine returnsInHanded_of_change (C := Try.checked) own started (by kernel_rfl) Try.func6
    (ChangeSpec.witness6 (enc := enc) (C := Try.checked) false ⟨#[], #[.slice none 0 0], []⟩ 8 (by kernel_rfl) (by kernel_rfl) (by kernel_rfl) (by kernel_rfl)) ?_
  intro W base args ds gs before hval0 hW hcnd _
  have hval : ∀ (j : Nat) t v, Try.f6.params[j]? = some t → args[j]? = some v → Value.okWide Try.prog W .any base t v := hval0
  have hW' := hW
  obtain ⟨p, q, hA0, hV, rfl, hfz, hnd⟩ := hW
  have hA : DataW.TrodAll enc Try.prog W 0 (fun _ => true) true Try.f6.params.toList args.toList ds p := hA0
  rw [Try.params6] at hA hval
  obtain ⟨v0, vs0, d0, ds0, p0, q0, hargs, rfl, rfl, h0, r0⟩ := trodAll_cons hA
  obtain ⟨rfl, rfl, rfl⟩ := trodAll_nil r0
  obtain rfl : args = #[v0] := by cases args; simp_all
  obtain ⟨rfl, rfl⟩ := trodVars_none hV
  have k0 := h0
  have lt0 : ∀ x ∈ p0, x.block < W.heap.size := by obtain ⟨m, hm⟩ := k0; exact DataW.trod_lt m _ _ _ hm
  obtain ⟨ao, cap, xs, rfl, hap, hlen, hsz⟩ := opened.parts (hval 0 37 v0 rfl rfl) h0
  clear hA0 hval0
  simp only [List.append_nil] at hW'
  refine (walk ao cap xs W hap hlen hsz).mono fun e W' ⟨he, bel⟩ => ?_
  subst he
  exact ⟨_, rfl, _, _, _, [], _, [], hW', trodAll_mk1 (shut_bool Try.underlying4 _), (trodAll_cons_mk (Below.trod laidOut (by kernel_rfl) (of_decide_eq_true (by kernel_rfl)) k0 bel lt0) trodAll_mk0), rfl, bel.frame _, fun h => by cases h⟩

theorem over : Rows.fnExactJoinRow.holds Try.pinned (OpenSpec.ofChange Rows.fnExactJoinSpec) :=
  OpenClaim.holds_of_wide 6 Try.f6 rfl rfl rfl rfl rfl rfl rfl ⟨rfl, rfl, rfl, rfl, rfl⟩ rfl rfl rfl rfl rfl (by kernel_rfl) Try.func6 (by kernel_rfl)
    (of_decide_eq_true (by kernel_rfl)) (by unfold Func.isWrapper; first | (rw [if_pos (by decide +kernel)]; kernel_rfl) | (rw [if_neg (by decide +kernel)]; exact ⟨rfl, rfl⟩))
    (fun os started H enc _ => lifted os started H enc)

theorem proved : Rows.FnExactJoinSaid :=
  over
#print axioms proved
end Go.Proofs.Ytdmlhfbnhhafmaa.fnExactJoin

/-
  THE LAW laws.FnExactValidSend: the walk over the contracts, and the row.
-/
import Derived.Test.YtdmlhfbnhhafmaaRows
import Derived.WalkKit
import Derived.ProofKit
import Derived.OpenShut
import Derived.ShutString
import Derived.ChangeOld
import Derived.Below
import Derived.Test.YtdmlhfbnhhafmaaValB
import Derived.Test.YtdmlhfbnhhafmaaOpens
import Derived.Carry
namespace Go.Proofs.Ytdmlhfbnhhafmaa.fnExactValidSend
open Go.ChangeShapes Go.WideShapes Go.ChangeAt Go.RowKit
open Go.ChangeMaps (open_string shut_string)
set_option linter.unusedVariables false

theorem own : ownKnob Try.prog.godebug = none := by kernel_rfl

theorem laidOut : laidOutB Try.prog = true := by kernel_rfl
/-! ### THE WALK of the law -/
set_option maxHeartbeats 1000000 in
theorem walk (b : Int) (ao : Option Addr) (cap : Nat) (xs : List mk.It) (w : World) (ha : mk.Ai w ao xs) (hm : xs.length ≤ maxLen) (hs : ∀ i (h : i < xs.length), xs[i].text.size ≤ maxLen) :
    Calls Try.prog 8 #[.agg #[.int .i64 b, .slice ao xs.length cap]] w fun e w' => e = .returned (.bool true) ∧ Below w.heap.size w w' := by
  have b0 : Hid (Below w.heap.size w (w.alloc (.cells #[.int .i64 b, .slice ao xs.length cap] 51))) := (Below.refl _ _).alloc (Nat.le_refl _) _
  have c0 : Hid ((w.alloc (.cells #[.int .i64 b, .slice ao xs.length cap] 51)).cell? ⟨w.heap.size, 0, none⟩ = some (.int .i64 b)) := (by simp [go_sem] : (w.alloc (.cells #[.int .i64 b, .slice ao xs.length cap] 51)).cell? ⟨w.heap.size, 0, none⟩ = some (.int .i64 b))
  have c1 : Hid ((w.alloc (.cells #[.int .i64 b, .slice ao xs.length cap] 51)).cell? ⟨w.heap.size, 1, none⟩ = some (.slice ao xs.length cap)) := (by simp [go_sem] : (w.alloc (.cells #[.int .i64 b, .slice ao xs.length cap] 51)).cell? ⟨w.heap.size, 1, none⟩ = some (.slice ao xs.length cap))
  have HA : Hid (mk.Ai w ao xs) := ha
  have HS : Hid (∀ i (h : i < xs.length), xs[i].text.size ≤ maxLen) := hs
  clear ha hs
  go_enter Try.func8, Try.ntmps8
  go_wp2_with (go_at_call 30; refine (mk.szSend_any b ao cap xs _ _ (by omega) hm HS.out (HA.out.keep b0.out)).mono ?_; rintro e w1 ⟨⟨z, rfl, hz, hz1⟩, hb1⟩; (have d0 := mk.kp c0.out (Below.refl _ _) hb1 (by simp)); (have d1 := mk.kp c1.out (Below.refl _ _) hb1 (by simp)))
  · go_ret
    exact ⟨rfl, mk.kb b0.out hb1 (Nat.le_refl _)⟩
  have hz0 : 0 ≤ z := by omega
  obtain ⟨hz2, hl, hsz⟩ := hz hz0
  have HSZ : Hid (∀ i (h : i < xs.length), xs[i].text.size ≤ 1048576) := hsz
  have B1 := mk.kb b0.out hb1 (Nat.le_refl _)
  have hs1 : w.heap.size < w1.heap.size := by have := hb1.size; simp at this; omega
  clear hz hsz HS b0 c0 c1 hb1
  obtain ⟨V, hV⟩ : ∃ V, V = mk.sdOk b xs := ⟨_, rfl⟩
  have S1 : Hid (∀ (u : World) (bo : Option Addr) (c : Nat), mk.Rs u bo xs.length (mk.is xs) → Calls Try.prog 31 #[.agg #[.int .i64 b, .slice bo xs.length c]] u fun e w' => e = .returned (.bool V) ∧ Below u.heap.size u w') := fun u bo c h => by rw [hV]; exact mk.specValid_any b bo c xs u hl HSZ.out h
  have S2 : Hid (∀ (u : World) (bo : Option Addr) (c : Nat), mk.Rs u bo xs.length (mk.is xs) → Calls Try.prog 33 #[.agg #[.int .i64 b, .slice bo xs.length c]] u fun e w' => e = .returned (.bool V) ∧ Below u.heap.size u w') := fun u bo c h => by rw [hV]; exact mk.implValid_any b bo c xs u hl HSZ.out h
  clear hV
  go_wp2_with (go_at_call 32; refine (mk.toSend_any b ao cap xs _ hl (HA.out.keep B1)).mono ?_; rintro e w2 ⟨⟨g2, rfl, ho2⟩, hb2⟩; (have d20 := mk.kp d0 (Below.refl _ _) hb2 hs1); (have d21 := mk.kp d1 (Below.refl _ _) hb2 hs1))
  have B2 := mk.kb B1 hb2 (Nat.le_refl _)
  have r2 := mk.owns_rs ho2
  have hs2 : w.heap.size < w2.heap.size := Nat.lt_of_lt_of_le hs1 hb2.size
  clear ho2 d0 d1
  go_wp2_with (go_at_call 31; refine (S1.out _ _ _ r2).mono ?_; rintro e w3 ⟨rfl, hb3⟩; (have d30 := mk.kp d20 (Below.refl _ _) hb3 hs2); (have d31 := mk.kp d21 (Below.refl _ _) hb3 hs2))
  have B3 := mk.kb B2 hb3 (Nat.le_refl _)
  have hs3 : w.heap.size < w3.heap.size := Nat.lt_of_lt_of_le hs2 hb3.size
  clear r2 d20 d21
  go_wp2_with (go_at_call 32; refine (mk.toSend_any b ao cap xs _ hl (HA.out.keep B3)).mono ?_; rintro e w4 ⟨⟨g4, rfl, ho4⟩, hb4⟩; (have d40 := mk.kp d30 (Below.refl _ _) hb4 hs3); (have d41 := mk.kp d31 (Below.refl _ _) hb4 hs3))
  have B4 := mk.kb B3 hb4 (Nat.le_refl _)
  have hs4 : w.heap.size < w4.heap.size := Nat.lt_of_lt_of_le hs3 hb4.size
  have ba : Hid (Below w4.heap.size w4 (w4.alloc (.cells #[.int .i64 b, .slice (some ⟨g4, 0, none⟩) xs.length xs.length] 56))) := (Below.refl _ _).alloc (Nat.le_refl _) _
  have e40 : Hid ((w4.alloc (.cells #[.int .i64 b, .slice (some ⟨g4, 0, none⟩) xs.length xs.length] 56)).cell? ⟨w4.heap.size, 0, none⟩ = some (.int .i64 b)) := (by simp [go_sem] : (w4.alloc (.cells #[.int .i64 b, .slice (some ⟨g4, 0, none⟩) xs.length xs.length] 56)).cell? ⟨w4.heap.size, 0, none⟩ = some (.int .i64 b))
  have e41 : Hid ((w4.alloc (.cells #[.int .i64 b, .slice (some ⟨g4, 0, none⟩) xs.length xs.length] 56)).cell? ⟨w4.heap.size, 1, none⟩ = some (.slice (some ⟨g4, 0, none⟩) xs.length xs.length)) := (by simp [go_sem] : (w4.alloc (.cells #[.int .i64 b, .slice (some ⟨g4, 0, none⟩) xs.length xs.length] 56)).cell? ⟨w4.heap.size, 1, none⟩ = some (.slice (some ⟨g4, 0, none⟩) xs.length xs.length))
  have R4 : Hid (mk.Rs (w4.alloc (.cells #[.int .i64 b, .slice (some ⟨g4, 0, none⟩) xs.length xs.length] 56)) (some ⟨g4, 0, none⟩) xs.length (mk.is xs)) := (mk.owns_rs ho4).keep ba.out
  clear ho4 d30 d31
  go_wp2_with (go_at_call 33; refine (S2.out _ _ _ R4.out).mono ?_; rintro e w5 ⟨rfl, hb5⟩; (have d50 := mk.kp (mk.kp d40 (Below.refl _ _) ba.out hs4) (Below.refl _ _) hb5 (by simp; omega)); (have d51 := mk.kp (mk.kp d41 (Below.refl _ _) ba.out hs4) (Below.refl _ _) hb5 (by simp; omega)); (have x50 := mk.kp e40.out (Below.refl _ _) hb5 (by simp)); (have x51 := mk.kp e41.out (Below.refl _ _) hb5 (by simp)))
  have B5 := mk.kb (mk.kb B4 ba.out (Nat.le_refl _)) hb5 (Nat.le_refl _)
  have R5 : Hid (mk.Rs w5 (some ⟨g4, 0, none⟩) xs.length (mk.is xs)) := R4.out.keep hb5
  have hs5 : w.heap.size < w5.heap.size := by have := hb5.size; simp at this; omega
  have hx5 : w4.heap.size < w5.heap.size := by have := hb5.size; simp at this; omega
  clear R4 e40 e41 d40 d41 hb5 ba
  go_wp2
  go_region_held3 (fun w' => w'.cell? ⟨w.heap.size, 0, none⟩ = some (.int .i64 b) ∧ w'.cell? ⟨w.heap.size, 1, none⟩ = some (.slice ao xs.length cap) ∧ w'.cell? ⟨w4.heap.size, 0, none⟩ = some (.int .i64 b) ∧ w'.cell? ⟨w4.heap.size, 1, none⟩ = some (.slice (some ⟨g4, 0, none⟩) xs.length xs.length) ∧ Below w5.heap.size w5 w')
    (first | assumption | exact ⟨d50, d51, x50, x51, (Below.refl _ _).drew⟩ | (go_split_ands; refine ⟨mk.kp (by assumption) (by assumption) hb6 hs5, mk.kp (by assumption) (by assumption) hb6 hs5, mk.kp (by assumption) (by assumption) hb6 hx5, mk.kp (by assumption) (by assumption) hb6 hx5, mk.kb (by assumption) hb6 (Nat.le_refl _)⟩))
    (first
      | (go_at_call 32; refine (mk.toSend_any b ao cap xs _ hl (HA.out.keep (mk.kb B5 (by go_split_ands; assumption) (Nat.le_refl _)))).mono ?_; rintro e w6 ⟨⟨g6, rfl, ho6⟩, hb6⟩)
      | (go_at_call 34; refine (mk.eqSend_same b _ _ _ _ xs _ (by omega) (R5.out.keep (by go_split_ands; assumption)) (mk.owns_rs ho6)).mono ?_; rintro e w6 ⟨rfl, hb6⟩))
  have hbl : Below w5.heap.size w5 w6 := by go_split_ands; assumption
  go_wp2
  go_ret
  exact ⟨rfl, mk.kb B5 hbl (Nat.le_refl _)⟩

set_option maxRecDepth 100000 in
theorem lifted (os : Os) (started : os.Started) (H : Type) (enc : TypeId × Value → H) :
    ReturnsInHanded {} Try.checked os 8 .any (Rows.fnExactValidSendSpec.pre6 enc Try.prog Try.f8 Rows.fnExactValidSendRow.domain false) (Rows.fnExactValidSendSpec.post enc Try.prog Try.f8 false true false false) := by
  refine returnsInHanded_of_change (C := Try.checked) own started (by kernel_rfl) Try.func8
    (ChangeSpec.witness6 (enc := enc) (C := Try.checked) false ⟨#[], #[.agg #[.int .i64 0, .slice none 0 0]], []⟩ 8 (by kernel_rfl) (by kernel_rfl) (by kernel_rfl) (by kernel_rfl)) ?_
  intro W base args ds gs before hval0 hW hcnd _
  have hval : ∀ (j : Nat) t v, Try.f8.params[j]? = some t → args[j]? = some v → Value.okWide Try.prog W .any base t v := hval0
  have hW' := hW
  obtain ⟨p, q, hA0, hV, rfl, hfz, hnd⟩ := hW
  have hA : DataW.TrodAll enc Try.prog W 0 (fun _ => true) true Try.f8.params.toList args.toList ds p := hA0
  rw [Try.params8] at hA hval
  obtain ⟨v0, vs0, d0, ds0, p0, q0, hargs, rfl, rfl, h0, r0⟩ := trodAll_cons hA
  obtain ⟨rfl, rfl, rfl⟩ := trodAll_nil r0
  obtain rfl : args = #[v0] := by cases args; simp_all
  obtain ⟨rfl, rfl⟩ := trodVars_none hV
  have k0 := h0
  have lt0 : ∀ x ∈ p0, x.block < W.heap.size := by obtain ⟨m, hm⟩ := k0; exact DataW.trod_lt m _ _ _ hm
  obtain ⟨b, ao, cap, xs, rfl, hap, hlen, hsz⟩ := opened.send (hval 0 51 v0 rfl rfl) h0
  clear hA0 hval0
  simp only [List.append_nil] at hW'
  refine (walk b ao cap xs W hap hlen hsz).mono fun e W' ⟨he, bel⟩ => ?_
  subst he
  exact ⟨_, rfl, _, _, _, [], _, [], hW', trodAll_mk1 (shut_bool Try.underlying4 _), (trodAll_cons_mk (Below.trod laidOut (by kernel_rfl) (of_decide_eq_true (by kernel_rfl)) k0 bel lt0) trodAll_mk0), rfl, bel.frame _, fun h => by cases h⟩

theorem over : Rows.fnExactValidSendRow.holds Try.pinned (OpenSpec.ofChange Rows.fnExactValidSendSpec) :=
  OpenClaim.holds_of_wide 8 Try.f8 rfl rfl rfl rfl rfl rfl rfl ⟨rfl, rfl, rfl, rfl, rfl⟩ rfl rfl rfl rfl rfl (by kernel_rfl) Try.func8 (by kernel_rfl)
    (of_decide_eq_true (by kernel_rfl)) (by unfold Func.isWrapper; first | (rw [if_pos (by decide +kernel)]; kernel_rfl) | (rw [if_neg (by decide +kernel)]; exact ⟨rfl, rfl⟩))
    (fun os started H enc _ => lifted os started H enc)

theorem proved : Rows.FnExactValidSendSaid :=
  over
#print axioms proved
end Go.Proofs.Ytdmlhfbnhhafmaa.fnExactValidSend

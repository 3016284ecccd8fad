/-
  THE LAW laws.FnExactValidEnd: the walk over the contracts, and the row.
-/
import Derived.Test.YtmliinglojmojaaRows
import Derived.WalkKit
import Derived.ProofKit
import Derived.OpenShut
import Derived.ShutString
import Derived.ChangeOld
import Derived.Below
import Derived.Test.YtmliinglojmojaaValE
import Derived.Test.YtmliinglojmojaaOpenEn
import Derived.Carry
namespace Go.Proofs.Ytmliinglojmojaa.fnExactValidEnd
open Go.ChangeShapes Go.WideShapes Go.ChangeAt Go.RowKit
open Go.ChangeMaps (open_string shut_string)
set_option linter.unusedVariables false

theorem own : ownKnob Try.prog.godebug = none := by kernel_rfl

theorem laidOut : laidOutB Try.prog = true := by kernel_rfl
/-! ### THE WALK of the law -/
set_option maxHeartbeats 4000000 in
theorem walk (e : mk.En) (ao ho so : Option Addr) (ci ch cs : Nat) (w : World) (ha : mk.Ae w e ao ho so) (hm : mk.Se maxLen e) :
    Calls Try.prog 4 #[.agg #[.int .i64 e.num, .bool e.up, .int .i64 e.life, .int .i64 e.peer, .int .i64 e.since, .bool e.owes, .int .i64 e.b, .slice ao e.xs.length ci, .int .i64 e.nx, .slice ho e.hs.length ch, .string e.o, .slice so e.rs.length cs]] w fun e w' => e = .returned (.bool true) ∧ Below w.heap.size w w' := by
  have b0 : Hid (Below w.heap.size w (w.alloc (.cells #[.int .i64 e.num, .bool e.up, .int .i64 e.life, .int .i64 e.peer, .int .i64 e.since, .bool e.owes, .int .i64 e.b, .slice ao e.xs.length ci, .int .i64 e.nx, .slice ho e.hs.length ch, .string e.o, .slice so e.rs.length cs] 39))) := (Below.refl _ _).alloc (Nat.le_refl _) _
  have X0 : Hid (mk.Ex (w.alloc (.cells #[.int .i64 e.num, .bool e.up, .int .i64 e.life, .int .i64 e.peer, .int .i64 e.since, .bool e.owes, .int .i64 e.b, .slice ao e.xs.length ci, .int .i64 e.nx, .slice ho e.hs.length ch, .string e.o, .slice so e.rs.length cs] 39)) w.heap.size #[.int .i64 e.num, .bool e.up, .int .i64 e.life, .int .i64 e.peer, .int .i64 e.since, .bool e.owes, .int .i64 e.b, .slice ao e.xs.length ci, .int .i64 e.nx, .slice ho e.hs.length ch, .string e.o, .slice so e.rs.length cs]) := mk.Ex.new w _ _
  have HA : Hid (mk.Ae w e ao ho so) := ha
  have HM : Hid (mk.Se maxLen e) := hm
  clear ha hm
  go_enter Try.func4, Try.ntmps4
  go_wp2_with (go_at_call 14; refine (mk.szEnd_any e ao ho so ci ch cs _ _ (by omega) HM.out (HA.out.keep b0.out)).mono ?_; rintro e' w1 ⟨⟨z, rfl, hz1, hz2, hz3⟩, hb1⟩; (have HZ : Hid (0 ≤ z → mk.Se 1048576 e) := hz3); clear hz3; (have X1 := X0.out.keep hb1); (obtain ⟨d0, d1, d2, d3, d4, d5, d6, d7, d8, d9, d10, d11⟩ := X1.cells))
  · go_ret
    exact ⟨rfl, mk.kb b0.out hb1 (Nat.le_refl _)⟩
  have HS : Hid (mk.Se 1048576 e) := HZ.out (by omega)
  have B1 := mk.kb b0.out hb1 (Nat.le_refl _)
  clear HZ b0 X0 hb1 HM
  obtain ⟨V, hV⟩ : ∃ V, V = mk.enOk e.num e.up e.life e.peer e.since e.owes e.b e.xs e.nx e.hs e.o e.rs := ⟨_, rfl⟩
  have S1 : Hid (∀ (u : World) (a h s : Option Addr) (c i k : Nat), mk.Re u e a h s → Calls Try.prog 15 #[.agg #[.int .i64 e.num, .bool e.up, .int .i64 e.life, .int .i64 e.peer, .int .i64 e.since, .bool e.owes, .int .i64 e.b, .slice a e.xs.length c, .int .i64 e.nx, .slice h e.hs.length i, .string e.o, .slice s e.rs.length k]] u fun e w' => e = .returned (.bool V) ∧ Below u.heap.size u w') := fun u a h s c i k hr => by rw [hV]; exact mk.specValidEnd_any e.num e.up e.life e.peer e.since e.owes e.b e.xs e.nx e.hs e.o e.rs a h s c i k u HS.out.n HS.out.t HS.out.tk.n HS.out.tk.t HS.out.tk.o HS.out.tk.k HS.out.tk.r hr.send hr.take
  have S2 : Hid (∀ (u : World) (a h s : Option Addr) (c i k : Nat), mk.Re u e a h s → Calls Try.prog 17 #[.agg #[.int .i64 e.num, .bool e.up, .int .i64 e.life, .int .i64 e.peer, .int .i64 e.since, .bool e.owes, .int .i64 e.b, .slice a e.xs.length c, .int .i64 e.nx, .slice h e.hs.length i, .string e.o, .slice s e.rs.length k]] u fun e w' => e = .returned (.bool V) ∧ Below u.heap.size u w') := fun u a h s c i k hr => by rw [hV]; exact mk.implValidEnd_any e.num e.up e.life e.peer e.since e.owes e.b e.xs e.nx e.hs e.o e.rs a h s c i k u HS.out.n HS.out.t HS.out.tk.n HS.out.tk.t HS.out.tk.o HS.out.tk.k HS.out.tk.r hr.send hr.take
  clear hV
  go_wp2_with (first
    | (go_at_call 16; refine (mk.toEnd_any e ao ho so ci ch cs _ HS.out (HA.out.keep B1)).mono ?_; rintro e' w2 ⟨⟨g2, k2, q2, rfl, ho2, hp2, hq2⟩, hb2⟩)
    | (go_at_call 15; refine (S1.out _ _ _ _ _ _ _ ⟨mk.owns_rs ho2, mk.owns_rs hp2, mk.owns_rs hq2⟩).mono ?_; rintro e' w3 ⟨rfl, hb3⟩; (have X3 := (X1.keep hb2).keep hb3); clear d0 d1 d2 d3 d4 d5 d6 d7 d8 d9 d10 d11; (obtain ⟨d0, d1, d2, d3, d4, d5, d6, d7, d8, d9, d10, d11⟩ := X3.cells))
    | fail)
  have B3 := mk.kb (mk.kb B1 hb2 (Nat.le_refl _)) hb3 (Nat.le_refl _)
  clear ho2 hp2 hq2 hb2 hb3 B1 X1
  go_wp2_with (first
    | (go_at_call 16; refine (mk.toEnd_any e ao ho so ci ch cs _ HS.out (HA.out.keep B3)).mono ?_; rintro e' w4 ⟨⟨g4, k4, q4, rfl, ho4, hp4, hq4⟩, hb4⟩; (have X4 := mk.Ex.new w4 49 #[.int .i64 e.num, .bool e.up, .int .i64 e.life, .int .i64 e.peer, .int .i64 e.since, .bool e.owes, .int .i64 e.b, .slice (some ⟨g4, 0, none⟩) e.xs.length e.xs.length, .int .i64 e.nx, .slice (some ⟨k4, 0, none⟩) e.hs.length e.hs.length, .string e.o, .slice (some ⟨q4, 0, none⟩) e.rs.length e.rs.length]))
    | (go_at_call 17; refine (S2.out _ _ _ _ _ _ _ ⟨mk.owns_rs (ho4.alloc _), mk.owns_rs (hp4.alloc _), mk.owns_rs (hq4.alloc _)⟩).mono ?_; rintro e' w5 ⟨rfl, hb5⟩; (have Y5 := ((X3.keep hb4).alloc (.cells #[.int .i64 e.num, .bool e.up, .int .i64 e.life, .int .i64 e.peer, .int .i64 e.since, .bool e.owes, .int .i64 e.b, .slice (some ⟨g4, 0, none⟩) e.xs.length e.xs.length, .int .i64 e.nx, .slice (some ⟨k4, 0, none⟩) e.hs.length e.hs.length, .string e.o, .slice (some ⟨q4, 0, none⟩) e.rs.length e.rs.length] 49)).keep hb5); (have X5 := X4.keep hb5); clear d0 d1 d2 d3 d4 d5 d6 d7 d8 d9 d10 d11; (obtain ⟨d0, d1, d2, d3, d4, d5, d6, d7, d8, d9, d10, d11⟩ := Y5.cells); (obtain ⟨x0, x1, x2, x3, x4, x5, x6, x7, x8, x9, x10, x11⟩ := X5.cells))
    | fail)
  have R5 : Hid (mk.Re w5 e (some ⟨g4, 0, none⟩) (some ⟨k4, 0, none⟩) (some ⟨q4, 0, none⟩)) := (⟨mk.owns_rs (mk.owns_keep (ho4.alloc _) hb5), mk.owns_rs (mk.owns_keep (hp4.alloc _) hb5), mk.owns_rs (mk.owns_keep (hq4.alloc _) hb5)⟩ : mk.Re w5 e (some ⟨g4, 0, none⟩) (some ⟨k4, 0, none⟩) (some ⟨q4, 0, none⟩))
  have B4 := mk.kb B3 hb4 (Nat.le_refl _)
  have B5 : Hid (Below w.heap.size w w5) := mk.kb (B4.alloc B4.size _) hb5 (Nat.le_refl _)
  have hx5 : w4.heap.size < w5.heap.size := X5.lt
  have hs5 : w.heap.size < w5.heap.size := Y5.lt
  clear ho4 hp4 hq4 hb4 hb5 B3 B4 X3 X4 S1 S2 X5 Y5
  go_wp2
  go_region_held3 (fun w' => w'.cell? ⟨w.heap.size, 0, none⟩ = some (.int .i64 e.num) ∧ w'.cell? ⟨w.heap.size, 1, none⟩ = some (.bool e.up) ∧ w'.cell? ⟨w.heap.size, 2, none⟩ = some (.int .i64 e.life) ∧ w'.cell? ⟨w.heap.size, 3, none⟩ = some (.int .i64 e.peer) ∧ w'.cell? ⟨w.heap.size, 4, none⟩ = some (.int .i64 e.since) ∧ w'.cell? ⟨w.heap.size, 5, none⟩ = some (.bool e.owes) ∧ w'.cell? ⟨w.heap.size, 6, none⟩ = some (.int .i64 e.b) ∧ w'.cell? ⟨w.heap.size, 7, none⟩ = some (.slice ao e.xs.length ci) ∧ w'.cell? ⟨w.heap.size, 8, none⟩ = some (.int .i64 e.nx) ∧ w'.cell? ⟨w.heap.size, 9, none⟩ = some (.slice ho e.hs.length ch) ∧ w'.cell? ⟨w.heap.size, 10, none⟩ = some (.string e.o) ∧ w'.cell? ⟨w.heap.size, 11, none⟩ = some (.slice so e.rs.length cs) ∧ w'.cell? ⟨w4.heap.size, 0, none⟩ = some (.int .i64 e.num) ∧ w'.cell? ⟨w4.heap.size, 1, none⟩ = some (.bool e.up) ∧ w'.cell? ⟨w4.heap.size, 2, none⟩ = some (.int .i64 e.life) ∧ w'.cell? ⟨w4.heap.size, 3, none⟩ = some (.int .i64 e.peer) ∧ w'.cell? ⟨w4.heap.size, 4, none⟩ = some (.int .i64 e.since) ∧ w'.cell? ⟨w4.heap.size, 5, none⟩ = some (.bool e.owes) ∧ w'.cell? ⟨w4.heap.size, 6, none⟩ = some (.int .i64 e.b) ∧ w'.cell? ⟨w4.heap.size, 7, none⟩ = some (.slice (some ⟨g4, 0, none⟩) e.xs.length e.xs.length) ∧ w'.cell? ⟨w4.heap.size, 8, none⟩ = some (.int .i64 e.nx) ∧ w'.cell? ⟨w4.heap.size, 9, none⟩ = some (.slice (some ⟨k4, 0, none⟩) e.hs.length e.hs.length) ∧ w'.cell? ⟨w4.heap.size, 10, none⟩ = some (.string e.o) ∧ w'.cell? ⟨w4.heap.size, 11, none⟩ = some (.slice (some ⟨q4, 0, none⟩) e.rs.length e.rs.length) ∧ Below w5.heap.size w5 w')
    (first | assumption | exact ⟨d0, d1, d2, d3, d4, d5, d6, d7, d8, d9, d10, d11, x0, x1, x2, x3, x4, x5, x6, x7, x8, x9, x10, x11, (Below.refl _ _).drew⟩ | (go_split_ands; refine ⟨mk.kp (by assumption) (by assumption) hb6 hs5, mk.kp (by assumption) (by assumption) hb6 hs5, mk.kp (by assumption) (by assumption) hb6 hs5, mk.kp (by assumption) (by assumption) hb6 hs5, mk.kp (by assumption) (by assumption) hb6 hs5, mk.kp (by assumption) (by assumption) hb6 hs5, mk.kp (by assumption) (by assumption) hb6 hs5, mk.kp (by assumption) (by assumption) hb6 hs5, mk.kp (by assumption) (by assumption) hb6 hs5, mk.kp (by assumption) (by assumption) hb6 hs5, mk.kp (by assumption) (by assumption) hb6 hs5, mk.kp (by assumption) (by assumption) hb6 hs5, mk.kp (by assumption) (by assumption) hb6 hx5, mk.kp (by assumption) (by assumption) hb6 hx5, mk.kp (by assumption) (by assumption) hb6 hx5, mk.kp (by assumption) (by assumption) hb6 hx5, mk.kp (by assumption) (by assumption) hb6 hx5, mk.kp (by assumption) (by assumption) hb6 hx5, mk.kp (by assumption) (by assumption) hb6 hx5, mk.kp (by assumption) (by assumption) hb6 hx5, mk.kp (by assumption) (by assumption) hb6 hx5, mk.kp (by assumption) (by assumption) hb6 hx5, mk.kp (by assumption) (by assumption) hb6 hx5, mk.kp (by assumption) (by assumption) hb6 hx5, mk.kb (by assumption) hb6 (Nat.le_refl _)⟩))
    (first
      | (go_at_call 16; refine (mk.toEnd_any e ao ho so ci ch cs _ HS.out (HA.out.keep (mk.kb B5.out (by go_split_ands; assumption) (Nat.le_refl _)))).mono ?_; rintro e' w6 ⟨⟨g6, k6, q6, rfl, ho6, hp6, hq6⟩, hb6⟩)
      | (go_at_call 18; refine (mk.eqEnd_same e _ _ _ _ _ _ _ _ _ _ _ _ _ (by have := HS.out.n; omega) (by have := HS.out.tk.n; omega) (by have := HS.out.tk.k; omega) (R5.out.keep (by go_split_ands; assumption)) ⟨mk.owns_rs ho6, mk.owns_rs hp6, mk.owns_rs hq6⟩).mono ?_; rintro e' w6 ⟨rfl, hb6⟩))
  have hbl : Below w5.heap.size w5 w6 := by go_split_ands; assumption
  go_wp2
  go_ret
  exact ⟨rfl, mk.kb B5.out hbl (Nat.le_refl _)⟩

set_option maxRecDepth 100000 in
theorem lifted (os : Os) (started : os.Started) (H : Type) (enc : TypeId × Value → H) :
    ReturnsInHanded {} Try.checked os 4 .any (Rows.fnExactValidEndSpec.pre6 enc Try.prog Try.f4 Rows.fnExactValidEndRow.domain false) (Rows.fnExactValidEndSpec.post enc Try.prog Try.f4 false true false false) := by
  refine returnsInHanded_of_change (C := Try.checked) own started (by kernel_rfl) Try.func4
    (ChangeSpec.witness6 (enc := enc) (C := Try.checked) false ⟨#[], #[.agg #[.int .i64 0, .bool false, .int .i64 0, .int .i64 0, .int .i64 0, .bool false, .int .i64 0, .slice none 0 0, .int .i64 0, .slice none 0 0, .string ByteArray.empty, .slice none 0 0]], []⟩ 8 (by kernel_rfl) (by kernel_rfl) (by kernel_rfl) (by kernel_rfl)) ?_
  intro W base args ds gs before hval0 hW hcnd _
  have hval : ∀ (j : Nat) t v, Try.f4.params[j]? = some t → args[j]? = some v → Value.okWide Try.prog W .any base t v := hval0
  have hW' := hW
  obtain ⟨p, q, hA0, hV, rfl, hfz, hnd⟩ := hW
  have hA : DataW.TrodAll enc Try.prog W 0 (fun _ => true) true Try.f4.params.toList args.toList ds p := hA0
  rw [Try.params4] at hA hval
  obtain ⟨v0, vs0, d0, ds0, p0, q0, hargs, rfl, rfl, h0, r0⟩ := trodAll_cons hA
  obtain ⟨rfl, rfl, rfl⟩ := trodAll_nil r0
  obtain rfl : args = #[v0] := by cases args; simp_all
  obtain ⟨rfl, rfl⟩ := trodVars_none hV
  have k0 := h0
  have lt0 : ∀ x ∈ p0, x.block < W.heap.size := by obtain ⟨m, hm⟩ := k0; exact DataW.trod_lt m _ _ _ hm
  obtain ⟨e, ao, ho, so, ci, ch, cs, rfl, hae, hse⟩ := openedE.endv (hval 0 39 v0 rfl rfl) h0
  clear hA0 hval0
  simp only [List.append_nil] at hW'
  refine (walk e ao ho so ci ch cs W hae hse).mono fun e W' ⟨he, bel⟩ => ?_
  subst he
  exact ⟨_, rfl, _, _, _, [], _, [], hW', trodAll_mk1 (shut_bool Try.underlying4 _), (trodAll_cons_mk (Below.trod laidOut (by kernel_rfl) (of_decide_eq_true (by kernel_rfl)) k0 bel lt0) trodAll_mk0), rfl, bel.frame _, fun h => by cases h⟩

theorem over : Rows.fnExactValidEndRow.holds Try.pinned (OpenSpec.ofChange Rows.fnExactValidEndSpec) :=
  OpenClaim.holds_of_wide 4 Try.f4 rfl rfl rfl rfl rfl rfl rfl ⟨rfl, rfl, rfl, rfl, rfl⟩ rfl rfl rfl rfl rfl (by kernel_rfl) Try.func4 (by kernel_rfl)
    (of_decide_eq_true (by kernel_rfl)) (by unfold Func.isWrapper; first | (rw [if_pos (by decide +kernel)]; kernel_rfl) | (rw [if_neg (by decide +kernel)]; exact ⟨rfl, rfl⟩))
    (fun os started H enc _ => lifted os started H enc)

theorem proved : Rows.FnExactValidEndSaid :=
  over
#print axioms proved
end Go.Proofs.Ytmliinglojmojaa.fnExactValidEnd

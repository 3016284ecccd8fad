/-
  THE LAW laws.FnExactFormPacket: the walk over both contracts, and the row.
-/
import Derived.Test.YtdmlhfbnhhafmaaOpenPk
import Derived.Test.YtdmlhfbnhhafmaaFormE
namespace Go.Proofs.Ytdmlhfbnhhafmaa.fnExactFormPacket
open Go.ChangeShapes Go.WideShapes Go.ChangeAt Go.RowKit
open Go.ChangeMaps (open_string shut_string)
set_option linter.unusedVariables false

theorem own : ownKnob Try.prog.godebug = none := by kernel_rfl
theorem laidOut : laidOutB Try.prog = true := by kernel_rfl

theorem step9 {k f m y nx mk sq : Int} {l : Bool} {p : ByteArray} {w W W' : World} (h : (fun w' => w'.cell? ⟨w.heap.size, 0, none⟩ = some (.int .i64 k) ∧ w'.cell? ⟨w.heap.size, 1, none⟩ = some (.int .i64 f) ∧ w'.cell? ⟨w.heap.size, 2, none⟩ = some (.int .i64 m) ∧ w'.cell? ⟨w.heap.size, 3, none⟩ = some (.int .i64 y) ∧ w'.cell? ⟨w.heap.size, 4, none⟩ = some (.int .i64 nx) ∧ w'.cell? ⟨w.heap.size, 5, none⟩ = some (.int .i64 mk) ∧ w'.cell? ⟨w.heap.size, 6, none⟩ = some (.int .i64 sq) ∧ w'.cell? ⟨w.heap.size, 7, none⟩ = some (.bool l) ∧ w'.cell? ⟨w.heap.size, 8, none⟩ = some (.string p) ∧ Below w.heap.size w w' ∧ w.heap.size < w'.heap.size) W) (hb : Below W.heap.size W W') : (fun w' => w'.cell? ⟨w.heap.size, 0, none⟩ = some (.int .i64 k) ∧ w'.cell? ⟨w.heap.size, 1, none⟩ = some (.int .i64 f) ∧ w'.cell? ⟨w.heap.size, 2, none⟩ = some (.int .i64 m) ∧ w'.cell? ⟨w.heap.size, 3, none⟩ = some (.int .i64 y) ∧ w'.cell? ⟨w.heap.size, 4, none⟩ = some (.int .i64 nx) ∧ w'.cell? ⟨w.heap.size, 5, none⟩ = some (.int .i64 mk) ∧ w'.cell? ⟨w.heap.size, 6, none⟩ = some (.int .i64 sq) ∧ w'.cell? ⟨w.heap.size, 7, none⟩ = some (.bool l) ∧ w'.cell? ⟨w.heap.size, 8, none⟩ = some (.string p) ∧ Below w.heap.size w w' ∧ w.heap.size < w'.heap.size) W' := by
  obtain ⟨a0, a1, a2, a3, a4, a5, a6, a7, a8, hbl, hs⟩ := h
  exact ⟨tag.keep_cell hb hs a0, tag.keep_cell hb hs a1, tag.keep_cell hb hs a2, tag.keep_cell hb hs a3, tag.keep_cell hb hs a4, tag.keep_cell hb hs a5, tag.keep_cell hb hs a6, tag.keep_cell hb hs a7, tag.keep_cell hb hs a8, tag.keep_below hb hs hbl, tag.keep_size hb hs⟩

theorem szPacket_any (k f m y nx mk sq : Int) (l : Bool) (p : ByteArray) (w : World) (hp : p.size ≤ maxLen) :
    Calls Try.prog 26 #[.agg #[.int .i64 k, .int .i64 f, .int .i64 m, .int .i64 y, .int .i64 nx, .int .i64 mk, .int .i64 sq, .bool l, .string p], .int .i64 1048576] w fun e w' =>
      (∃ z : Int, e = .returned (.int .i64 z)) ∧ Below w.heap.size w w' := by
  unfold maxLen at hp
  go_enter Try.func26, Try.ntmps26
  go_wp2
  all_goals go_ret
  all_goals exact ⟨⟨_, rfl⟩, (Below.refl _ _).alloc (Nat.le_refl _) _⟩

theorem walk (k f m y nx mk sq : Int) (l : Bool) (p key : ByteArray) (n : Int) (w : World) (hp : p.size ≤ maxLen) :
    Calls Try.prog 7 #[.agg #[.int .i64 k, .int .i64 f, .int .i64 m, .int .i64 y, .int .i64 nx, .int .i64 mk, .int .i64 sq, .bool l, .string p], .string key, .int .i64 n] w fun e w' => e = .returned (.bool true) ∧ Below w.heap.size w w' := by
  by_cases h1 : (key.size : Int) ≤ 1048576
  · have hk : key.size ≤ 1048576 := by omega
    have tok1 : True := trivial
    go_enter Try.func7, Try.ntmps7
    go_wp2_with (first
      | (go_at_call 26; refine (szPacket_any k f m y nx mk sq l p _ hp).mono ?_; rintro e w1 ⟨⟨z, rfl⟩, hb1⟩; (have hS1 : Hid ((fun w' => w'.cell? ⟨w.heap.size, 0, none⟩ = some (.int .i64 k) ∧ w'.cell? ⟨w.heap.size, 1, none⟩ = some (.int .i64 f) ∧ w'.cell? ⟨w.heap.size, 2, none⟩ = some (.int .i64 m) ∧ w'.cell? ⟨w.heap.size, 3, none⟩ = some (.int .i64 y) ∧ w'.cell? ⟨w.heap.size, 4, none⟩ = some (.int .i64 nx) ∧ w'.cell? ⟨w.heap.size, 5, none⟩ = some (.int .i64 mk) ∧ w'.cell? ⟨w.heap.size, 6, none⟩ = some (.int .i64 sq) ∧ w'.cell? ⟨w.heap.size, 7, none⟩ = some (.bool l) ∧ w'.cell? ⟨w.heap.size, 8, none⟩ = some (.string p) ∧ Below w.heap.size w w' ∧ w.heap.size < w'.heap.size) w1) := tag.held9 hb1); (obtain ⟨a0, a1, a2, a3, a4, a5, a6, a7, a8, -, -⟩ := hS1.out); clear hb1)
      | (go_at_call 28; have _t := tok1; refine (tag.toPacket_any k f m y nx mk sq l p _).mono ?_; rintro e w2 ⟨rfl, hb2⟩; (have hS2 : Hid ((fun w' => w'.cell? ⟨w.heap.size, 0, none⟩ = some (.int .i64 k) ∧ w'.cell? ⟨w.heap.size, 1, none⟩ = some (.int .i64 f) ∧ w'.cell? ⟨w.heap.size, 2, none⟩ = some (.int .i64 m) ∧ w'.cell? ⟨w.heap.size, 3, none⟩ = some (.int .i64 y) ∧ w'.cell? ⟨w.heap.size, 4, none⟩ = some (.int .i64 nx) ∧ w'.cell? ⟨w.heap.size, 5, none⟩ = some (.int .i64 mk) ∧ w'.cell? ⟨w.heap.size, 6, none⟩ = some (.int .i64 sq) ∧ w'.cell? ⟨w.heap.size, 7, none⟩ = some (.bool l) ∧ w'.cell? ⟨w.heap.size, 8, none⟩ = some (.string p) ∧ Below w.heap.size w w' ∧ w.heap.size < w'.heap.size) w2) := step9 hS1.out hb2); clear tok1 hb2)
      | (go_at_call 27; refine (tag.specForm_any k f m y nx mk sq l p key n _ hk).mono ?_; rintro e w3 ⟨rfl, hb3⟩; (have hS3 : Hid ((fun w' => w'.cell? ⟨w.heap.size, 0, none⟩ = some (.int .i64 k) ∧ w'.cell? ⟨w.heap.size, 1, none⟩ = some (.int .i64 f) ∧ w'.cell? ⟨w.heap.size, 2, none⟩ = some (.int .i64 m) ∧ w'.cell? ⟨w.heap.size, 3, none⟩ = some (.int .i64 y) ∧ w'.cell? ⟨w.heap.size, 4, none⟩ = some (.int .i64 nx) ∧ w'.cell? ⟨w.heap.size, 5, none⟩ = some (.int .i64 mk) ∧ w'.cell? ⟨w.heap.size, 6, none⟩ = some (.int .i64 sq) ∧ w'.cell? ⟨w.heap.size, 7, none⟩ = some (.bool l) ∧ w'.cell? ⟨w.heap.size, 8, none⟩ = some (.string p) ∧ Below w.heap.size w w' ∧ w.heap.size < w'.heap.size) w3) := step9 hS2.out hb3); (obtain ⟨b0, b1, b2, b3, b4, b5, b6, b7, b8, -, -⟩ := hS3.out); clear hb3)
      | (go_at_call 28; refine (tag.toPacket_any k f m y nx mk sq l p _).mono ?_; rintro e w4 ⟨rfl, hb4⟩; (have hS4 : Hid ((fun w' => w'.cell? ⟨w.heap.size, 0, none⟩ = some (.int .i64 k) ∧ w'.cell? ⟨w.heap.size, 1, none⟩ = some (.int .i64 f) ∧ w'.cell? ⟨w.heap.size, 2, none⟩ = some (.int .i64 m) ∧ w'.cell? ⟨w.heap.size, 3, none⟩ = some (.int .i64 y) ∧ w'.cell? ⟨w.heap.size, 4, none⟩ = some (.int .i64 nx) ∧ w'.cell? ⟨w.heap.size, 5, none⟩ = some (.int .i64 mk) ∧ w'.cell? ⟨w.heap.size, 6, none⟩ = some (.int .i64 sq) ∧ w'.cell? ⟨w.heap.size, 7, none⟩ = some (.bool l) ∧ w'.cell? ⟨w.heap.size, 8, none⟩ = some (.string p) ∧ Below w.heap.size w w' ∧ w.heap.size < w'.heap.size) w4) := step9 hS3.out hb4); clear hb4)
      | (go_at_call 29; refine (tag.implForm_any k f m y nx mk sq l p key n _ hk).mono ?_; rintro e w5 ⟨rfl, hb5⟩; (have hS5 : Hid ((fun w' => w'.cell? ⟨w.heap.size, 0, none⟩ = some (.int .i64 k) ∧ w'.cell? ⟨w.heap.size, 1, none⟩ = some (.int .i64 f) ∧ w'.cell? ⟨w.heap.size, 2, none⟩ = some (.int .i64 m) ∧ w'.cell? ⟨w.heap.size, 3, none⟩ = some (.int .i64 y) ∧ w'.cell? ⟨w.heap.size, 4, none⟩ = some (.int .i64 nx) ∧ w'.cell? ⟨w.heap.size, 5, none⟩ = some (.int .i64 mk) ∧ w'.cell? ⟨w.heap.size, 6, none⟩ = some (.int .i64 sq) ∧ w'.cell? ⟨w.heap.size, 7, none⟩ = some (.bool l) ∧ w'.cell? ⟨w.heap.size, 8, none⟩ = some (.string p) ∧ Below w.heap.size w w' ∧ w.heap.size < w'.heap.size) w5) := step9 hS4.out hb5); clear hb5))
    · go_ret
      exact ⟨rfl, hS1.out.2.2.2.2.2.2.2.2.2.1⟩
    · go_ret
      exact ⟨rfl, hS5.out.2.2.2.2.2.2.2.2.2.1⟩
  · go_enter Try.func7, Try.ntmps7
    go_wp2
    go_ret
    exact ⟨rfl, (Below.refl _ _).alloc (Nat.le_refl _) _⟩

set_option maxRecDepth 100000 in
theorem lifted (os : Os) (started : os.Started) (H : Type) (enc : TypeId × Value → H) :
    ReturnsInHanded {} Try.checked os 7 .any (Rows.fnExactFormPacketSpec.pre6 enc Try.prog Try.f7 Rows.fnExactFormPacketRow.domain false) (Rows.fnExactFormPacketSpec.post enc Try.prog Try.f7 false true false false) := by
  refine returnsInHanded_of_change (C := Try.checked) own started (by kernel_rfl) Try.func7
    (ChangeSpec.witness6 (enc := enc) (C := Try.checked) false ⟨#[], #[.agg #[.int .i64 0, .int .i64 0, .int .i64 0, .int .i64 0, .int .i64 0, .int .i64 0, .int .i64 0, .bool false, .string ByteArray.empty], .string ByteArray.empty, .int .i64 0], []⟩ 8 (by kernel_rfl) (by kernel_rfl) (by kernel_rfl) (by kernel_rfl)) ?_
  intro W base args ds gs before hval0 hW hcnd _
  have hval : ∀ (j : Nat) t v, Try.f7.params[j]? = some t → args[j]? = some v → Value.okWide Try.prog W .any base t v := hval0
  have hW' := hW
  obtain ⟨p, q, hA0, hV, rfl, hfz, hnd⟩ := hW
  have hA : DataW.TrodAll enc Try.prog W 0 (fun _ => true) true Try.f7.params.toList args.toList ds p := hA0
  rw [Try.params7] at hA hval
  obtain ⟨v0, vs0, d0, ds0, p0, q0, hargs, rfl, rfl, h0, r0⟩ := trodAll_cons hA
  obtain ⟨v1, vs1, d1, ds1, p1, q1, rfl, rfl, rfl, h1, r1⟩ := trodAll_cons r0
  obtain ⟨v2, vs2, d2, ds2, p2, q2, rfl, rfl, rfl, h2, r2⟩ := trodAll_cons r1
  obtain ⟨rfl, rfl, rfl⟩ := trodAll_nil r2
  obtain rfl : args = #[v0, v1, v2] := by cases args; simp_all
  obtain ⟨rfl, rfl⟩ := trodVars_none hV
  have k0 := h0
  have lt0 : ∀ x ∈ p0, x.block < W.heap.size := by obtain ⟨m, hm⟩ := k0; exact DataW.trod_lt m _ _ _ hm
  obtain ⟨b0, b1, b2, b3, b4, b5, b6, b7, b8, rfl, hsz⟩ := opened.packet (hval 0 43 v0 rfl rfl) h0
  obtain ⟨a1, rfl, rfl, rfl, w1⟩ := open_string Try.underlying9 (hval 1 9 v1 rfl rfl) h1
  obtain ⟨a2, rfl, rfl, rfl, w2⟩ := open_int Try.underlying3 (hval 2 3 v2 rfl rfl) h2
  clear hA0 hval0
  simp only [List.append_nil] at hW'
  refine (walk b0 b1 b2 b3 b4 b5 b6 b7 b8 a1 a2 W hsz).mono fun e W' ⟨he, bel⟩ => ?_
  subst he
  exact ⟨_, rfl, _, _, _, [], _, [], hW', trodAll_mk1 (shut_bool Try.underlying4 _), (trodAll_cons_mk (Below.trod laidOut (by kernel_rfl) (of_decide_eq_true (by kernel_rfl)) k0 bel lt0) (trodAll_cons_mk (shut_string Try.underlying9 w1) (trodAll_cons_mk (shut_int Try.underlying3 w2) trodAll_mk0))), rfl, bel.frame _, fun h => by cases h⟩

theorem over : Rows.fnExactFormPacketRow.holds Try.pinned (OpenSpec.ofChange Rows.fnExactFormPacketSpec) :=
  OpenClaim.holds_of_wide 7 Try.f7 rfl rfl rfl rfl rfl rfl rfl ⟨rfl, rfl, rfl, rfl, rfl⟩ rfl rfl rfl rfl rfl (by kernel_rfl) Try.func7 (by kernel_rfl)
    (of_decide_eq_true (by kernel_rfl)) (by unfold Func.isWrapper; first | (rw [if_pos (by decide +kernel)]; kernel_rfl) | (rw [if_neg (by decide +kernel)]; exact ⟨rfl, rfl⟩))
    (fun os started H enc _ => lifted os started H enc)

theorem proved : Rows.FnExactFormPacketSaid :=
  over
#print axioms proved
end Go.Proofs.Ytdmlhfbnhhafmaa.fnExactFormPacket

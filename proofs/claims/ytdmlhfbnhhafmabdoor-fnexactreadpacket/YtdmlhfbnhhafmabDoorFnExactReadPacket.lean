/-
  THE LAW laws.FnExactReadPacket: what its list of variables gives, a world that meets it, the row, the card.
-/
import Derived.Test.YtdmlhfbnhhafmabDoorReadG
import Derived.Test.YtdmlhfbnhhafmabDoorCards
import Derived.Test.YtdmlhfbnhhafmabDoorTie
import Derived.Deep.DeepHandedRow
import Derived.Deep.DeepWitnessRowRef
import Derived.Stop.LaidErr
import Derived.LaidHandle
import Derived.OpenVars
import Derived.OpenShut
import Derived.ProofKit
namespace Go.Proofs.YtdmlhfbnhhafmabDoor.fnExactReadPacket
open Go.ChangeShapes Go.WideShapes Go.ChangeAt Go.RowKit
open Go.ChangeMaps (open_string shut_string)
set_option linter.unusedVariables false

theorem own : ownKnob Tryd.prog.godebug = none := by kernel_rfl
theorem laidOut : laidOutB Tryd.prog = true := by kernel_rfl
theorem star : "*" ++ "errors.errorString" = "*errors.errorString" := by decide
theorem rowE (u : TypeId) (h : Tryd.prog.typeName? 3 u = some "*errors.errorString") : u = 96 :=
  typeName_ptr_named (nm := "errors.errorString") (by rw [star]; kernel_rfl) (by kernel_rfl) (by decide) u (by rw [star]; exact h)
theorem et : Tryd.prog.globalNamed "errors.errorType" = some 5 := by kernel_rfl
theorem rt : (Tryd.prog.cutTypes.find? (·.1 == "internal/reflectlite.rtype")).map (·.2) = some 81 := by kernel_rfl
theorem oneRow : ((List.range (229 - 100)).filter fun t => Tryd.prog.rowNamed t [101, 114, 114, 111, 114]) = [34] := by kernel_rfl
theorem size : Tryd.prog.types.size = 229 - 100 := by kernel_rfl
theorem g_errSeal : Tryd.prog.globalNamed "loop.example/kilnwind/impl.errSeal" = some 0 := by kernel_rfl
theorem t_errSeal : (Tryd.prog.globals[0]?).map (·.type) = some 34 := by kernel_rfl
theorem g_errShort : Tryd.prog.globalNamed "loop.example/kilnwind/impl.errShort" = some 1 := by kernel_rfl
theorem t_errShort : (Tryd.prog.globals[1]?).map (·.type) = some 34 := by kernel_rfl
theorem g_errSize : Tryd.prog.globalNamed "loop.example/kilnwind/impl.errSize" = some 3 := by kernel_rfl
theorem t_errSize : (Tryd.prog.globals[3]?).map (·.type) = some 34 := by kernel_rfl
theorem g_errTag : Tryd.prog.globalNamed "loop.example/kilnwind/impl.errTag" = some 2 := by kernel_rfl
theorem t_errTag : (Tryd.prog.globals[2]?).map (·.type) = some 34 := by kernel_rfl
theorem g_errMark : Tryd.prog.globalNamed "loop.example/kilnwind/impl.errMark" = some 6 := by kernel_rfl
theorem t_errMark : (Tryd.prog.globals[6]?).map (·.type) = some 34 := by kernel_rfl
theorem g_errRange : Tryd.prog.globalNamed "loop.example/kilnwind/impl.errRange" = some 4 := by kernel_rfl
theorem t_errRange : (Tryd.prog.globals[4]?).map (·.type) = some 34 := by kernel_rfl
theorem cellsE : Tryd.prog.cellsOf 117 = 1 := by kernel_rfl
theorem cellsS : Tryd.prog.cellsOf 9 = 1 := by kernel_rfl
theorem cell_lt {W : World} {k : Nat} {v : Value} (h : W.cell? ⟨k, 0, none⟩ = some v) : k < W.heap.size := by
  rcases Nat.lt_or_ge k W.heap.size with h' | h'
  · exact h'
  · simp [World.cell?, Array.getElem?_eq_none h'] at h
/-- what the list gives: every variable's cell -/
theorem gl_of_laid {W : World} (h : laidMetH Tryd.prog Rows.fnExactReadPacketRow.laid W) : tag.Gl W := by
  have h' : laidMet Tryd.prog (Rows.fnExactReadPacketRow.laid.tail) W ∧ handlesMet Tryd.prog [("errors.errorType", Rows.laid_errors_errorType)] W := h
  have h1 : laidMet Tryd.prog [("loop.example/kilnwind/impl.errSeal", Rows.laid_loop_example_kilnwind_impl_errSeal), ("loop.example/kilnwind/impl.errShort", Rows.laid_loop_example_kilnwind_impl_errShort), ("loop.example/kilnwind/impl.errSize", Rows.laid_loop_example_kilnwind_impl_errSize), ("loop.example/kilnwind/impl.errTag", Rows.laid_loop_example_kilnwind_impl_errTag), ("loop.example/kilnwind/impl.errMark", Rows.laid_loop_example_kilnwind_impl_errMark), ("loop.example/kilnwind/impl.errRange", Rows.laid_loop_example_kilnwind_impl_errRange)] W := h'.1
  obtain ⟨name, u, ty, e1, e2, e3, e4, e5⟩ := h'.2 _ (List.mem_singleton.2 rfl)
  have en : name = [101, 114, 114, 111, 114] := (Option.some.inj e1).symm
  subst en
  obtain rfl := Option.some.inj (rt.symm.trans e2)
  have hm : ty ∈ (List.range (229 - 100)).filter fun t => Tryd.prog.rowNamed t [101, 114, 114, 111, 114] := List.mem_filter.2 ⟨List.mem_range.2 (by rw [← size]; exact e3), e4⟩
  rw [oneRow] at hm
  obtain rfl := List.mem_singleton.1 hm
  have hh : typeHandle Tryd.prog 34 = .pointer (some ⟨7, 34, none⟩) := by kernel_rfl
  rw [hh] at e5
  have c : W.cell? ⟨5, 0, none⟩ = some (.iface 81 (.agg #[.pointer (some ⟨7, 34, none⟩)])) := by simpa using World.var?_cell et e5 0
  obtain ⟨a0, s0, v0, -, -, -⟩ := laid_sentinel h1 g_errSeal t_errSeal Tryd.underlying34 rowE Tryd.underlying96 Tryd.underlying117 rfl rfl Tryd.underlying9 cellsE cellsS
  have c_errSeal : W.cell? ⟨0, 0, none⟩ = some (.iface 96 (.pointer (some a0))) := by simpa using World.var?_cell g_errSeal v0 0
  obtain ⟨a1, s1, v1, -, -, -⟩ := laid_sentinel h1.tail g_errShort t_errShort Tryd.underlying34 rowE Tryd.underlying96 Tryd.underlying117 rfl rfl Tryd.underlying9 cellsE cellsS
  have c_errShort : W.cell? ⟨1, 0, none⟩ = some (.iface 96 (.pointer (some a1))) := by simpa using World.var?_cell g_errShort v1 0
  obtain ⟨a2, s2, v2, -, -, -⟩ := laid_sentinel h1.tail.tail g_errSize t_errSize Tryd.underlying34 rowE Tryd.underlying96 Tryd.underlying117 rfl rfl Tryd.underlying9 cellsE cellsS
  have c_errSize : W.cell? ⟨3, 0, none⟩ = some (.iface 96 (.pointer (some a2))) := by simpa using World.var?_cell g_errSize v2 0
  obtain ⟨a3, s3, v3, -, -, -⟩ := laid_sentinel h1.tail.tail.tail g_errTag t_errTag Tryd.underlying34 rowE Tryd.underlying96 Tryd.underlying117 rfl rfl Tryd.underlying9 cellsE cellsS
  have c_errTag : W.cell? ⟨2, 0, none⟩ = some (.iface 96 (.pointer (some a3))) := by simpa using World.var?_cell g_errTag v3 0
  obtain ⟨a4, s4, v4, -, -, -⟩ := laid_sentinel h1.tail.tail.tail.tail g_errMark t_errMark Tryd.underlying34 rowE Tryd.underlying96 Tryd.underlying117 rfl rfl Tryd.underlying9 cellsE cellsS
  have c_errMark : W.cell? ⟨6, 0, none⟩ = some (.iface 96 (.pointer (some a4))) := by simpa using World.var?_cell g_errMark v4 0
  obtain ⟨a5, s5, v5, -, -, -⟩ := laid_sentinel h1.tail.tail.tail.tail.tail g_errRange t_errRange Tryd.underlying34 rowE Tryd.underlying96 Tryd.underlying117 rfl rfl Tryd.underlying9 cellsE cellsS
  have c_errRange : W.cell? ⟨4, 0, none⟩ = some (.iface 96 (.pointer (some a5))) := by simpa using World.var?_cell g_errRange v5 0
  have z : 7 ≤ W.heap.size := by
    have z0 := cell_lt c
    have z_errSeal := cell_lt c_errSeal
    have z_errShort := cell_lt c_errShort
    have z_errSize := cell_lt c_errSize
    have z_errTag := cell_lt c_errTag
    have z_errMark := cell_lt c_errMark
    have z_errRange := cell_lt c_errRange
    omega
  exact ⟨z, ⟨_, c_errSeal⟩, ⟨_, c_errShort⟩, ⟨_, c_errTag⟩, ⟨_, c_errSize⟩, ⟨_, c_errRange⟩, ⟨_, c_errMark⟩, c⟩

theorem vars_length {H : Type} {enc : TypeId × Value → H} {P : Program} {W : World} {k : Nat → Bool} : ∀ {ns : List String} {gs : List (DataW H)} {ps : List MemPlace}, DataW.TrodVars enc P W k ns gs ps → gs.length = ns.length
  | [], [], _, _ => rfl
  | [], _ :: _, _, h => h.elim
  | _ :: _, [], _, h => h.elim
  | _ :: _, _ :: _, _, h => by
    obtain ⟨_, _, _, _, _, _, _, _, _, _, hs, _⟩ := h
    simp [vars_length hs]
/-- a world that meets the list: the settled one with six blocks more -/
noncomputable def laidWorld (os : Os) : World :=
  let N := (World.settled Tryd.prog os).heap.size
  let w0 := World.holding Tryd.prog os ⟨#[.cells #[.string ⟨#[110, 111, 32, 115, 117, 99, 104, 32, 107, 101, 121, 32, 111, 114, 32, 119, 105, 100, 116, 104]⟩] 117,
    .cells #[.string ⟨#[116, 111, 111, 32, 115, 104, 111, 114, 116]⟩] 117,
    .cells #[.string ⟨#[97, 110, 111, 116, 104, 101, 114, 32, 115, 105, 122, 101]⟩] 117,
    .cells #[.string ⟨#[97, 110, 111, 116, 104, 101, 114, 32, 116, 97, 103]⟩] 117,
    .cells #[.string ⟨#[110, 101, 105, 116, 104, 101, 114, 32, 108, 97, 115, 116, 32, 110, 111, 114, 32, 110, 111, 116, 32, 108, 97, 115, 116]⟩] 117,
    .cells #[.string ⟨#[97, 32, 110, 117, 109, 98, 101, 114, 32, 111, 114, 32, 112, 97, 114, 116, 32, 98, 101, 121, 111, 110, 100, 32, 105, 116, 115, 32, 108, 105, 109, 105, 116]⟩] 117], #[], []⟩
  let put (h : Array Obj) (g : Nat) (cs : Array Value) : Array Obj := h.modify g fun
    | .cells _ t frozen => .cells cs t frozen
    | o => o
  let h0 := put w0.heap 0 #[.iface 96 (.pointer (some ⟨N + 0, 0, none⟩))]
  let h1 := put h0 1 #[.iface 96 (.pointer (some ⟨N + 1, 0, none⟩))]
  let h2 := put h1 3 #[.iface 96 (.pointer (some ⟨N + 2, 0, none⟩))]
  let h3 := put h2 2 #[.iface 96 (.pointer (some ⟨N + 3, 0, none⟩))]
  let h4 := put h3 6 #[.iface 96 (.pointer (some ⟨N + 4, 0, none⟩))]
  let h5 := put h4 4 #[.iface 96 (.pointer (some ⟨N + 5, 0, none⟩))]
  { w0 with heap := put h5 5 #[.iface 81 (.agg #[.pointer (some ⟨7, 34, none⟩)])] }
set_option maxRecDepth 100000 in
theorem laid_met (os : Os) : laidMetH Tryd.prog Rows.fnExactReadPacketRow.laid ((laidWorld os).forCall (fun _ _ => 0) ⟨#[], #[.string ⟨#[]⟩, .string ⟨#[]⟩, .int .i64 0], []⟩).memory :=
  laidMetH_of_parts (laidMet_of_run' 8 (by kernel_rfl) (by kernel_rfl)) (by kernel_rfl)
set_option maxRecDepth 100000 in
theorem reads (os : Os) {H : Type} (enc : TypeId × Value → H) : ∃ x, DataW.whole enc Tryd.prog ((laidWorld os).forCall (fun _ _ => 0) ⟨#[], #[.string ⟨#[]⟩, .string ⟨#[]⟩, .int .i64 0], []⟩).memory Tryd.f3.params.toList Rows.fnExactReadPacketSpec.vars false (#[.string ⟨#[]⟩, .string ⟨#[]⟩, .int .i64 0] : Array Value).toList 8 = some x :=
  Option.isSome_iff_exists.1 (by kernel_rfl)

set_option maxRecDepth 100000 in
theorem lifted (os : Os) (started : os.Started) (H : Type) (enc : TypeId × Value → H) (F : Stop.Interp) :
    ReturnsInHanded {} Tryd.checked os 3 .any ((OpenSpec.ofChange Rows.fnExactReadPacketSpec).preRow enc Tryd.prog Tryd.f3 Rows.fnExactReadPacketRow.domain false Rows.fnExactReadPacketRow.laid) (((OpenSpec.ofChange Rows.fnExactReadPacketSpec).at F).post enc Tryd.prog Tryd.f3 false true false false) := by
  obtain ⟨x, hx⟩ := reads os enc
  refine returnsInHanded_of_row (C := Tryd.checked) (s := OpenSpec.ofChange Rows.fnExactReadPacketSpec) own started (by kernel_rfl) Tryd.func3
    (witness_row_atRef (enc := enc) (C := Tryd.checked) false (laidWorld os) #[.string ⟨#[]⟩, .string ⟨#[]⟩, .int .i64 0] rfl (by kernel_rfl) (by kernel_rfl) (by kernel_rfl)
      (OpenSpec.preRow_of_cond 8 hx rfl (fun k hk => by cases hk) (by kernel_rfl) (laid_met os))) ?_
  intro W base args ds gs before hval0 hW _ _ _ hL _ _
  have hval : ∀ (j : Nat) t v, Tryd.f3.params[j]? = some t → args[j]? = some v → Value.okWide Tryd.prog W .any base t v := hval0
  have hW' := hW
  obtain ⟨p, q, hA0, hV0, rfl, hfz, hnd⟩ := hW
  have hA : DataW.TrodAll enc Tryd.prog W 0 (fun _ => true) true Tryd.f3.params.toList args.toList ds p := hA0
  have hV : DataW.TrodVars enc Tryd.prog W (fun _ => true) Rows.fnExactReadPacketSpec.vars gs q := hV0
  rw [Tryd.params3] at hA hval
  obtain ⟨v0, vs0, d0, ds0, p0, q0, hargs, rfl, rfl, h0, r0⟩ := trodAll_cons hA
  obtain ⟨v1, vs1, d1, ds1, p1, q1, rfl, rfl, rfl, h1, r1⟩ := trodAll_cons r0
  obtain ⟨v2, vs2, d2, ds2, p2, q2, rfl, rfl, rfl, h2, r2⟩ := trodAll_cons r1
  obtain ⟨rfl, rfl, rfl⟩ := trodAll_nil r2
  obtain rfl : args = #[v0, v1, v2] := by cases args; simp_all
  obtain ⟨a0, rfl, rfl, rfl, w0⟩ := open_string Tryd.underlying9 (hval 0 9 v0 rfl rfl) h0
  obtain ⟨a1, rfl, rfl, rfl, w1⟩ := open_string Tryd.underlying9 (hval 1 9 v1 rfl rfl) h1
  obtain ⟨a2, rfl, rfl, rfl, w2⟩ := open_int Tryd.underlying3 (hval 2 3 v2 rfl rfl) h2
  clear hA0 hval0 hV0
  obtain ⟨g1, g2, g3, g4, g5, g6, rfl⟩ : ∃ g1 g2 g3 g4 g5 g6, gs = [g1, g2, g3, g4, g5, g6] := by
    have hl := vars_length hV
    match gs, hl with
    | [g1, g2, g3, g4, g5, g6], _ => exact ⟨_, _, _, _, _, _, rfl⟩
  refine (tag.law a0 a1 a2 W (gl_of_laid hL)).mono fun e W' ⟨he, bel⟩ => ?_
  subst he
  exact ⟨_, rfl, _, _, _, [], [], _, hW', trodAll_mk1 (shut_bool Tryd.underlying4 _), (trodAll_cons_mk (shut_string Tryd.underlying9 w0) (trodAll_cons_mk (shut_string Tryd.underlying9 w1) (trodAll_cons_mk (shut_int Tryd.underlying3 w2) trodAll_mk0))), Below.trodVars laidOut bel (by kernel_rfl) hV, bel.frame _, fun h => by cases h⟩

theorem said : Rows.FnExactReadPacketSaid :=
  OpenClaim.holds_of_cond 3 Tryd.f3 rfl rfl rfl rfl rfl rfl rfl ⟨rfl, rfl, rfl, rfl, rfl⟩ rfl rfl rfl rfl rfl (by kernel_rfl) Tryd.func3 (by kernel_rfl)
    (of_decide_eq_true (by kernel_rfl)) (by unfold Func.isWrapper; first | (rw [if_pos (by decide +kernel)]; kernel_rfl) | (rw [if_neg (by decide +kernel)]; exact ⟨rfl, rfl⟩))
    (fun os started H enc _ F => by rw [OpenClaim.pre_eq_preRow]; exact lifted os started H enc F)

/-- no parameter wants a stand-in -/
theorem plain (f : FuncId) (fn : Func) (hf : Tryd.pinned.checked.prog.funcNamed "loop.example/kilnwind/laws.FnExactReadPacket" = some f) (hfn : Tryd.pinned.checked.prog.funcs[f]? = some fn) :
    true = Tryd.pinned.checked.prog.looks [] ∧ ∀ (j : Nat) t, fn.params[j]? = some t → Tryd.pinned.checked.prog.wantsStandIn t = false := by
  obtain rfl : f = 3 := Option.some.inj ((show Tryd.prog.funcNamed "loop.example/kilnwind/laws.FnExactReadPacket" = some 3 by kernel_rfl).symm.trans hf) |>.symm
  obtain rfl : fn = Tryd.f3 := (Option.some.inj (Tryd.func3.symm.trans hfn)).symm
  refine ⟨by kernel_rfl, fun j t ht => ?_⟩
  rw [Tryd.params3] at ht
  have hm : t = 9 ∨ t = 9 ∨ t = 3 := by simpa using Array.mem_of_getElem? ht
  rcases hm with rfl | rfl | rfl
  · exact (show Tryd.prog.wantsStandIn 9 = false by kernel_rfl)
  · exact (show Tryd.prog.wantsStandIn 9 = false by kernel_rfl)
  · exact (show Tryd.prog.wantsStandIn 3 = false by kernel_rfl)

theorem card : Rows.FnExactReadPacketCardSaid :=
  Claim7.holds_tied_plain_at .later [] _ _ _ _ said (fun _ h => by cases h) (by kernel_rfl) (fun _ h => by cases h) fnExactReadPacket_row_tie rfl ⟨rfl, rfl⟩ (by kernel_rfl) rfl plain (by kernel_rfl)
#print axioms card
end Go.Proofs.YtdmlhfbnhhafmabDoor.fnExactReadPacket

/-
  RIGHT WORLDS: one contract a side.
-/
import Derived.Test.YtmliinglojmojaaRtC
namespace Go.Proofs.Ytmliinglojmojaa.mk
open Go.RowKit
set_option linter.unusedVariables false

theorem woOk_parts {key : ByteArray} {width : Int} {es : List Ev} {fl : List Pc} {gv tk : List Rc} (h : woOk key width es fl gv tk = true) : gv.length + tk.length ≤ 400 ∧ rcsOk gv = true ∧ rcsOk tk = true := by
  unfold woOk at h
  simp only [Bool.and_eq_true, decide_eq_true_eq] at h
  obtain ⟨⟨⟨⟨⟨⟨_, _⟩, h3⟩, _⟩, _⟩, h6⟩, h7⟩ := h
  exact ⟨h3, h6, h7⟩
theorem specRight_any (key : ByteArray) (width : Int) (eo : Option Addr) (ce : Nat) (es : List Ev) (fo : Option Addr) (cf : Nat) (fl : List Pc) (fg : ByteArray) (go : Option Addr) (cg : Nat) (gv : List Rc) (ko : Option Addr) (ck : Nat) (tk : List Rc) (w : World) (hm : Sw 1048576 key es fl fg gv tk) (hr : Rwo w eo es fo fl go gv ko tk) :
    Calls Try.prog 29 #[.agg #[.string key, .int .i64 width, .slice eo es.length ce, .slice fo fl.length cf, .string fg, .slice go gv.length cg, .slice ko tk.length ck]] w fun e w' => e = .returned (.bool (woOk key width es fl gv tk && rightOk gv tk)) ∧ Below w.heap.size w w' := by
  cases hV : woOk key width es fl gv tk with
  | false =>
    have HV : Hid (∀ u : World, Rwo u eo es fo fl go gv ko tk → Calls Try.prog 26 #[.agg #[.string key, .int .i64 width, .slice eo es.length ce, .slice fo fl.length cf, .string fg, .slice go gv.length cg, .slice ko tk.length ck]] u fun e u' => e = .returned (.bool false) ∧ Below u.heap.size u u') := fun u h => by have := specValidWorld_any key width eo ce es fo cf fl fg go cg gv ko ck tk u hm h; rw [hV] at this; exact this
    have B0 : Hid (Below w.heap.size w (w.alloc (.cells #[.string key, .int .i64 width, .slice eo es.length ce, .slice fo fl.length cf, .string fg, .slice go gv.length cg, .slice ko tk.length ck] 26))) := (Below.refl _ _).alloc (Nat.le_refl _) _
    have R0 : Hid (Rwo (w.alloc (.cells #[.string key, .int .i64 width, .slice eo es.length ce, .slice fo fl.length cf, .string fg, .slice go gv.length cg, .slice ko tk.length ck] 26)) eo es fo fl go gv ko tk) := hr.keep B0.out
    clear hr hm hV
    go_enter Try.func29, Try.ntmps29
    go_wp2_with (first
      | (go_at_call 26; refine (HV.out _ R0.out).mono ?_; rintro x w1 ⟨rfl, hb1⟩)
      | fail)
    go_ret
    exact ⟨ret_b rfl, kb B0.out hb1 (Nat.le_refl _)⟩
  | true =>
    have p := woOk_parts hV
    exact specRight_yes key width eo ce es fo cf fl fg go cg gv ko ck tk w hm hr hV p.1
theorem implRight_any (key : ByteArray) (width : Int) (eo : Option Addr) (ce : Nat) (es : List Ev) (fo : Option Addr) (cf : Nat) (fl : List Pc) (fg : ByteArray) (go : Option Addr) (cg : Nat) (gv : List Rc) (ko : Option Addr) (ck : Nat) (tk : List Rc) (w : World) (hm : Sw 1048576 key es fl fg gv tk) (hr : Rwo w eo es fo fl go gv ko tk) :
    Calls Try.prog 30 #[.agg #[.string key, .int .i64 width, .slice eo es.length ce, .slice fo fl.length cf, .string fg, .slice go gv.length cg, .slice ko tk.length ck]] w fun e w' => e = .returned (.bool (woOk key width es fl gv tk && rightOk gv tk)) ∧ Below w.heap.size w w' := by
  cases hV : woOk key width es fl gv tk with
  | false =>
    have HV : Hid (∀ u : World, Rwo u eo es fo fl go gv ko tk → Calls Try.prog 28 #[.agg #[.string key, .int .i64 width, .slice eo es.length ce, .slice fo fl.length cf, .string fg, .slice go gv.length cg, .slice ko tk.length ck]] u fun e u' => e = .returned (.bool false) ∧ Below u.heap.size u u') := fun u h => by have := implValidWorld_any key width eo ce es fo cf fl fg go cg gv ko ck tk u hm h; rw [hV] at this; exact this
    have B0 : Hid (Below w.heap.size w (w.alloc (.cells #[.string key, .int .i64 width, .slice eo es.length ce, .slice fo fl.length cf, .string fg, .slice go gv.length cg, .slice ko tk.length ck] 26))) := (Below.refl _ _).alloc (Nat.le_refl _) _
    have R0 : Hid (Rwo (w.alloc (.cells #[.string key, .int .i64 width, .slice eo es.length ce, .slice fo fl.length cf, .string fg, .slice go gv.length cg, .slice ko tk.length ck] 26)) eo es fo fl go gv ko tk) := hr.keep B0.out
    clear hr hm hV
    go_enter Try.func30, Try.ntmps30
    go_wp2_with (first
      | (go_at_call 28; refine (HV.out _ R0.out).mono ?_; rintro x w1 ⟨rfl, hb1⟩)
      | fail)
    go_ret
    exact ⟨ret_b rfl, kb B0.out hb1 (Nat.le_refl _)⟩
  | true =>
    have p := woOk_parts hV
    exact implRight_yes key width eo ce es fo cf fl fg go cg gv ko ck tk w hm hr hV p.1 p.2.1 p.2.2
end Go.Proofs.Ytmliinglojmojaa.mk

/-
  DRAWN SENDS: the regions of spec.l4Draw that draw their order.
-/
import Derived.Test.YtfeknhopjgpbfaaSdA
import Derived.Test.YtfeknhopjgpbfaaPushD
import Derived.Test.YtfeknhopjgpbfaaTickC
import Derived.Test.YtfeknhopjgpbfaaWordH
namespace Go.Proofs.Ytfeknhopjgpbfaa.draw
open Go.RowKit mk
set_option linter.unusedVariables false

noncomputable def ops5 : Array Oper := match Try.f23.body with
  | some (.seq _ (.seq _ (.seq (.seq _ (.block _ (.loop (.seq _ (.seq (.block _ (.seq (.region _ o _) _)) _))))) _))) => o
  | _ => #[]
noncomputable def ops13 : Array Oper := match Try.f23.body with
  | some (.seq _ (.seq _ (.seq (.seq _ (.block _ (.loop (.seq _ (.seq (.block _ (.seq _ (.seq _ (.seq _ (.seq _ (.cond _ (.region _ o _) _)))))) _))))) _))) => o
  | _ => #[]
theorem ops5_size : ops5.size = 10 := by kernel_rfl
theorem ops13_size : ops13.size = 10 := by kernel_rfl
set_option maxRecDepth 100000 in
set_option maxHeartbeats 4000000 in
theorem region5 (B R y : Nat) (k : Int) (w0 w : World) (b : Int) (ao : Option Addr) (cap : Nat) (xs : List It) (u1 u4 u5 u6 u7 u8 u9 u10 u11 u12 u13 u14 u15 u16 u17 u18 u19 u20 u21 u22 u23 u24 u25 u26 u27 u28 u29 u30 u31 u32 u33 u34 u35 u36 u37 u38 u39 u40 u41 u42 u43 u44 u45 u46 u47 u48 u49 u50 u51 u52 u53 u54 u55 u56 u57 u58 u59 u60 u61 u62 u63 u64 u65 u66 u67 u68 u69 u70 u71 u72 u73 u74 u75 u76 u77 u78 u79 u80 u81 u82 : Value) (hs : S4 B R y k w0 w b ao cap xs) (hk : Wk b xs) (hkb : k ≤ 900000) :
    (Code.region 5 ops5 true).wp Try.prog (fun x a w' => match x with
      | .normal => ∃ (v5 v6 v21 v22 v23 v24 v25 v26 v27 : Value) (z : Nat) (b' : Int) (a1 : Option Addr) (c1 : Nat) (ys : List It) (code k' : Int), a = ⟨#[.pointer (some ⟨B, 0, none⟩), u1, .pointer (some ⟨R, 0, none⟩), .pointer (some ⟨y, 0, none⟩), u4, v5, v6, u7, u8, u9, u10, u11, u12, u13, u14, u15, u16, u17, u18, u19, u20, v21, v22, v23, v24, v25, v26, v27, u28, u29, u30, u31, u32, u33, u34, u35, u36, u37, u38, u39, u40, u41, u42, u43, u44, u45, u46, u47, u48, u49, u50, u51, u52, u53, u54, u55, u56, u57, u58, u59, u60, u61, u62, u63, u64, u65, u66, u67, u68, u69, u70, u71, u72, u73, u74, u75, u76, u77, u78, u79, u80, u81, u82], []⟩ ∧ v5 = .pointer (some ⟨z, 0, none⟩) ∧ v6 = .int .i64 code ∧ S4 B R y k' w0 w' b ao cap xs ∧ k' ≤ k + 40 ∧ Bx w' z 25 #[.int .i64 b', .slice a1 ys.length c1] ∧ w'.ownsRow w0.heap.size 37 4 (.slice a1 ys.length c1) ys.length (is ys) ∧ (code = 0 → Wk b' ys)
      | _ => False) ⟨#[.pointer (some ⟨B, 0, none⟩), u1, .pointer (some ⟨R, 0, none⟩), .pointer (some ⟨y, 0, none⟩), u4, u5, u6, u7, u8, u9, u10, u11, u12, u13, u14, u15, u16, u17, u18, u19, u20, u21, u22, u23, u24, u25, u26, u27, u28, u29, u30, u31, u32, u33, u34, u35, u36, u37, u38, u39, u40, u41, u42, u43, u44, u45, u46, u47, u48, u49, u50, u51, u52, u53, u54, u55, u56, u57, u58, u59, u60, u61, u62, u63, u64, u65, u66, u67, u68, u69, u70, u71, u72, u73, u74, u75, u76, u77, u78, u79, u80, u81, u82], []⟩ w := by
  unfold ops5 Try.f23
  dsimp only
  (obtain ⟨p0, p1, q0, q1, r0, r1, g0, g1⟩ := hs.cells); (have ly := hs.bx.lt); (have lR := hs.res.lt)
  have hl := hs.lt
  have HP : Hid (∀ (u : World) (s : ByteArray), s.size ≤ 5000 → Rs u ao xs.length (is xs) → Calls Try.prog 31 #[.agg #[.int .i64 b, .slice ao xs.length cap], .string s] u fun e w' => PushPost u b xs s e w') := fun u s hsz hr => specPush_opt b ao cap xs s u hk.big.1 hk.big.2 hr hs.nil (by omega)
  go_region_held3 (fun u => u.cell? ⟨y, 0, none⟩ = some (.int .i64 b) ∧ u.cell? ⟨y, 1, none⟩ = some (.slice ao xs.length cap)) (first | exact ⟨p0, p1⟩ | go_keep) (first
    | (go_at_call 32; refine (msg_any B _ _ hs.drew.rd (by omega)).mono ?_; rintro e w1 ⟨⟨t, rfl, ht⟩, ⟨k1, hr1, hk1⟩, hb1⟩; (replace hs := hs.drew.turn hb1 hr1); (clear p0 p1 q0 q1 r0 r1 g0 g1 ly lR); (obtain ⟨p0, p1, q0, q1, r0, r1, g0, g1⟩ := hs.cells); (have ly := hs.bx.lt); (have lR := hs.res.lt))
    | (go_at_call 32; refine (msg_any B _ _ (hs.alloc _).drew.rd (by omega)).mono ?_; rintro e w1 ⟨⟨t, rfl, ht⟩, ⟨k1, hr1, hk1⟩, hb1⟩; (have hz := bx_but (show Bx (w.alloc (.cells #[.int .i64 0, .slice none 0 0] 25)).drew w.heap.size 25 #[.int .i64 0, .slice none 0 0] from Bx.new w 25 #[.int .i64 0, .slice none 0 0]) hb1 (by have := hs.but.size; omega)); (have nz : ¬ w.heap.size = y := (by omega)); (have nR : ¬ w.heap.size = R := (by omega)); (have hge := hs.but.size); (replace hs := (hs.alloc _).drew.turn hb1 hr1); (clear p0 p1 q0 q1 r0 r1 g0 g1 ly lR); (obtain ⟨p0, p1, q0, q1, r0, r1, g0, g1⟩ := hs.cells); (have ly := hs.bx.lt); (have lR := hs.res.lt))
    | (go_at_call 31; refine (HP.out _ _ ht hs.rs).mono ?_; rintro e w2 hpost; unfold PushPost at hpost; (obtain ⟨⟨a1, c1, rfl, hrow⟩, hb2⟩ := hpost); (try (replace hz := hz.keep hb2; (have z0 := hz.cell 0); (have z1 := hz.cell 1); (have z2 := hz.frozen 0); (have z3 := hz.frozen 1); (try simp at z0 z1 z2 z3))); (replace hrow := hs.fresh hrow); (replace hs := hs.keep hb2); (clear p0 p1 q0 q1 r0 r1 g0 g1 ly lR); (obtain ⟨p0, p1, q0, q1, r0, r1, g0, g1⟩ := hs.cells); (have ly := hs.bx.lt); (have lR := hs.res.lt); (have nz2 : ¬ w2.heap.size = y := (by omega)))
    | (go_at_call 31; refine (HP.out _ _ ht (hs.alloc _).rs).mono ?_; rintro e w2 hpost; unfold PushPost at hpost; (obtain ⟨⟨a1, c1, rfl, hrow⟩, hb2⟩ := hpost); (have hz := (Bx.new _ 25 #[.int .i64 0, .slice none 0 0]).keep hb2); (have nz : ¬ w1.heap.size = y := (by omega)); (have nR : ¬ w1.heap.size = R := (by omega)); (have hge := hs.but.size); (replace hrow := (hs.alloc _).fresh hrow); (have z0 := hz.cell 0); (have z1 := hz.cell 1); (have z2 := hz.frozen 0); (have z3 := hz.frozen 1); (try simp at z0 z1 z2 z3); (replace hs := (hs.alloc _).keep hb2); (clear p0 p1 q0 q1 r0 r1 g0 g1 ly lR); (obtain ⟨p0, p1, q0, q1, r0, r1, g0, g1⟩ := hs.cells); (have ly := hs.bx.lt); (have lR := hs.res.lt)))
  · exact ⟨_, _, _, _, _, _, _, _, _, _, _, a1, c1, _, _, _, rfl, rfl, rfl, hs.alloc _, by omega, Bx.new w2 _ _, hrow.alloc _, push_wk t⟩
  · obtain ⟨e1, e2, e3⟩ := hs.side hz rfl hge nz nR (pushOf b xs t).1 a1 c1 (pushOf b xs t).2.1 hrow
    exact ⟨_, _, _, _, _, _, _, _, _, _, _, a1, c1, _, _, _, rfl, rfl, rfl, e1, by omega, e2, e3, push_wk t⟩
  · obtain ⟨e1, e2, e3⟩ := hs.side hz rfl hge nz nR (pushOf b xs t).1 a1 c1 (pushOf b xs t).2.1 hrow
    exact ⟨_, _, _, _, _, _, _, _, _, _, _, a1, c1, _, _, _, rfl, rfl, rfl, e1, by omega, e2, e3, push_wk t⟩
set_option maxRecDepth 100000 in
set_option maxHeartbeats 4000000 in
theorem region13 (B R y : Nat) (k : Int) (w0 w : World) (b : Int) (ao : Option Addr) (cap : Nat) (xs : List It) (u1 u4 u5 u6 u7 u8 u9 u10 u11 u12 u13 u14 u15 u16 u17 u18 u19 u20 u21 u22 u23 u24 u25 u26 u27 u28 u29 u30 u31 u32 u33 u34 u35 u36 u37 u38 u39 u40 u41 u42 u43 u44 u45 u46 u47 u48 u49 u50 u51 u52 u53 u54 u55 u56 u57 u58 u59 u60 u61 u62 u63 u64 u65 u66 u67 u68 u69 u70 u71 u72 u73 u74 u75 u76 u77 u78 u79 u80 u81 u82 : Value) (hs : S4 B R y k w0 w b ao cap xs) (hk : Wk b xs) (hkb : k ≤ 900000) :
    (Code.region 13 ops13 true).wp Try.prog (fun x a w' => match x with
      | .normal => ∃ (v45 v46 v47 v48 v49 v50 v51 v52 v53 : Value) (b' : Int) (a1 : Option Addr) (c1 : Nat) (ys : List It) (k' : Int), a = ⟨#[.pointer (some ⟨B, 0, none⟩), u1, .pointer (some ⟨R, 0, none⟩), .pointer (some ⟨y, 0, none⟩), u4, u5, u6, u7, u8, u9, u10, u11, u12, u13, u14, u15, u16, u17, u18, u19, u20, u21, u22, u23, u24, u25, u26, u27, u28, u29, u30, u31, u32, u33, u34, u35, u36, u37, u38, u39, u40, u41, u42, u43, u44, v45, v46, v47, v48, v49, v50, v51, v52, v53, u54, u55, u56, u57, u58, u59, u60, u61, u62, u63, u64, u65, u66, u67, u68, u69, u70, u71, u72, u73, u74, u75, u76, u77, u78, u79, u80, u81, u82], []⟩ ∧ S4 B R y k' w0 w' b' a1 c1 ys ∧ k' ≤ k + 2 ∧ Wk b' ys
      | _ => False) ⟨#[.pointer (some ⟨B, 0, none⟩), u1, .pointer (some ⟨R, 0, none⟩), .pointer (some ⟨y, 0, none⟩), u4, u5, u6, u7, u8, u9, u10, u11, u12, u13, u14, u15, u16, u17, u18, u19, u20, u21, u22, u23, u24, u25, u26, u27, u28, u29, u30, u31, u32, u33, u34, u35, u36, u37, u38, u39, u40, u41, u42, u43, u44, u45, u46, u47, u48, u49, u50, u51, u52, u53, u54, u55, u56, u57, u58, u59, u60, u61, u62, u63, u64, u65, u66, u67, u68, u69, u70, u71, u72, u73, u74, u75, u76, u77, u78, u79, u80, u81, u82], []⟩ w := by
  unfold ops13 Try.f23
  dsimp only
  (obtain ⟨p0, p1, q0, q1, r0, r1, g0, g1⟩ := hs.cells); (have ly := hs.bx.lt); (have lR := hs.res.lt)
  have hl := hs.lt
  have hb0 := hk.1
  have hb1' := hk.2.1
  have HP : Hid (∀ (u : World) (m n : Int), Rs u ao xs.length (is xs) → Calls Try.prog 7 #[.agg #[.int .i64 b, .slice ao xs.length cap], .int .i64 m, .int .i64 n] u fun e w' => WordPost u b xs m n e w') := fun u m n hr => specWord_opt b ao cap xs m n u hk.big.1 hk.big.2 hr hs.nil
  go_region_with (first
    | (go_at_call_of 13 (Value.int IntKind.i64 4); (first | refine (pick_any B _ _ _ hs.rd (by omega) (by omega)).mono ?_ | refine (pick_any B _ _ _ hs.drew.rd (by omega) (by omega)).mono ?_); rintro e w4 ⟨⟨z4, rfl, z0, z1⟩, hr1, hb1⟩; (first | (replace hs := hs.turn hb1 hr1) | (replace hs := hs.drew.turn hb1 hr1)); clear hr1 hb1; (clear p0 p1 q0 q1 r0 r1 g0 g1 ly lR); (obtain ⟨p0, p1, q0, q1, r0, r1, g0, g1⟩ := hs.cells); (have ly := hs.bx.lt); (have lR := hs.res.lt))
    | (go_at_call_of 13 (Value.int IntKind.i64 256); (first | refine (pick_any B _ _ _ hs.rd (by omega) (by omega)).mono ?_ | refine (pick_any B _ _ _ hs.drew.rd (by omega) (by omega)).mono ?_); rintro e w256 ⟨⟨z256, rfl, z0, z1⟩, hr1, hb1⟩; (first | (replace hs := hs.turn hb1 hr1) | (replace hs := hs.drew.turn hb1 hr1)); clear hr1 hb1; (clear p0 p1 q0 q1 r0 r1 g0 g1 ly lR); (obtain ⟨p0, p1, q0, q1, r0, r1, g0, g1⟩ := hs.cells); (have ly := hs.bx.lt); (have lR := hs.res.lt))
    | (go_at_call 7; refine (HP.out _ _ _ hs.rs).mono ?_; rintro e w3 hpost; unfold WordPost at hpost; (obtain ⟨⟨a1, c1, rfl, hrow⟩, hb2⟩ := hpost); (replace hrow := hs.fresh hrow); (replace hs := hs.keep hb2); (clear p0 p1 q0 q1 r0 r1 g0 g1 ly lR); (obtain ⟨p0, p1, q0, q1, r0, r1, g0, g1⟩ := hs.cells); (have ly := hs.bx.lt); (have lR := hs.res.lt)))
  all_goals exact ⟨_, _, _, _, _, _, _, _, _, _, a1, c1, _, _, rfl, hs.store _ a1 c1 _ hrow, by omega, word_wk _ _ _ _⟩
end Go.Proofs.Ytfeknhopjgpbfaa.draw

/-
  THE DRAWING of a law's inputs, sixth part: spec.l2Draw.
-/
import Derived.Test.YtfeknhopjgpbfaaDoorDrawP
import Derived.Test.YtfeknhopjgpbfaaDoorPkPlain
namespace Go.Proofs.YtfeknhopjgpbfaaDoor.draw
open Go.RowKit mk
set_option linter.unusedVariables false

/-- a packet in the making at y, the answer's block R, the reader B -/
structure St (B R y : Nat) (k : Int) (w0 w : World) (a0 a1 a2 a3 a4 a5 a6 : Int) (a7 : Bool) (a8 : ByteArray) : Prop where
  rd : Rd B k w
  but : But B w0 w
  lt : B < R ∧ B < y ∧ R ≠ y ∧ w0.heap.size ≤ R ∧ w0.heap.size ≤ y
  pk : Bk w y 24 #[.int .i64 a0, .int .i64 a1, .int .i64 a2, .int .i64 a3, .int .i64 a4, .int .i64 a5, .int .i64 a6, .bool a7, .string a8]
  res : Bk w R 24 #[.int .i64 0, .int .i64 0, .int .i64 0, .int .i64 0, .int .i64 0, .int .i64 0, .int .i64 0, .bool false, .string ⟨#[]⟩]
theorem St.turn {B R y : Nat} {k : Int} {w0 w : World} {a0 a1 a2 a3 a4 a5 a6 : Int} {a7 : Bool} {a8 : ByteArray} {k' : Int} {w' : World} (h : St B R y k w0 w a0 a1 a2 a3 a4 a5 a6 a7 a8) (hb : But B w w') (hr : Rd B k' w') : St B R y k' w0 w' a0 a1 a2 a3 a4 a5 a6 a7 a8 := by
  have := h.lt
  exact ⟨hr, h.but.trans hb, h.lt, h.pk.but hb (by omega), h.res.but hb (by omega)⟩
theorem St.alloc {B R y : Nat} {k : Int} {w0 w : World} {a0 a1 a2 a3 a4 a5 a6 : Int} {a7 : Bool} {a8 : ByteArray} (h : St B R y k w0 w a0 a1 a2 a3 a4 a5 a6 a7 a8) (o : Obj) : St B R y k w0 (w.alloc o) a0 a1 a2 a3 a4 a5 a6 a7 a8 := h.turn ((But.refl _ _).alloc o) (h.rd.made o)
theorem St.keep {B R y : Nat} {k : Int} {w0 w : World} {a0 a1 a2 a3 a4 a5 a6 : Int} {a7 : Bool} {a8 : ByteArray} {w' : World} (h : St B R y k w0 w a0 a1 a2 a3 a4 a5 a6 a7 a8) (hb : Below w.heap.size w w') : St B R y k w0 w' a0 a1 a2 a3 a4 a5 a6 a7 a8 := h.turn (But.ofBelow hb) (h.rd.keep hb)
theorem Bk.far {W : World} {A y : Nat} {t : TypeId} {cs : Array Value} (h : Bk W A t cs) (j : Nat) (v : Value) (hn : A ≠ y) : Bk (W.setCell ⟨y, j, none⟩ v) A t cs := (Below.heap_setCell W ⟨y, j, none⟩ v A hn).trans h
theorem St.put0 {B R y : Nat} {k : Int} {w0 w : World} {a0 a1 a2 a3 a4 a5 a6 : Int} {a7 : Bool} {a8 : ByteArray} (h : St B R y k w0 w a0 a1 a2 a3 a4 a5 a6 a7 a8) (V : Int) : St B R y k w0 (w.setCell ⟨y, 0, none⟩ (.int .i64 V)) V a1 a2 a3 a4 a5 a6 a7 a8 := by
  have := h.lt
  exact ⟨h.rd.far 0 _ (by omega), h.but.setCell (p := ⟨y, 0, none⟩) (.inr h.lt.2.2.2.2) _, h.lt, by simpa only [List.setIfInBounds_toArray, List.set_cons_zero, List.set_cons_succ] using h.pk.put 0 (.int .i64 V), h.res.far 0 _ (by omega)⟩
theorem St.put1 {B R y : Nat} {k : Int} {w0 w : World} {a0 a1 a2 a3 a4 a5 a6 : Int} {a7 : Bool} {a8 : ByteArray} (h : St B R y k w0 w a0 a1 a2 a3 a4 a5 a6 a7 a8) (V : Int) : St B R y k w0 (w.setCell ⟨y, 1, none⟩ (.int .i64 V)) a0 V a2 a3 a4 a5 a6 a7 a8 := by
  have := h.lt
  exact ⟨h.rd.far 1 _ (by omega), h.but.setCell (p := ⟨y, 1, none⟩) (.inr h.lt.2.2.2.2) _, h.lt, by simpa only [List.setIfInBounds_toArray, List.set_cons_zero, List.set_cons_succ] using h.pk.put 1 (.int .i64 V), h.res.far 1 _ (by omega)⟩
theorem St.put2 {B R y : Nat} {k : Int} {w0 w : World} {a0 a1 a2 a3 a4 a5 a6 : Int} {a7 : Bool} {a8 : ByteArray} (h : St B R y k w0 w a0 a1 a2 a3 a4 a5 a6 a7 a8) (V : Int) : St B R y k w0 (w.setCell ⟨y, 2, none⟩ (.int .i64 V)) a0 a1 V a3 a4 a5 a6 a7 a8 := by
  have := h.lt
  exact ⟨h.rd.far 2 _ (by omega), h.but.setCell (p := ⟨y, 2, none⟩) (.inr h.lt.2.2.2.2) _, h.lt, by simpa only [List.setIfInBounds_toArray, List.set_cons_zero, List.set_cons_succ] using h.pk.put 2 (.int .i64 V), h.res.far 2 _ (by omega)⟩
theorem St.put3 {B R y : Nat} {k : Int} {w0 w : World} {a0 a1 a2 a3 a4 a5 a6 : Int} {a7 : Bool} {a8 : ByteArray} (h : St B R y k w0 w a0 a1 a2 a3 a4 a5 a6 a7 a8) (V : Int) : St B R y k w0 (w.setCell ⟨y, 3, none⟩ (.int .i64 V)) a0 a1 a2 V a4 a5 a6 a7 a8 := by
  have := h.lt
  exact ⟨h.rd.far 3 _ (by omega), h.but.setCell (p := ⟨y, 3, none⟩) (.inr h.lt.2.2.2.2) _, h.lt, by simpa only [List.setIfInBounds_toArray, List.set_cons_zero, List.set_cons_succ] using h.pk.put 3 (.int .i64 V), h.res.far 3 _ (by omega)⟩
theorem St.put4 {B R y : Nat} {k : Int} {w0 w : World} {a0 a1 a2 a3 a4 a5 a6 : Int} {a7 : Bool} {a8 : ByteArray} (h : St B R y k w0 w a0 a1 a2 a3 a4 a5 a6 a7 a8) (V : Int) : St B R y k w0 (w.setCell ⟨y, 4, none⟩ (.int .i64 V)) a0 a1 a2 a3 V a5 a6 a7 a8 := by
  have := h.lt
  exact ⟨h.rd.far 4 _ (by omega), h.but.setCell (p := ⟨y, 4, none⟩) (.inr h.lt.2.2.2.2) _, h.lt, by simpa only [List.setIfInBounds_toArray, List.set_cons_zero, List.set_cons_succ] using h.pk.put 4 (.int .i64 V), h.res.far 4 _ (by omega)⟩
theorem St.put5 {B R y : Nat} {k : Int} {w0 w : World} {a0 a1 a2 a3 a4 a5 a6 : Int} {a7 : Bool} {a8 : ByteArray} (h : St B R y k w0 w a0 a1 a2 a3 a4 a5 a6 a7 a8) (V : Int) : St B R y k w0 (w.setCell ⟨y, 5, none⟩ (.int .i64 V)) a0 a1 a2 a3 a4 V a6 a7 a8 := by
  have := h.lt
  exact ⟨h.rd.far 5 _ (by omega), h.but.setCell (p := ⟨y, 5, none⟩) (.inr h.lt.2.2.2.2) _, h.lt, by simpa only [List.setIfInBounds_toArray, List.set_cons_zero, List.set_cons_succ] using h.pk.put 5 (.int .i64 V), h.res.far 5 _ (by omega)⟩
theorem St.put6 {B R y : Nat} {k : Int} {w0 w : World} {a0 a1 a2 a3 a4 a5 a6 : Int} {a7 : Bool} {a8 : ByteArray} (h : St B R y k w0 w a0 a1 a2 a3 a4 a5 a6 a7 a8) (V : Int) : St B R y k w0 (w.setCell ⟨y, 6, none⟩ (.int .i64 V)) a0 a1 a2 a3 a4 a5 V a7 a8 := by
  have := h.lt
  exact ⟨h.rd.far 6 _ (by omega), h.but.setCell (p := ⟨y, 6, none⟩) (.inr h.lt.2.2.2.2) _, h.lt, by simpa only [List.setIfInBounds_toArray, List.set_cons_zero, List.set_cons_succ] using h.pk.put 6 (.int .i64 V), h.res.far 6 _ (by omega)⟩
theorem St.put7 {B R y : Nat} {k : Int} {w0 w : World} {a0 a1 a2 a3 a4 a5 a6 : Int} {a7 : Bool} {a8 : ByteArray} (h : St B R y k w0 w a0 a1 a2 a3 a4 a5 a6 a7 a8) (V : Bool) : St B R y k w0 (w.setCell ⟨y, 7, none⟩ (.bool V)) a0 a1 a2 a3 a4 a5 a6 V a8 := by
  have := h.lt
  exact ⟨h.rd.far 7 _ (by omega), h.but.setCell (p := ⟨y, 7, none⟩) (.inr h.lt.2.2.2.2) _, h.lt, by simpa only [List.setIfInBounds_toArray, List.set_cons_zero, List.set_cons_succ] using h.pk.put 7 (.bool V), h.res.far 7 _ (by omega)⟩
theorem St.put8 {B R y : Nat} {k : Int} {w0 w : World} {a0 a1 a2 a3 a4 a5 a6 : Int} {a7 : Bool} {a8 : ByteArray} (h : St B R y k w0 w a0 a1 a2 a3 a4 a5 a6 a7 a8) (V : ByteArray) : St B R y k w0 (w.setCell ⟨y, 8, none⟩ (.string V)) a0 a1 a2 a3 a4 a5 a6 a7 V := by
  have := h.lt
  exact ⟨h.rd.far 8 _ (by omega), h.but.setCell (p := ⟨y, 8, none⟩) (.inr h.lt.2.2.2.2) _, h.lt, by simpa only [List.setIfInBounds_toArray, List.set_cons_zero, List.set_cons_succ] using h.pk.put 8 (.string V), h.res.far 8 _ (by omega)⟩
theorem St.fin {B R y : Nat} {k : Int} {w0 w : World} {a0 a1 a2 a3 a4 a5 a6 : Int} {a7 : Bool} {a8 : ByteArray} (h : St B R y k w0 w a0 a1 a2 a3 a4 a5 a6 a7 a8) (c0 c1 c2 c3 c4 c5 c6 c7 c8 : Value) : Rd B k (((((((((w.setCell ⟨R, 0, none⟩ c0).setCell ⟨R, 1, none⟩ c1).setCell ⟨R, 2, none⟩ c2).setCell ⟨R, 3, none⟩ c3).setCell ⟨R, 4, none⟩ c4).setCell ⟨R, 5, none⟩ c5).setCell ⟨R, 6, none⟩ c6).setCell ⟨R, 7, none⟩ c7).setCell ⟨R, 8, none⟩ c8) ∧ But B w0 (((((((((w.setCell ⟨R, 0, none⟩ c0).setCell ⟨R, 1, none⟩ c1).setCell ⟨R, 2, none⟩ c2).setCell ⟨R, 3, none⟩ c3).setCell ⟨R, 4, none⟩ c4).setCell ⟨R, 5, none⟩ c5).setCell ⟨R, 6, none⟩ c6).setCell ⟨R, 7, none⟩ c7).setCell ⟨R, 8, none⟩ c8) := ⟨(((((((((h.rd.far 0 c0 h.lt.1).far 1 c1 h.lt.1).far 2 c2 h.lt.1).far 3 c3 h.lt.1).far 4 c4 h.lt.1).far 5 c5 h.lt.1).far 6 c6 h.lt.1).far 7 c7 h.lt.1).far 8 c8 h.lt.1), (((((((((h.but.setCell (p := ⟨R, 0, none⟩) (.inr h.lt.2.2.2.1) c0).setCell (p := ⟨R, 1, none⟩) (.inr h.lt.2.2.2.1) c1).setCell (p := ⟨R, 2, none⟩) (.inr h.lt.2.2.2.1) c2).setCell (p := ⟨R, 3, none⟩) (.inr h.lt.2.2.2.1) c3).setCell (p := ⟨R, 4, none⟩) (.inr h.lt.2.2.2.1) c4).setCell (p := ⟨R, 5, none⟩) (.inr h.lt.2.2.2.1) c5).setCell (p := ⟨R, 6, none⟩) (.inr h.lt.2.2.2.1) c6).setCell (p := ⟨R, 7, none⟩) (.inr h.lt.2.2.2.1) c7).setCell (p := ⟨R, 8, none⟩) (.inr h.lt.2.2.2.1) c8)⟩
set_option maxRecDepth 100000 in
set_option maxHeartbeats 4000000 in
theorem l2Draw_ok (B : Nat) (k : Int) (w : World) (h : Rd B k w) (hkb : k ≤ 800000) :
    Calls Tryd.prog 12 #[.pointer (some ⟨B, 0, none⟩)] w fun e w' => (∃ (a0 a1 a2 a3 a4 a5 a6 : Int) (a7 : Bool) (a8 : ByteArray), e = .returned (.agg #[.int .i64 a0, .int .i64 a1, .int .i64 a2, .int .i64 a3, .int .i64 a4, .int .i64 a5, .int .i64 a6, .bool a7, .string a8]) ∧ a8.size ≤ 100 ∧ tag.pkOk a0 a1 a2 a3 a4 a5 a6 a7 a8 = true) ∧ (∃ k', Rd B k' w' ∧ k' ≤ k + 10) ∧ But B w w' := by
  have hlt := h.lt
  go_enter Tryd.func12, Tryd.ntmps12
  go_wp2
  refine wp_region_any (by kernel_rfl) ?_
  refine region2 B k (k + 4) _ _ _ _ _ _ _ _ _ _ _ _ _ _ _ _ _ _ _ _ _ _ _ _ _ _ _ _ _ _ _ _ _ _ _ (by have := h.made (.cells #[.int .i64 0, .int .i64 0, .int .i64 0, .int .i64 0, .int .i64 0, .int .i64 0, .int .i64 0, .bool false, .string ⟨#[]⟩] 24); exact this.keep (Below.refl _ _).drew) (by omega) (by omega) ?_ _ _ _ _ _ _ _ _ _ _ _ _ _ _ _ _ _ _
  intro v3 v4 v5 v6 v7 v8 v9 v10 v11 v12 v13 v14 v15 v16 v17 v18 v19 v20 w1 kk y c0 c1 c2 c3 hy3 hge hpb hbd hr1 hkk hb1
  subst hy3
  have hs : St B w.heap.size y kk w w1 c0 c1 c2 c3 0 0 0 false ⟨#[]⟩ := by
    have h0 : But B w (w.alloc (.cells #[.int .i64 0, .int .i64 0, .int .i64 0, .int .i64 0, .int .i64 0, .int .i64 0, .int .i64 0, .bool false, .string ⟨#[]⟩] 24)).drew := ((But.refl B w).alloc _).drew
    simp at hge
    exact ⟨hr1, h0.trans hb1, ⟨hlt, by omega, by omega, Nat.le_refl _, by omega⟩, hpb, (show Bk (w.alloc (.cells #[.int .i64 0, .int .i64 0, .int .i64 0, .int .i64 0, .int .i64 0, .int .i64 0, .int .i64 0, .bool false, .string ⟨#[]⟩] 24)).drew w.heap.size 24 #[.int .i64 0, .int .i64 0, .int .i64 0, .int .i64 0, .int .i64 0, .int .i64 0, .int .i64 0, .bool false, .string ⟨#[]⟩] from Bk.new w _ _).but hb1 (by omega)⟩
  clear hpb hr1 hb1 hge
  have hRy : ¬ w.heap.size = y := by have := hs.lt; omega
  have hyR : ¬ y = w.heap.size := by have := hs.lt; omega
  rcases (by omega : c0 = 1 ∨ c0 = 2) with rfl | rfl
  · (have hy := hs.pk)
    (have p0 := hy.cell 0)
    (have p1 := hy.cell 1)
    (have p2 := hy.cell 2)
    (have p3 := hy.cell 3)
    (have p4 := hy.cell 4)
    (have p5 := hy.cell 5)
    (have p6 := hy.cell 6)
    (have p7 := hy.cell 7)
    (have p8 := hy.cell 8)
    simp at p0 p1 p2 p3 p4 p5 p6 p7 p8
    (have q0 := hy.frozen 0)
    (have q1 := hy.frozen 1)
    (have q2 := hy.frozen 2)
    (have q3 := hy.frozen 3)
    (have q4 := hy.frozen 4)
    (have q5 := hy.frozen 5)
    (have q6 := hy.frozen 6)
    (have q7 := hy.frozen 7)
    (have q8 := hy.frozen 8)
    (have hR := hs.res)
    (have r0 := hR.cell 0)
    (have r1 := hR.cell 1)
    (have r2 := hR.cell 2)
    (have r3 := hR.cell 3)
    (have r4 := hR.cell 4)
    (have r5 := hR.cell 5)
    (have r6 := hR.cell 6)
    (have r7 := hR.cell 7)
    (have r8 := hR.cell 8)
    simp at r0 r1 r2 r3 r4 r5 r6 r7 r8
    (have g0 := hR.frozen 0)
    (have g1 := hR.frozen 1)
    (have g2 := hR.frozen 2)
    (have g3 := hR.frozen 3)
    (have g4 := hR.frozen 4)
    (have g5 := hR.frozen 5)
    (have g6 := hR.frozen 6)
    (have g7 := hR.frozen 7)
    (have g8 := hR.frozen 8)
    go_wp2_with (first
      | (go_at_call_of 13 (Value.int IntKind.i64 5); refine (pick_any B _ _ _ (hs.alloc _).rd (by omega) (by omega)).mono ?_; rintro e w1 ⟨⟨z, rfl, z0, z1⟩, hr1, hb1⟩; (obtain ⟨V1, hV1, lV1, mV1⟩ := tab_ints (lo := 0) (hi := 1000000) [0, 1, 3, 65536, 1000000] hb1 (hs.rd.lt) z0 z1 (by decide)); (replace hs := (hs.alloc _).turn hb1 hr1); clear hr1 hb1; clear p0 q0 r0 g0 p1 q1 r1 g1 p2 q2 r2 g2 p3 q3 r3 g3 p4 q4 r4 g4 p5 q5 r5 g5 p6 q6 r6 g6 p7 q7 r7 g7 p8 q8 r8 g8 hy hR; (have hy := hs.pk); (have p0 := hy.cell 0); (have p1 := hy.cell 1); (have p2 := hy.cell 2); (have p3 := hy.cell 3); (have p4 := hy.cell 4); (have p5 := hy.cell 5); (have p6 := hy.cell 6); (have p7 := hy.cell 7); (have p8 := hy.cell 8); simp at p0 p1 p2 p3 p4 p5 p6 p7 p8; (have q0 := hy.frozen 0); (have q1 := hy.frozen 1); (have q2 := hy.frozen 2); (have q3 := hy.frozen 3); (have q4 := hy.frozen 4); (have q5 := hy.frozen 5); (have q6 := hy.frozen 6); (have q7 := hy.frozen 7); (have q8 := hy.frozen 8); (have hR := hs.res); (have r0 := hR.cell 0); (have r1 := hR.cell 1); (have r2 := hR.cell 2); (have r3 := hR.cell 3); (have r4 := hR.cell 4); (have r5 := hR.cell 5); (have r6 := hR.cell 6); (have r7 := hR.cell 7); (have r8 := hR.cell 8); simp at r0 r1 r2 r3 r4 r5 r6 r7 r8; (have g0 := hR.frozen 0); (have g1 := hR.frozen 1); (have g2 := hR.frozen 2); (have g3 := hR.frozen 3); (have g4 := hR.frozen 4); (have g5 := hR.frozen 5); (have g6 := hR.frozen 6); (have g7 := hR.frozen 7); (have g8 := hR.frozen 8))
      | (go_at_call_of 13 (Value.int IntKind.i64 5); refine (pick_any B _ _ _ ((hs.put4 V1).alloc _).rd (by omega) (by omega)).mono ?_; rintro e w1 ⟨⟨z, rfl, z0, z1⟩, hr1, hb1⟩; (obtain ⟨V2, hV2, lV2, mV2⟩ := tab_ints (lo := 0) (hi := 255) [0, 1, 5, 255, 128] hb1 ((hs.put4 V1).rd.lt) z0 z1 (by decide)); (simp only [World.size_setCell] at hV2); (replace hs := ((hs.put4 V1).alloc _).turn hb1 hr1); clear hr1 hb1; clear p0 q0 r0 g0 p1 q1 r1 g1 p2 q2 r2 g2 p3 q3 r3 g3 p4 q4 r4 g4 p5 q5 r5 g5 p6 q6 r6 g6 p7 q7 r7 g7 p8 q8 r8 g8 hy hR; (have hy := hs.pk); (have p0 := hy.cell 0); (have p1 := hy.cell 1); (have p2 := hy.cell 2); (have p3 := hy.cell 3); (have p4 := hy.cell 4); (have p5 := hy.cell 5); (have p6 := hy.cell 6); (have p7 := hy.cell 7); (have p8 := hy.cell 8); simp at p0 p1 p2 p3 p4 p5 p6 p7 p8; (have q0 := hy.frozen 0); (have q1 := hy.frozen 1); (have q2 := hy.frozen 2); (have q3 := hy.frozen 3); (have q4 := hy.frozen 4); (have q5 := hy.frozen 5); (have q6 := hy.frozen 6); (have q7 := hy.frozen 7); (have q8 := hy.frozen 8); (have hR := hs.res); (have r0 := hR.cell 0); (have r1 := hR.cell 1); (have r2 := hR.cell 2); (have r3 := hR.cell 3); (have r4 := hR.cell 4); (have r5 := hR.cell 5); (have r6 := hR.cell 6); (have r7 := hR.cell 7); (have r8 := hR.cell 8); simp at r0 r1 r2 r3 r4 r5 r6 r7 r8; (have g0 := hR.frozen 0); (have g1 := hR.frozen 1); (have g2 := hR.frozen 2); (have g3 := hR.frozen 3); (have g4 := hR.frozen 4); (have g5 := hR.frozen 5); (have g6 := hR.frozen 6); (have g7 := hR.frozen 7); (have g8 := hR.frozen 8))
      | fail)
    obtain ⟨F1, F2⟩ := (hs.put5 V2).fin (.int .i64 1) (.int .i64 c1) (.int .i64 c2) (.int .i64 c3) (.int .i64 V1) (.int .i64 V2) (.int .i64 0) (.bool false) (.string ⟨#[]⟩)
    exact bodyPost_ret (v := .agg #[.int .i64 1, .int .i64 c1, .int .i64 c2, .int .i64 c3, .int .i64 V1, .int .i64 V2, .int .i64 0, .bool false, .string ⟨#[]⟩]) (by simp [results, Tryd.results12, go_sem, r0, r1, r2, r3, r4, r5, r6, r7, r8]) rfl ⟨⟨_, _, _, _, _, _, _, _, _, rfl, by decide, by rw [show tag.pkOk 1 c1 c2 c3 V1 V2 0 false ⟨#[]⟩ = (tag.wordOk c1 c2 c3 V1 V2 && true) from rfl, tag.wordOk_mk (by omega) (by omega) (by omega)]; rfl⟩, ⟨_, F1, by omega⟩, F2⟩
  · (have hy := hs.pk)
    (have p0 := hy.cell 0)
    (have p1 := hy.cell 1)
    (have p2 := hy.cell 2)
    (have p3 := hy.cell 3)
    (have p4 := hy.cell 4)
    (have p5 := hy.cell 5)
    (have p6 := hy.cell 6)
    (have p7 := hy.cell 7)
    (have p8 := hy.cell 8)
    simp at p0 p1 p2 p3 p4 p5 p6 p7 p8
    (have q0 := hy.frozen 0)
    (have q1 := hy.frozen 1)
    (have q2 := hy.frozen 2)
    (have q3 := hy.frozen 3)
    (have q4 := hy.frozen 4)
    (have q5 := hy.frozen 5)
    (have q6 := hy.frozen 6)
    (have q7 := hy.frozen 7)
    (have q8 := hy.frozen 8)
    (have hR := hs.res)
    (have r0 := hR.cell 0)
    (have r1 := hR.cell 1)
    (have r2 := hR.cell 2)
    (have r3 := hR.cell 3)
    (have r4 := hR.cell 4)
    (have r5 := hR.cell 5)
    (have r6 := hR.cell 6)
    (have r7 := hR.cell 7)
    (have r8 := hR.cell 8)
    simp at r0 r1 r2 r3 r4 r5 r6 r7 r8
    (have g0 := hR.frozen 0)
    (have g1 := hR.frozen 1)
    (have g2 := hR.frozen 2)
    (have g3 := hR.frozen 3)
    (have g4 := hR.frozen 4)
    (have g5 := hR.frozen 5)
    (have g6 := hR.frozen 6)
    (have g7 := hR.frozen 7)
    (have g8 := hR.frozen 8)
    go_wp2_with (first
      | (go_at_call_of 13 (Value.int IntKind.i64 5); refine (pick_any B _ _ _ (hs.alloc _).rd (by omega) (by omega)).mono ?_; rintro e w1 ⟨⟨z, rfl, z0, z1⟩, hr1, hb1⟩; (obtain ⟨V1, hV1, lV1, mV1⟩ := tab_ints (lo := 0) (hi := 999999) [0, 1, 2, 65536, 999999] hb1 (hs.rd.lt) z0 z1 (by decide)); (replace hs := (hs.alloc _).turn hb1 hr1); clear hr1 hb1; clear p0 q0 r0 g0 p1 q1 r1 g1 p2 q2 r2 g2 p3 q3 r3 g3 p4 q4 r4 g4 p5 q5 r5 g5 p6 q6 r6 g6 p7 q7 r7 g7 p8 q8 r8 g8 hy hR; (have hy := hs.pk); (have p0 := hy.cell 0); (have p1 := hy.cell 1); (have p2 := hy.cell 2); (have p3 := hy.cell 3); (have p4 := hy.cell 4); (have p5 := hy.cell 5); (have p6 := hy.cell 6); (have p7 := hy.cell 7); (have p8 := hy.cell 8); simp at p0 p1 p2 p3 p4 p5 p6 p7 p8; (have q0 := hy.frozen 0); (have q1 := hy.frozen 1); (have q2 := hy.frozen 2); (have q3 := hy.frozen 3); (have q4 := hy.frozen 4); (have q5 := hy.frozen 5); (have q6 := hy.frozen 6); (have q7 := hy.frozen 7); (have q8 := hy.frozen 8); (have hR := hs.res); (have r0 := hR.cell 0); (have r1 := hR.cell 1); (have r2 := hR.cell 2); (have r3 := hR.cell 3); (have r4 := hR.cell 4); (have r5 := hR.cell 5); (have r6 := hR.cell 6); (have r7 := hR.cell 7); (have r8 := hR.cell 8); simp at r0 r1 r2 r3 r4 r5 r6 r7 r8; (have g0 := hR.frozen 0); (have g1 := hR.frozen 1); (have g2 := hR.frozen 2); (have g3 := hR.frozen 3); (have g4 := hR.frozen 4); (have g5 := hR.frozen 5); (have g6 := hR.frozen 6); (have g7 := hR.frozen 7); (have g8 := hR.frozen 8))
      | (go_at_call_of 13 (Value.int IntKind.i64 2); refine (pick_any B _ _ _ (hs.put6 V1).rd (by omega) (by omega)).mono ?_; rintro e w1 ⟨⟨zl, rfl, y0, y1⟩, hr1, hb1⟩; (replace hs := (hs.put6 V1).turn hb1 hr1); clear hr1 hb1; clear p0 q0 r0 g0 p1 q1 r1 g1 p2 q2 r2 g2 p3 q3 r3 g3 p4 q4 r4 g4 p5 q5 r5 g5 p6 q6 r6 g6 p7 q7 r7 g7 p8 q8 r8 g8 hy hR; (have hy := hs.pk); (have p0 := hy.cell 0); (have p1 := hy.cell 1); (have p2 := hy.cell 2); (have p3 := hy.cell 3); (have p4 := hy.cell 4); (have p5 := hy.cell 5); (have p6 := hy.cell 6); (have p7 := hy.cell 7); (have p8 := hy.cell 8); simp at p0 p1 p2 p3 p4 p5 p6 p7 p8; (have q0 := hy.frozen 0); (have q1 := hy.frozen 1); (have q2 := hy.frozen 2); (have q3 := hy.frozen 3); (have q4 := hy.frozen 4); (have q5 := hy.frozen 5); (have q6 := hy.frozen 6); (have q7 := hy.frozen 7); (have q8 := hy.frozen 8); (have hR := hs.res); (have r0 := hR.cell 0); (have r1 := hR.cell 1); (have r2 := hR.cell 2); (have r3 := hR.cell 3); (have r4 := hR.cell 4); (have r5 := hR.cell 5); (have r6 := hR.cell 6); (have r7 := hR.cell 7); (have r8 := hR.cell 8); simp at r0 r1 r2 r3 r4 r5 r6 r7 r8; (have g0 := hR.frozen 0); (have g1 := hR.frozen 1); (have g2 := hR.frozen 2); (have g3 := hR.frozen 3); (have g4 := hR.frozen 4); (have g5 := hR.frozen 5); (have g6 := hR.frozen 6); (have g7 := hR.frozen 7); (have g8 := hR.frozen 8))
      | (go_at_call_of 13 (Value.int IntKind.i64 21); refine (pick_any B _ _ _ (hs.put7 (zl == 0)).rd (by omega) (by omega)).mono ?_; rintro e w1 ⟨⟨z, rfl, z0, z1⟩, hr1, hb1⟩; (replace hs := (hs.put7 (zl == 0)).turn hb1 hr1); clear hr1 hb1; clear p0 q0 r0 g0 p1 q1 r1 g1 p2 q2 r2 g2 p3 q3 r3 g3 p4 q4 r4 g4 p5 q5 r5 g5 p6 q6 r6 g6 p7 q7 r7 g7 p8 q8 r8 g8 hy hR; (have hy := hs.pk); (have p0 := hy.cell 0); (have p1 := hy.cell 1); (have p2 := hy.cell 2); (have p3 := hy.cell 3); (have p4 := hy.cell 4); (have p5 := hy.cell 5); (have p6 := hy.cell 6); (have p7 := hy.cell 7); (have p8 := hy.cell 8); simp at p0 p1 p2 p3 p4 p5 p6 p7 p8; (have q0 := hy.frozen 0); (have q1 := hy.frozen 1); (have q2 := hy.frozen 2); (have q3 := hy.frozen 3); (have q4 := hy.frozen 4); (have q5 := hy.frozen 5); (have q6 := hy.frozen 6); (have q7 := hy.frozen 7); (have q8 := hy.frozen 8); (have hR := hs.res); (have r0 := hR.cell 0); (have r1 := hR.cell 1); (have r2 := hR.cell 2); (have r3 := hR.cell 3); (have r4 := hR.cell 4); (have r5 := hR.cell 5); (have r6 := hR.cell 6); (have r7 := hR.cell 7); (have r8 := hR.cell 8); simp at r0 r1 r2 r3 r4 r5 r6 r7 r8; (have g0 := hR.frozen 0); (have g1 := hR.frozen 1); (have g2 := hR.frozen 2); (have g3 := hR.frozen 3); (have g4 := hR.frozen 4); (have g5 := hR.frozen 5); (have g6 := hR.frozen 6); (have g7 := hR.frozen 7); (have g8 := hR.frozen 8))
      | (go_at_call 28; refine (many_any _ _ _ (by decide) (by omega)).mono ?_; rintro e w2 ⟨⟨t, rfl, ht⟩, hb2⟩; (replace hs := hs.keep hb2); clear p0 q0 r0 g0 p1 q1 r1 g1 p2 q2 r2 g2 p3 q3 r3 g3 p4 q4 r4 g4 p5 q5 r5 g5 p6 q6 r6 g6 p7 q7 r7 g7 p8 q8 r8 g8 hy hR; (have hy := hs.pk); (have p0 := hy.cell 0); (have p1 := hy.cell 1); (have p2 := hy.cell 2); (have p3 := hy.cell 3); (have p4 := hy.cell 4); (have p5 := hy.cell 5); (have p6 := hy.cell 6); (have p7 := hy.cell 7); (have p8 := hy.cell 8); simp at p0 p1 p2 p3 p4 p5 p6 p7 p8; (have q0 := hy.frozen 0); (have q1 := hy.frozen 1); (have q2 := hy.frozen 2); (have q3 := hy.frozen 3); (have q4 := hy.frozen 4); (have q5 := hy.frozen 5); (have q6 := hy.frozen 6); (have q7 := hy.frozen 7); (have q8 := hy.frozen 8); (have hR := hs.res); (have r0 := hR.cell 0); (have r1 := hR.cell 1); (have r2 := hR.cell 2); (have r3 := hR.cell 3); (have r4 := hR.cell 4); (have r5 := hR.cell 5); (have r6 := hR.cell 6); (have r7 := hR.cell 7); (have r8 := hR.cell 8); simp at r0 r1 r2 r3 r4 r5 r6 r7 r8; (have g0 := hR.frozen 0); (have g1 := hR.frozen 1); (have g2 := hR.frozen 2); (have g3 := hR.frozen 3); (have g4 := hR.frozen 4); (have g5 := hR.frozen 5); (have g6 := hR.frozen 6); (have g7 := hR.frozen 7); (have g8 := hR.frozen 8))
      | fail)
    have ht2 : t.size ≤ 20 := by have : t.size ≤ z.toNat * 1 := ht; omega
    obtain ⟨F1, F2⟩ := (hs.put8 t).fin (.int .i64 2) (.int .i64 c1) (.int .i64 c2) (.int .i64 c3) (.int .i64 0) (.int .i64 0) (.int .i64 V1) (.bool (zl == 0)) (.string t)
    exact bodyPost_ret (v := .agg #[.int .i64 2, .int .i64 c1, .int .i64 c2, .int .i64 c3, .int .i64 0, .int .i64 0, .int .i64 V1, .bool (zl == 0), .string t]) (by simp [results, Tryd.results12, go_sem, r0, r1, r2, r3, r4, r5, r6, r7, r8]) rfl ⟨⟨_, _, _, _, _, _, _, _, _, rfl, by omega, by unfold tag.pkOk tag.dataOk; simp; omega⟩, ⟨_, F1, by omega⟩, F2⟩
theorem l2Draw_any (B : Nat) (k : Int) (w : World) (h : Rd B k w) (hkb : k ≤ 800000) :
    Calls Tryd.prog 12 #[.pointer (some ⟨B, 0, none⟩)] w fun e w' => (∃ (a0 a1 a2 a3 a4 a5 a6 : Int) (a7 : Bool) (a8 : ByteArray), e = .returned (.agg #[.int .i64 a0, .int .i64 a1, .int .i64 a2, .int .i64 a3, .int .i64 a4, .int .i64 a5, .int .i64 a6, .bool a7, .string a8]) ∧ a8.size ≤ 100) ∧ (∃ k', Rd B k' w' ∧ k' ≤ k + 10) ∧ But B w w' :=
  (l2Draw_ok B k w h hkb).mono fun e w' ⟨⟨a0, a1, a2, a3, a4, a5, a6, a7, a8, h1, h2, _⟩, h3, h4⟩ => ⟨⟨a0, a1, a2, a3, a4, a5, a6, a7, a8, h1, h2⟩, h3, h4⟩
end Go.Proofs.YtfeknhopjgpbfaaDoor.draw

/-
  THE DRAWING of a law's inputs, fifth part: a packet.
-/
import Derived.Test.YtfeknhopjgpbfaaDoorDrawD
import Derived.Test.YtfeknhopjgpbfaaDoorRegI
namespace Go.Proofs.YtfeknhopjgpbfaaDoor.draw
open Go.RowKit mk
set_option linter.unusedVariables false

/-- a block whose cells are cs -/
def Bk (w : World) (B : Nat) (t : TypeId) (cs : Array Value) : Prop := w.heap[B]? = some (.cells cs t (0, 0))
theorem Bk.lt {w : World} {B : Nat} {t : TypeId} {cs : Array Value} (h : Bk w B t cs) : B < w.heap.size := (Array.getElem?_eq_some_iff.1 h).1
theorem Bk.cell {w : World} {B : Nat} {t : TypeId} {cs : Array Value} (h : Bk w B t cs) (j : Nat) : w.cell? ⟨B, j, none⟩ = cs[j]? := by simp [World.cell?, show w.heap[B]? = _ from h]
theorem Bk.frozen {w : World} {B : Nat} {t : TypeId} {cs : Array Value} (h : Bk w B t cs) (j : Nat) : w.frozen? ⟨B, j, none⟩ = false := by simp [World.frozen?, show w.heap[B]? = _ from h]
theorem Bk.new (w : World) (t : TypeId) (cs : Array Value) : Bk (w.alloc (.cells cs t)) w.heap.size t cs := heap_alloc_new w _
theorem Bk.but {D : Nat} {w w' : World} {B : Nat} {t : TypeId} {cs : Array Value} (h : Bk w B t cs) (hb : But D w w') (hn : B ≠ D) : Bk w' B t cs := (hb.block B h.lt hn).trans h
theorem Bk.put {W : World} {B : Nat} {t : TypeId} {cs : Array Value} (h : Bk W B t cs) (j : Nat) (v : Value) : Bk (W.setCell ⟨B, j, none⟩ v) B t (cs.setIfInBounds j v) := by
  obtain ⟨hlt, hk⟩ := Array.getElem?_eq_some_iff.1 h
  show (W.heap.modify B _)[B]? = _
  rw [Array.getElem?_eq_getElem (by rw [Array.size_modify]; exact hlt), Array.getElem_modify_self, hk]
  rfl
/-- a table of five numbers -/
structure Tb (B : Nat) (lo : Int) (w : World) (x : Nat) : Prop where
  ne : x ≠ B
  lt : x < w.heap.size
  cells : ∀ j, j < 5 → ∃ V, w.cell? ⟨x, j, none⟩ = some (.int .i64 V) ∧ lo ≤ V ∧ V ≤ 1000
theorem Tb.but {B : Nat} {lo : Int} {w w' : World} {x : Nat} (h : Tb B lo w x) (hb : But B w w') : Tb B lo w' x := ⟨h.ne, Nat.lt_of_lt_of_le h.lt hb.size, fun j hj => by
  obtain ⟨V, hV, hl⟩ := h.cells j hj
  exact ⟨V, (hb.cell (p := ⟨x, j, none⟩) h.lt h.ne).trans hV, hl⟩⟩
theorem Tb.new {B : Nat} (lo : Int) (w : World) (t : TypeId) (c0 c1 c2 c3 c4 : Int) (hB : B < w.heap.size) (hl : ∀ c ∈ [c0, c1, c2, c3, c4], lo ≤ c ∧ c ≤ 1000) : Tb B lo (w.alloc (.cells #[.int .i64 c0, .int .i64 c1, .int .i64 c2, .int .i64 c3, .int .i64 c4] t)) w.heap.size := ⟨by omega, by simp, fun j hj => by
  rw [(Bk.new w t _).cell j]
  rcases (by omega : j = 0 ∨ j = 1 ∨ j = 2 ∨ j = 3 ∨ j = 4) with rfl | rfl | rfl | rfl | rfl <;> exact ⟨_, rfl, hl _ (by simp)⟩⟩
/-- a packet in a block of its own -/
structure Pb (N B : Nat) (w : World) (y : Nat) : Prop where
  ne : y ≠ B
  ge : N ≤ y
  ex : ∃ (a0 a1 a2 a3 a4 a5 a6 : Int) (a7 : Bool) (a8 : ByteArray), Bk w y 24 #[.int .i64 a0, .int .i64 a1, .int .i64 a2, .int .i64 a3, .int .i64 a4, .int .i64 a5, .int .i64 a6, .bool a7, .string a8] ∧ a8.size ≤ 20
theorem Pb.but {N B : Nat} {w w' : World} {y : Nat} (h : Pb N B w y) (hb : But B w w') : Pb N B w' y := ⟨h.ne, h.ge, by
  obtain ⟨a0, a1, a2, a3, a4, a5, a6, a7, a8, h1, h2⟩ := h.ex
  exact ⟨a0, a1, a2, a3, a4, a5, a6, a7, a8, h1.but hb h.ne, h2⟩⟩
theorem Rd.far {B : Nat} {k : Int} {w : World} {y : Nat} (h : Rd B k w) (j : Nat) (v : Value) (hn : B < y) : Rd B k (w.setCell ⟨y, j, none⟩ v) := by
  have hne : y ≠ B := by omega
  have q : ∀ (C m : Nat), C ≠ y → (w.setCell ⟨y, j, none⟩ v).cell? ⟨C, m, none⟩ = w.cell? ⟨C, m, none⟩ := fun C m hC => World.cell?_setCell_far w ⟨y, j, none⟩ ⟨C, m, none⟩ v (fun e => hC e.symm)
  obtain ⟨v', len, cap, b0, b1, b2⟩ := h.buf
  refine ⟨by simpa using h.lt, ?_, ?_, h.nonneg, v', len, cap, ?_, b1, ?_⟩
  · rw [World.frozen?_setCell]; exact h.frozen
  · rw [q _ _ (by omega)]; exact h.pos
  · rw [q _ _ (by omega)]; exact b0
  · rcases b2 with b2 | ⟨C, o, b3, b4, b5, b6⟩
    · exact .inl b2
    · exact .inr ⟨C, o, b3, b4, by simpa using b5, fun i hi => by rw [q _ _ (by omega)]; exact b6 i hi⟩
/-- what holds while the region runs; L: which of its operations are done -/
structure FL (B N : Nat) (K : Int) (w0 : World) (L : Nat → Bool) (v3 v4 v5 v6 v7 v8 v9 v10 v11 v12 v13 v14 v15 v16 v17 v18 v19 v20 : Value) (w : World) : Prop where
  but : But B w0 w
  rd : ∃ k, Rd B k w ∧ k + ((if L 1 = true then (0 : Int) else 1) + (if L 4 = true then 0 else 1) + (if L 8 = true then 0 else 1) + (if L 13 = true then 0 else 1)) ≤ K
  f0 : L 0 = true → v4 = .pointer (some ⟨B, 0, none⟩)
  f1 : L 1 = true → ∃ z : Int, v5 = .int .i64 z ∧ 0 ≤ z ∧ z < 2
  f2 : L 2 = true → ∃ z : Int, v6 = .int .i64 z ∧ 1 ≤ z ∧ z ≤ 2
  f3 : L 3 = true → v7 = .pointer (some ⟨B, 0, none⟩)
  f4 : L 4 = true → ∃ z : Int, v8 = .int .i64 z ∧ 0 ≤ z ∧ z < 2
  f5 : L 5 = true → ∃ z : Int, v9 = .int .i64 z ∧ 1 ≤ z ∧ z ≤ 2
  f6 : L 6 = true → L 18 = false → ∃ x : Nat, v10 = .slice (some ⟨x, 0, none⟩) 5 5 ∧ Tb B 1 w x
  f7 : L 7 = true → v11 = .pointer (some ⟨B, 0, none⟩)
  f8 : L 8 = true → ∃ z : Int, v12 = .int .i64 z ∧ 0 ≤ z ∧ z < 5
  f9 : L 9 = true → L 18 = false → ∃ x z : Nat, v13 = .pointer (some ⟨x, z, none⟩) ∧ Tb B 1 w x ∧ z < 5
  f10 : L 10 = true → ∃ z : Int, v14 = .int .i64 z ∧ 1 ≤ z ∧ z ≤ 1000
  f11 : L 11 = true → L 18 = false → ∃ x : Nat, v15 = .slice (some ⟨x, 0, none⟩) 5 5 ∧ Tb B 0 w x
  f12 : L 12 = true → v16 = .pointer (some ⟨B, 0, none⟩)
  f13 : L 13 = true → ∃ z : Int, v17 = .int .i64 z ∧ 0 ≤ z ∧ z < 5
  f14 : L 14 = true → L 18 = false → ∃ x z : Nat, v18 = .pointer (some ⟨x, z, none⟩) ∧ Tb B 0 w x ∧ z < 5
  f15 : L 15 = true → ∃ z : Int, v19 = .int .i64 z ∧ 0 ≤ z ∧ z ≤ 1000
  f16 : L 16 = true → ∃ z0 z1 z2 z3 : Int, v20 = .agg #[.int .i64 z0, .int .i64 z1, .int .i64 z2, .int .i64 z3, .int .i64 0, .int .i64 0, .int .i64 0, .bool false, .string ⟨#[]⟩] ∧ (1 ≤ z0 ∧ z0 ≤ 2) ∧ (1 ≤ z1 ∧ z1 ≤ 2) ∧ (1 ≤ z2 ∧ z2 ≤ 1000) ∧ 0 ≤ z3 ∧ z3 ≤ 1000
  f17 : L 17 = true → ∃ y : Nat, v3 = .pointer (some ⟨y, 0, none⟩) ∧ Pb N B w y
  f18 : L 18 = true → ∀ j, j < 18 → L j = true
  f19 : L 18 = true → ∃ (y : Nat) (z0 z1 z2 z3 : Int), v3 = .pointer (some ⟨y, 0, none⟩) ∧ y ≠ B ∧ N ≤ y ∧ Bk w y 24 #[.int .i64 z0, .int .i64 z1, .int .i64 z2, .int .i64 z3, .int .i64 0, .int .i64 0, .int .i64 0, .bool false, .string ⟨#[]⟩] ∧ (1 ≤ z0 ∧ z0 ≤ 2) ∧ (1 ≤ z1 ∧ z1 ≤ 2) ∧ (1 ≤ z2 ∧ z2 ≤ 1000) ∧ 0 ≤ z3 ∧ z3 ≤ 1000
noncomputable def ops2 : Array Oper := match Tryd.f12.body with
  | some (.seq _ (.seq (.region _ o _) _)) => o
  | _ => #[]
theorem ops2_size : ops2.size = 19 := by kernel_rfl
theorem ops2_down : downB ops2 = true := by kernel_rfl
set_option maxRecDepth 100000 in
set_option maxHeartbeats 1000000 in
theorem st0 (B N : Nat) (K : Int) (w0 : World) (u1 u2 u21 u22 u23 u24 u25 u26 u27 u28 u29 u30 u31 u32 u33 u34 u35 u36 u37 u38 u39 u40 u41 u42 u43 u44 u45 u46 u47 u48 u49 u50 u51 : Value) (Q : Exit → Act → World → Prop) (hBN : B < N) (hN0 : N = w0.heap.size) (hKb : K ≤ 900000) (L : Nat → Bool) (v3 v4 v5 v6 v7 v8 v9 v10 v11 v12 v13 v14 v15 v16 v17 v18 v19 v20 : Value) (w : World) (hI : FL B N K w0 L v3 v4 v5 v6 v7 v8 v9 v10 v11 v12 v13 v14 v15 v16 v17 v18 v19 v20 w) (hL : L 0 = false) (hd : ∀ j ∈ deps .any ops2 0, L j = true) :
    wpOp Tryd.prog ops2 Q 0 (fun a w => ∃ v3 v4 v5 v6 v7 v8 v9 v10 v11 v12 v13 v14 v15 v16 v17 v18 v19 v20 : Value, a = ⟨#[.pointer (some ⟨B, 0, none⟩), u1, u2, v3, v4, v5, v6, v7, v8, v9, v10, v11, v12, v13, v14, v15, v16, v17, v18, v19, v20, u21, u22, u23, u24, u25, u26, u27, u28, u29, u30, u31, u32, u33, u34, u35, u36, u37, u38, u39, u40, u41, u42, u43, u44, u45, u46, u47, u48, u49, u50, u51], []⟩ ∧ FL B N K w0 (fun j => if j = 0 then true else L j) v3 v4 v5 v6 v7 v8 v9 v10 v11 v12 v13 v14 v15 v16 v17 v18 v19 v20 w) ⟨#[.pointer (some ⟨B, 0, none⟩), u1, u2, v3, v4, v5, v6, v7, v8, v9, v10, v11, v12, v13, v14, v15, v16, v17, v18, v19, v20, u21, u22, u23, u24, u25, u26, u27, u28, u29, u30, u31, u32, u33, u34, u35, u36, u37, u38, u39, u40, u41, u42, u43, u44, u45, u46, u47, u48, u49, u50, u51], []⟩ w := by
  have h18' : 0 < 18 → L 18 = false := fun h => by
    rcases Bool.eq_false_or_eq_true (L 18) with q | q
    · have := hI.f18 q 0 h
      rw [hL] at this
      cases this
    · exact q
  unfold ops2 Tryd.f12
  dsimp only
  refine wpOp_step rfl (fun KK hKK => ?_)
  go_simp
  exact hKK _ _ ⟨_, _, _, _, _, _, _, _, _, _, _, _, _, _, _, _, _, _, rfl, ⟨hI.but, hI.rd, (fun _ => rfl), (hI.f1), (hI.f2), (hI.f3), (hI.f4), (hI.f5), (hI.f6), (hI.f7), (hI.f8), (hI.f9), (hI.f10), (hI.f11), (hI.f12), (hI.f13), (hI.f14), (hI.f15), (hI.f16), (hI.f17), (fun h j hj => by have q := hI.f18 h j hj; show (if _ then _ else _) = true; split <;> first | rfl | exact q), (fun h => absurd (show L 18 = true from h) (by rw [h18' (by omega)]; decide))⟩⟩
set_option maxRecDepth 100000 in
set_option maxHeartbeats 1000000 in
theorem st1 (B N : Nat) (K : Int) (w0 : World) (u1 u2 u21 u22 u23 u24 u25 u26 u27 u28 u29 u30 u31 u32 u33 u34 u35 u36 u37 u38 u39 u40 u41 u42 u43 u44 u45 u46 u47 u48 u49 u50 u51 : Value) (Q : Exit → Act → World → Prop) (hBN : B < N) (hN0 : N = w0.heap.size) (hKb : K ≤ 900000) (L : Nat → Bool) (v3 v4 v5 v6 v7 v8 v9 v10 v11 v12 v13 v14 v15 v16 v17 v18 v19 v20 : Value) (w : World) (hI : FL B N K w0 L v3 v4 v5 v6 v7 v8 v9 v10 v11 v12 v13 v14 v15 v16 v17 v18 v19 v20 w) (hL : L 1 = false) (hd : ∀ j ∈ deps .any ops2 1, L j = true) :
    wpOp Tryd.prog ops2 Q 1 (fun a w => ∃ v3 v4 v5 v6 v7 v8 v9 v10 v11 v12 v13 v14 v15 v16 v17 v18 v19 v20 : Value, a = ⟨#[.pointer (some ⟨B, 0, none⟩), u1, u2, v3, v4, v5, v6, v7, v8, v9, v10, v11, v12, v13, v14, v15, v16, v17, v18, v19, v20, u21, u22, u23, u24, u25, u26, u27, u28, u29, u30, u31, u32, u33, u34, u35, u36, u37, u38, u39, u40, u41, u42, u43, u44, u45, u46, u47, u48, u49, u50, u51], []⟩ ∧ FL B N K w0 (fun j => if j = 1 then true else L j) v3 v4 v5 v6 v7 v8 v9 v10 v11 v12 v13 v14 v15 v16 v17 v18 v19 v20 w) ⟨#[.pointer (some ⟨B, 0, none⟩), u1, u2, v3, v4, v5, v6, v7, v8, v9, v10, v11, v12, v13, v14, v15, v16, v17, v18, v19, v20, u21, u22, u23, u24, u25, u26, u27, u28, u29, u30, u31, u32, u33, u34, u35, u36, u37, u38, u39, u40, u41, u42, u43, u44, u45, u46, u47, u48, u49, u50, u51], []⟩ w := by
  have h18' : 1 < 18 → L 18 = false := fun h => by
    rcases Bool.eq_false_or_eq_true (L 18) with q | q
    · have := hI.f18 q 1 h
      rw [hL] at this
      cases this
    · exact q
  unfold ops2 Tryd.f12
  dsimp only
  refine wpOp_step rfl (fun KK hKK => ?_)
  obtain rfl := hI.f0 (hd 0 (by decide +kernel))
  obtain ⟨k, hr, hk⟩ := hI.rd
  go_simp
  refine (pick_any B k 2 w hr (by have : k ≤ K := (by split at hk <;> split at hk <;> split at hk <;> split at hk <;> omega); omega) (by omega)).mono ?_
  rintro e w1 ⟨⟨z, rfl, z0, z1⟩, hr1, hb1⟩
  exact hKK _ _ ⟨_, _, _, _, _, _, _, _, _, _, _, _, _, _, _, _, _, _, rfl, ⟨hI.but.trans hb1, ⟨k + 1, hr1, by have := hk; simp only [hL, if_true, if_false, Bool.false_eq_true] at this ⊢; simp at this ⊢; omega⟩, (hI.f0), (fun _ => ⟨z, rfl, z0, z1⟩), (hI.f2), (hI.f3), (hI.f4), (hI.f5), (fun h h18 => by obtain ⟨x, e, t⟩ := hI.f6 h h18; exact ⟨x, e, t.but hb1⟩), (hI.f7), (hI.f8), (fun h h18 => by obtain ⟨x, z, e, t, hz⟩ := hI.f9 h h18; exact ⟨x, z, e, t.but hb1, hz⟩), (hI.f10), (fun h h18 => by obtain ⟨x, e, t⟩ := hI.f11 h h18; exact ⟨x, e, t.but hb1⟩), (hI.f12), (hI.f13), (fun h h18 => by obtain ⟨x, z, e, t, hz⟩ := hI.f14 h h18; exact ⟨x, z, e, t.but hb1, hz⟩), (hI.f15), (hI.f16), (fun h => by obtain ⟨y, e, t⟩ := hI.f17 h; exact ⟨y, e, t.but hb1⟩), (fun h j hj => by have q := hI.f18 h j hj; show (if _ then _ else _) = true; split <;> first | rfl | exact q), (fun h => absurd (show L 18 = true from h) (by rw [h18' (by omega)]; decide))⟩⟩
set_option maxRecDepth 100000 in
set_option maxHeartbeats 1000000 in
theorem st2 (B N : Nat) (K : Int) (w0 : World) (u1 u2 u21 u22 u23 u24 u25 u26 u27 u28 u29 u30 u31 u32 u33 u34 u35 u36 u37 u38 u39 u40 u41 u42 u43 u44 u45 u46 u47 u48 u49 u50 u51 : Value) (Q : Exit → Act → World → Prop) (hBN : B < N) (hN0 : N = w0.heap.size) (hKb : K ≤ 900000) (L : Nat → Bool) (v3 v4 v5 v6 v7 v8 v9 v10 v11 v12 v13 v14 v15 v16 v17 v18 v19 v20 : Value) (w : World) (hI : FL B N K w0 L v3 v4 v5 v6 v7 v8 v9 v10 v11 v12 v13 v14 v15 v16 v17 v18 v19 v20 w) (hL : L 2 = false) (hd : ∀ j ∈ deps .any ops2 2, L j = true) :
    wpOp Tryd.prog ops2 Q 2 (fun a w => ∃ v3 v4 v5 v6 v7 v8 v9 v10 v11 v12 v13 v14 v15 v16 v17 v18 v19 v20 : Value, a = ⟨#[.pointer (some ⟨B, 0, none⟩), u1, u2, v3, v4, v5, v6, v7, v8, v9, v10, v11, v12, v13, v14, v15, v16, v17, v18, v19, v20, u21, u22, u23, u24, u25, u26, u27, u28, u29, u30, u31, u32, u33, u34, u35, u36, u37, u38, u39, u40, u41, u42, u43, u44, u45, u46, u47, u48, u49, u50, u51], []⟩ ∧ FL B N K w0 (fun j => if j = 2 then true else L j) v3 v4 v5 v6 v7 v8 v9 v10 v11 v12 v13 v14 v15 v16 v17 v18 v19 v20 w) ⟨#[.pointer (some ⟨B, 0, none⟩), u1, u2, v3, v4, v5, v6, v7, v8, v9, v10, v11, v12, v13, v14, v15, v16, v17, v18, v19, v20, u21, u22, u23, u24, u25, u26, u27, u28, u29, u30, u31, u32, u33, u34, u35, u36, u37, u38, u39, u40, u41, u42, u43, u44, u45, u46, u47, u48, u49, u50, u51], []⟩ w := by
  have h18' : 2 < 18 → L 18 = false := fun h => by
    rcases Bool.eq_false_or_eq_true (L 18) with q | q
    · have := hI.f18 q 2 h
      rw [hL] at this
      cases this
    · exact q
  unfold ops2 Tryd.f12
  dsimp only
  refine wpOp_step rfl (fun KK hKK => ?_)
  obtain ⟨z, rfl, z0, z1⟩ := hI.f1 (hd 1 (by decide +kernel))
  have hw : IntKind.i64.wrap (1 + z) = 1 + z := by rw [IntKind.wrap_i64]; omega
  go_simp
  exact hKK _ _ ⟨_, _, _, _, _, _, _, _, _, _, _, _, _, _, _, _, _, _, rfl, ⟨hI.but, hI.rd, (hI.f0), (hI.f1), (fun _ => ⟨_, rfl, by omega, by omega⟩), (hI.f3), (hI.f4), (hI.f5), (hI.f6), (hI.f7), (hI.f8), (hI.f9), (hI.f10), (hI.f11), (hI.f12), (hI.f13), (hI.f14), (hI.f15), (hI.f16), (hI.f17), (fun h j hj => by have q := hI.f18 h j hj; show (if _ then _ else _) = true; split <;> first | rfl | exact q), (fun h => absurd (show L 18 = true from h) (by rw [h18' (by omega)]; decide))⟩⟩
set_option maxRecDepth 100000 in
set_option maxHeartbeats 1000000 in
theorem st3 (B N : Nat) (K : Int) (w0 : World) (u1 u2 u21 u22 u23 u24 u25 u26 u27 u28 u29 u30 u31 u32 u33 u34 u35 u36 u37 u38 u39 u40 u41 u42 u43 u44 u45 u46 u47 u48 u49 u50 u51 : Value) (Q : Exit → Act → World → Prop) (hBN : B < N) (hN0 : N = w0.heap.size) (hKb : K ≤ 900000) (L : Nat → Bool) (v3 v4 v5 v6 v7 v8 v9 v10 v11 v12 v13 v14 v15 v16 v17 v18 v19 v20 : Value) (w : World) (hI : FL B N K w0 L v3 v4 v5 v6 v7 v8 v9 v10 v11 v12 v13 v14 v15 v16 v17 v18 v19 v20 w) (hL : L 3 = false) (hd : ∀ j ∈ deps .any ops2 3, L j = true) :
    wpOp Tryd.prog ops2 Q 3 (fun a w => ∃ v3 v4 v5 v6 v7 v8 v9 v10 v11 v12 v13 v14 v15 v16 v17 v18 v19 v20 : Value, a = ⟨#[.pointer (some ⟨B, 0, none⟩), u1, u2, v3, v4, v5, v6, v7, v8, v9, v10, v11, v12, v13, v14, v15, v16, v17, v18, v19, v20, u21, u22, u23, u24, u25, u26, u27, u28, u29, u30, u31, u32, u33, u34, u35, u36, u37, u38, u39, u40, u41, u42, u43, u44, u45, u46, u47, u48, u49, u50, u51], []⟩ ∧ FL B N K w0 (fun j => if j = 3 then true else L j) v3 v4 v5 v6 v7 v8 v9 v10 v11 v12 v13 v14 v15 v16 v17 v18 v19 v20 w) ⟨#[.pointer (some ⟨B, 0, none⟩), u1, u2, v3, v4, v5, v6, v7, v8, v9, v10, v11, v12, v13, v14, v15, v16, v17, v18, v19, v20, u21, u22, u23, u24, u25, u26, u27, u28, u29, u30, u31, u32, u33, u34, u35, u36, u37, u38, u39, u40, u41, u42, u43, u44, u45, u46, u47, u48, u49, u50, u51], []⟩ w := by
  have h18' : 3 < 18 → L 18 = false := fun h => by
    rcases Bool.eq_false_or_eq_true (L 18) with q | q
    · have := hI.f18 q 3 h
      rw [hL] at this
      cases this
    · exact q
  unfold ops2 Tryd.f12
  dsimp only
  refine wpOp_step rfl (fun KK hKK => ?_)
  go_simp
  exact hKK _ _ ⟨_, _, _, _, _, _, _, _, _, _, _, _, _, _, _, _, _, _, rfl, ⟨hI.but, hI.rd, (hI.f0), (hI.f1), (hI.f2), (fun _ => rfl), (hI.f4), (hI.f5), (hI.f6), (hI.f7), (hI.f8), (hI.f9), (hI.f10), (hI.f11), (hI.f12), (hI.f13), (hI.f14), (hI.f15), (hI.f16), (hI.f17), (fun h j hj => by have q := hI.f18 h j hj; show (if _ then _ else _) = true; split <;> first | rfl | exact q), (fun h => absurd (show L 18 = true from h) (by rw [h18' (by omega)]; decide))⟩⟩
set_option maxRecDepth 100000 in
set_option maxHeartbeats 1000000 in
theorem st4 (B N : Nat) (K : Int) (w0 : World) (u1 u2 u21 u22 u23 u24 u25 u26 u27 u28 u29 u30 u31 u32 u33 u34 u35 u36 u37 u38 u39 u40 u41 u42 u43 u44 u45 u46 u47 u48 u49 u50 u51 : Value) (Q : Exit → Act → World → Prop) (hBN : B < N) (hN0 : N = w0.heap.size) (hKb : K ≤ 900000) (L : Nat → Bool) (v3 v4 v5 v6 v7 v8 v9 v10 v11 v12 v13 v14 v15 v16 v17 v18 v19 v20 : Value) (w : World) (hI : FL B N K w0 L v3 v4 v5 v6 v7 v8 v9 v10 v11 v12 v13 v14 v15 v16 v17 v18 v19 v20 w) (hL : L 4 = false) (hd : ∀ j ∈ deps .any ops2 4, L j = true) :
    wpOp Tryd.prog ops2 Q 4 (fun a w => ∃ v3 v4 v5 v6 v7 v8 v9 v10 v11 v12 v13 v14 v15 v16 v17 v18 v19 v20 : Value, a = ⟨#[.pointer (some ⟨B, 0, none⟩), u1, u2, v3, v4, v5, v6, v7, v8, v9, v10, v11, v12, v13, v14, v15, v16, v17, v18, v19, v20, u21, u22, u23, u24, u25, u26, u27, u28, u29, u30, u31, u32, u33, u34, u35, u36, u37, u38, u39, u40, u41, u42, u43, u44, u45, u46, u47, u48, u49, u50, u51], []⟩ ∧ FL B N K w0 (fun j => if j = 4 then true else L j) v3 v4 v5 v6 v7 v8 v9 v10 v11 v12 v13 v14 v15 v16 v17 v18 v19 v20 w) ⟨#[.pointer (some ⟨B, 0, none⟩), u1, u2, v3, v4, v5, v6, v7, v8, v9, v10, v11, v12, v13, v14, v15, v16, v17, v18, v19, v20, u21, u22, u23, u24, u25, u26, u27, u28, u29, u30, u31, u32, u33, u34, u35, u36, u37, u38, u39, u40, u41, u42, u43, u44, u45, u46, u47, u48, u49, u50, u51], []⟩ w := by
  have h18' : 4 < 18 → L 18 = false := fun h => by
    rcases Bool.eq_false_or_eq_true (L 18) with q | q
    · have := hI.f18 q 4 h
      rw [hL] at this
      cases this
    · exact q
  unfold ops2 Tryd.f12
  dsimp only
  refine wpOp_step rfl (fun KK hKK => ?_)
  obtain rfl := hI.f3 (hd 3 (by decide +kernel))
  obtain ⟨k, hr, hk⟩ := hI.rd
  go_simp
  refine (pick_any B k 2 w hr (by have : k ≤ K := (by split at hk <;> split at hk <;> split at hk <;> split at hk <;> omega); omega) (by omega)).mono ?_
  rintro e w1 ⟨⟨z, rfl, z0, z1⟩, hr1, hb1⟩
  exact hKK _ _ ⟨_, _, _, _, _, _, _, _, _, _, _, _, _, _, _, _, _, _, rfl, ⟨hI.but.trans hb1, ⟨k + 1, hr1, by have := hk; simp only [hL, if_true, if_false, Bool.false_eq_true] at this ⊢; simp at this ⊢; omega⟩, (hI.f0), (hI.f1), (hI.f2), (hI.f3), (fun _ => ⟨z, rfl, z0, z1⟩), (hI.f5), (fun h h18 => by obtain ⟨x, e, t⟩ := hI.f6 h h18; exact ⟨x, e, t.but hb1⟩), (hI.f7), (hI.f8), (fun h h18 => by obtain ⟨x, z, e, t, hz⟩ := hI.f9 h h18; exact ⟨x, z, e, t.but hb1, hz⟩), (hI.f10), (fun h h18 => by obtain ⟨x, e, t⟩ := hI.f11 h h18; exact ⟨x, e, t.but hb1⟩), (hI.f12), (hI.f13), (fun h h18 => by obtain ⟨x, z, e, t, hz⟩ := hI.f14 h h18; exact ⟨x, z, e, t.but hb1, hz⟩), (hI.f15), (hI.f16), (fun h => by obtain ⟨y, e, t⟩ := hI.f17 h; exact ⟨y, e, t.but hb1⟩), (fun h j hj => by have q := hI.f18 h j hj; show (if _ then _ else _) = true; split <;> first | rfl | exact q), (fun h => absurd (show L 18 = true from h) (by rw [h18' (by omega)]; decide))⟩⟩
set_option maxRecDepth 100000 in
set_option maxHeartbeats 1000000 in
theorem st5 (B N : Nat) (K : Int) (w0 : World) (u1 u2 u21 u22 u23 u24 u25 u26 u27 u28 u29 u30 u31 u32 u33 u34 u35 u36 u37 u38 u39 u40 u41 u42 u43 u44 u45 u46 u47 u48 u49 u50 u51 : Value) (Q : Exit → Act → World → Prop) (hBN : B < N) (hN0 : N = w0.heap.size) (hKb : K ≤ 900000) (L : Nat → Bool) (v3 v4 v5 v6 v7 v8 v9 v10 v11 v12 v13 v14 v15 v16 v17 v18 v19 v20 : Value) (w : World) (hI : FL B N K w0 L v3 v4 v5 v6 v7 v8 v9 v10 v11 v12 v13 v14 v15 v16 v17 v18 v19 v20 w) (hL : L 5 = false) (hd : ∀ j ∈ deps .any ops2 5, L j = true) :
    wpOp Tryd.prog ops2 Q 5 (fun a w => ∃ v3 v4 v5 v6 v7 v8 v9 v10 v11 v12 v13 v14 v15 v16 v17 v18 v19 v20 : Value, a = ⟨#[.pointer (some ⟨B, 0, none⟩), u1, u2, v3, v4, v5, v6, v7, v8, v9, v10, v11, v12, v13, v14, v15, v16, v17, v18, v19, v20, u21, u22, u23, u24, u25, u26, u27, u28, u29, u30, u31, u32, u33, u34, u35, u36, u37, u38, u39, u40, u41, u42, u43, u44, u45, u46, u47, u48, u49, u50, u51], []⟩ ∧ FL B N K w0 (fun j => if j = 5 then true else L j) v3 v4 v5 v6 v7 v8 v9 v10 v11 v12 v13 v14 v15 v16 v17 v18 v19 v20 w) ⟨#[.pointer (some ⟨B, 0, none⟩), u1, u2, v3, v4, v5, v6, v7, v8, v9, v10, v11, v12, v13, v14, v15, v16, v17, v18, v19, v20, u21, u22, u23, u24, u25, u26, u27, u28, u29, u30, u31, u32, u33, u34, u35, u36, u37, u38, u39, u40, u41, u42, u43, u44, u45, u46, u47, u48, u49, u50, u51], []⟩ w := by
  have h18' : 5 < 18 → L 18 = false := fun h => by
    rcases Bool.eq_false_or_eq_true (L 18) with q | q
    · have := hI.f18 q 5 h
      rw [hL] at this
      cases this
    · exact q
  unfold ops2 Tryd.f12
  dsimp only
  refine wpOp_step rfl (fun KK hKK => ?_)
  obtain ⟨z, rfl, z0, z1⟩ := hI.f4 (hd 4 (by decide +kernel))
  have hw : IntKind.i64.wrap (1 + z) = 1 + z := by rw [IntKind.wrap_i64]; omega
  go_simp
  exact hKK _ _ ⟨_, _, _, _, _, _, _, _, _, _, _, _, _, _, _, _, _, _, rfl, ⟨hI.but, hI.rd, (hI.f0), (hI.f1), (hI.f2), (hI.f3), (hI.f4), (fun _ => ⟨_, rfl, by omega, by omega⟩), (hI.f6), (hI.f7), (hI.f8), (hI.f9), (hI.f10), (hI.f11), (hI.f12), (hI.f13), (hI.f14), (hI.f15), (hI.f16), (hI.f17), (fun h j hj => by have q := hI.f18 h j hj; show (if _ then _ else _) = true; split <;> first | rfl | exact q), (fun h => absurd (show L 18 = true from h) (by rw [h18' (by omega)]; decide))⟩⟩
set_option maxRecDepth 100000 in
set_option maxHeartbeats 1000000 in
theorem st6 (B N : Nat) (K : Int) (w0 : World) (u1 u2 u21 u22 u23 u24 u25 u26 u27 u28 u29 u30 u31 u32 u33 u34 u35 u36 u37 u38 u39 u40 u41 u42 u43 u44 u45 u46 u47 u48 u49 u50 u51 : Value) (Q : Exit → Act → World → Prop) (hBN : B < N) (hN0 : N = w0.heap.size) (hKb : K ≤ 900000) (L : Nat → Bool) (v3 v4 v5 v6 v7 v8 v9 v10 v11 v12 v13 v14 v15 v16 v17 v18 v19 v20 : Value) (w : World) (hI : FL B N K w0 L v3 v4 v5 v6 v7 v8 v9 v10 v11 v12 v13 v14 v15 v16 v17 v18 v19 v20 w) (hL : L 6 = false) (hd : ∀ j ∈ deps .any ops2 6, L j = true) :
    wpOp Tryd.prog ops2 Q 6 (fun a w => ∃ v3 v4 v5 v6 v7 v8 v9 v10 v11 v12 v13 v14 v15 v16 v17 v18 v19 v20 : Value, a = ⟨#[.pointer (some ⟨B, 0, none⟩), u1, u2, v3, v4, v5, v6, v7, v8, v9, v10, v11, v12, v13, v14, v15, v16, v17, v18, v19, v20, u21, u22, u23, u24, u25, u26, u27, u28, u29, u30, u31, u32, u33, u34, u35, u36, u37, u38, u39, u40, u41, u42, u43, u44, u45, u46, u47, u48, u49, u50, u51], []⟩ ∧ FL B N K w0 (fun j => if j = 6 then true else L j) v3 v4 v5 v6 v7 v8 v9 v10 v11 v12 v13 v14 v15 v16 v17 v18 v19 v20 w) ⟨#[.pointer (some ⟨B, 0, none⟩), u1, u2, v3, v4, v5, v6, v7, v8, v9, v10, v11, v12, v13, v14, v15, v16, v17, v18, v19, v20, u21, u22, u23, u24, u25, u26, u27, u28, u29, u30, u31, u32, u33, u34, u35, u36, u37, u38, u39, u40, u41, u42, u43, u44, u45, u46, u47, u48, u49, u50, u51], []⟩ w := by
  have h18' : 6 < 18 → L 18 = false := fun h => by
    rcases Bool.eq_false_or_eq_true (L 18) with q | q
    · have := hI.f18 q 6 h
      rw [hL] at this
      cases this
    · exact q
  unfold ops2 Tryd.f12
  dsimp only
  refine wpOp_step rfl (fun KK hKK => ?_)
  obtain ⟨k, hr, hk⟩ := hI.rd
  have hB := hr.lt
  go_simp
  have hb1 : ∀ o : Obj, But B w (w.alloc o) := fun o => (But.refl B w).alloc o
  exact hKK _ _ ⟨_, _, _, _, _, _, _, _, _, _, _, _, _, _, _, _, _, _, rfl, ⟨hI.but.alloc _, ⟨k, hr.made _, hk⟩, (hI.f0), (hI.f1), (hI.f2), (hI.f3), (hI.f4), (hI.f5), (fun _ => fun _ => ⟨_, rfl, Tb.new 1 w _ 1 2 3 256 1000 hB (by decide)⟩), (hI.f7), (hI.f8), (fun h h18 => by obtain ⟨x, z, e, t, hz⟩ := hI.f9 h h18; exact ⟨x, z, e, t.but (hb1 _), hz⟩), (hI.f10), (fun h h18 => by obtain ⟨x, e, t⟩ := hI.f11 h h18; exact ⟨x, e, t.but (hb1 _)⟩), (hI.f12), (hI.f13), (fun h h18 => by obtain ⟨x, z, e, t, hz⟩ := hI.f14 h h18; exact ⟨x, z, e, t.but (hb1 _), hz⟩), (hI.f15), (hI.f16), (fun h => by obtain ⟨y, e, t⟩ := hI.f17 h; exact ⟨y, e, t.but (hb1 _)⟩), (fun h j hj => by have q := hI.f18 h j hj; show (if _ then _ else _) = true; split <;> first | rfl | exact q), (fun h => absurd (show L 18 = true from h) (by rw [h18' (by omega)]; decide))⟩⟩
set_option maxRecDepth 100000 in
set_option maxHeartbeats 1000000 in
theorem st7 (B N : Nat) (K : Int) (w0 : World) (u1 u2 u21 u22 u23 u24 u25 u26 u27 u28 u29 u30 u31 u32 u33 u34 u35 u36 u37 u38 u39 u40 u41 u42 u43 u44 u45 u46 u47 u48 u49 u50 u51 : Value) (Q : Exit → Act → World → Prop) (hBN : B < N) (hN0 : N = w0.heap.size) (hKb : K ≤ 900000) (L : Nat → Bool) (v3 v4 v5 v6 v7 v8 v9 v10 v11 v12 v13 v14 v15 v16 v17 v18 v19 v20 : Value) (w : World) (hI : FL B N K w0 L v3 v4 v5 v6 v7 v8 v9 v10 v11 v12 v13 v14 v15 v16 v17 v18 v19 v20 w) (hL : L 7 = false) (hd : ∀ j ∈ deps .any ops2 7, L j = true) :
    wpOp Tryd.prog ops2 Q 7 (fun a w => ∃ v3 v4 v5 v6 v7 v8 v9 v10 v11 v12 v13 v14 v15 v16 v17 v18 v19 v20 : Value, a = ⟨#[.pointer (some ⟨B, 0, none⟩), u1, u2, v3, v4, v5, v6, v7, v8, v9, v10, v11, v12, v13, v14, v15, v16, v17, v18, v19, v20, u21, u22, u23, u24, u25, u26, u27, u28, u29, u30, u31, u32, u33, u34, u35, u36, u37, u38, u39, u40, u41, u42, u43, u44, u45, u46, u47, u48, u49, u50, u51], []⟩ ∧ FL B N K w0 (fun j => if j = 7 then true else L j) v3 v4 v5 v6 v7 v8 v9 v10 v11 v12 v13 v14 v15 v16 v17 v18 v19 v20 w) ⟨#[.pointer (some ⟨B, 0, none⟩), u1, u2, v3, v4, v5, v6, v7, v8, v9, v10, v11, v12, v13, v14, v15, v16, v17, v18, v19, v20, u21, u22, u23, u24, u25, u26, u27, u28, u29, u30, u31, u32, u33, u34, u35, u36, u37, u38, u39, u40, u41, u42, u43, u44, u45, u46, u47, u48, u49, u50, u51], []⟩ w := by
  have h18' : 7 < 18 → L 18 = false := fun h => by
    rcases Bool.eq_false_or_eq_true (L 18) with q | q
    · have := hI.f18 q 7 h
      rw [hL] at this
      cases this
    · exact q
  unfold ops2 Tryd.f12
  dsimp only
  refine wpOp_step rfl (fun KK hKK => ?_)
  go_simp
  exact hKK _ _ ⟨_, _, _, _, _, _, _, _, _, _, _, _, _, _, _, _, _, _, rfl, ⟨hI.but, hI.rd, (hI.f0), (hI.f1), (hI.f2), (hI.f3), (hI.f4), (hI.f5), (hI.f6), (fun _ => rfl), (hI.f8), (hI.f9), (hI.f10), (hI.f11), (hI.f12), (hI.f13), (hI.f14), (hI.f15), (hI.f16), (hI.f17), (fun h j hj => by have q := hI.f18 h j hj; show (if _ then _ else _) = true; split <;> first | rfl | exact q), (fun h => absurd (show L 18 = true from h) (by rw [h18' (by omega)]; decide))⟩⟩
set_option maxRecDepth 100000 in
set_option maxHeartbeats 1000000 in
theorem st8 (B N : Nat) (K : Int) (w0 : World) (u1 u2 u21 u22 u23 u24 u25 u26 u27 u28 u29 u30 u31 u32 u33 u34 u35 u36 u37 u38 u39 u40 u41 u42 u43 u44 u45 u46 u47 u48 u49 u50 u51 : Value) (Q : Exit → Act → World → Prop) (hBN : B < N) (hN0 : N = w0.heap.size) (hKb : K ≤ 900000) (L : Nat → Bool) (v3 v4 v5 v6 v7 v8 v9 v10 v11 v12 v13 v14 v15 v16 v17 v18 v19 v20 : Value) (w : World) (hI : FL B N K w0 L v3 v4 v5 v6 v7 v8 v9 v10 v11 v12 v13 v14 v15 v16 v17 v18 v19 v20 w) (hL : L 8 = false) (hd : ∀ j ∈ deps .any ops2 8, L j = true) :
    wpOp Tryd.prog ops2 Q 8 (fun a w => ∃ v3 v4 v5 v6 v7 v8 v9 v10 v11 v12 v13 v14 v15 v16 v17 v18 v19 v20 : Value, a = ⟨#[.pointer (some ⟨B, 0, none⟩), u1, u2, v3, v4, v5, v6, v7, v8, v9, v10, v11, v12, v13, v14, v15, v16, v17, v18, v19, v20, u21, u22, u23, u24, u25, u26, u27, u28, u29, u30, u31, u32, u33, u34, u35, u36, u37, u38, u39, u40, u41, u42, u43, u44, u45, u46, u47, u48, u49, u50, u51], []⟩ ∧ FL B N K w0 (fun j => if j = 8 then true else L j) v3 v4 v5 v6 v7 v8 v9 v10 v11 v12 v13 v14 v15 v16 v17 v18 v19 v20 w) ⟨#[.pointer (some ⟨B, 0, none⟩), u1, u2, v3, v4, v5, v6, v7, v8, v9, v10, v11, v12, v13, v14, v15, v16, v17, v18, v19, v20, u21, u22, u23, u24, u25, u26, u27, u28, u29, u30, u31, u32, u33, u34, u35, u36, u37, u38, u39, u40, u41, u42, u43, u44, u45, u46, u47, u48, u49, u50, u51], []⟩ w := by
  have h18' : 8 < 18 → L 18 = false := fun h => by
    rcases Bool.eq_false_or_eq_true (L 18) with q | q
    · have := hI.f18 q 8 h
      rw [hL] at this
      cases this
    · exact q
  unfold ops2 Tryd.f12
  dsimp only
  refine wpOp_step rfl (fun KK hKK => ?_)
  obtain rfl := hI.f7 (hd 7 (by decide +kernel))
  obtain ⟨k, hr, hk⟩ := hI.rd
  go_simp
  refine (pick_any B k 5 w hr (by have : k ≤ K := (by split at hk <;> split at hk <;> split at hk <;> split at hk <;> omega); omega) (by omega)).mono ?_
  rintro e w1 ⟨⟨z, rfl, z0, z1⟩, hr1, hb1⟩
  exact hKK _ _ ⟨_, _, _, _, _, _, _, _, _, _, _, _, _, _, _, _, _, _, rfl, ⟨hI.but.trans hb1, ⟨k + 1, hr1, by have := hk; simp only [hL, if_true, if_false, Bool.false_eq_true] at this ⊢; simp at this ⊢; omega⟩, (hI.f0), (hI.f1), (hI.f2), (hI.f3), (hI.f4), (hI.f5), (fun h h18 => by obtain ⟨x, e, t⟩ := hI.f6 h h18; exact ⟨x, e, t.but hb1⟩), (hI.f7), (fun _ => ⟨z, rfl, z0, z1⟩), (fun h h18 => by obtain ⟨x, z, e, t, hz⟩ := hI.f9 h h18; exact ⟨x, z, e, t.but hb1, hz⟩), (hI.f10), (fun h h18 => by obtain ⟨x, e, t⟩ := hI.f11 h h18; exact ⟨x, e, t.but hb1⟩), (hI.f12), (hI.f13), (fun h h18 => by obtain ⟨x, z, e, t, hz⟩ := hI.f14 h h18; exact ⟨x, z, e, t.but hb1, hz⟩), (hI.f15), (hI.f16), (fun h => by obtain ⟨y, e, t⟩ := hI.f17 h; exact ⟨y, e, t.but hb1⟩), (fun h j hj => by have q := hI.f18 h j hj; show (if _ then _ else _) = true; split <;> first | rfl | exact q), (fun h => absurd (show L 18 = true from h) (by rw [h18' (by omega)]; decide))⟩⟩
set_option maxRecDepth 100000 in
set_option maxHeartbeats 1000000 in
theorem st9 (B N : Nat) (K : Int) (w0 : World) (u1 u2 u21 u22 u23 u24 u25 u26 u27 u28 u29 u30 u31 u32 u33 u34 u35 u36 u37 u38 u39 u40 u41 u42 u43 u44 u45 u46 u47 u48 u49 u50 u51 : Value) (Q : Exit → Act → World → Prop) (hBN : B < N) (hN0 : N = w0.heap.size) (hKb : K ≤ 900000) (L : Nat → Bool) (v3 v4 v5 v6 v7 v8 v9 v10 v11 v12 v13 v14 v15 v16 v17 v18 v19 v20 : Value) (w : World) (hI : FL B N K w0 L v3 v4 v5 v6 v7 v8 v9 v10 v11 v12 v13 v14 v15 v16 v17 v18 v19 v20 w) (hL : L 9 = false) (hd : ∀ j ∈ deps .any ops2 9, L j = true) :
    wpOp Tryd.prog ops2 Q 9 (fun a w => ∃ v3 v4 v5 v6 v7 v8 v9 v10 v11 v12 v13 v14 v15 v16 v17 v18 v19 v20 : Value, a = ⟨#[.pointer (some ⟨B, 0, none⟩), u1, u2, v3, v4, v5, v6, v7, v8, v9, v10, v11, v12, v13, v14, v15, v16, v17, v18, v19, v20, u21, u22, u23, u24, u25, u26, u27, u28, u29, u30, u31, u32, u33, u34, u35, u36, u37, u38, u39, u40, u41, u42, u43, u44, u45, u46, u47, u48, u49, u50, u51], []⟩ ∧ FL B N K w0 (fun j => if j = 9 then true else L j) v3 v4 v5 v6 v7 v8 v9 v10 v11 v12 v13 v14 v15 v16 v17 v18 v19 v20 w) ⟨#[.pointer (some ⟨B, 0, none⟩), u1, u2, v3, v4, v5, v6, v7, v8, v9, v10, v11, v12, v13, v14, v15, v16, v17, v18, v19, v20, u21, u22, u23, u24, u25, u26, u27, u28, u29, u30, u31, u32, u33, u34, u35, u36, u37, u38, u39, u40, u41, u42, u43, u44, u45, u46, u47, u48, u49, u50, u51], []⟩ w := by
  have h18' : 9 < 18 → L 18 = false := fun h => by
    rcases Bool.eq_false_or_eq_true (L 18) with q | q
    · have := hI.f18 q 9 h
      rw [hL] at this
      cases this
    · exact q
  unfold ops2 Tryd.f12
  dsimp only
  refine wpOp_step rfl (fun KK hKK => ?_)
  have h18 : L 18 = false := h18' (by omega)
  obtain ⟨x, rfl, t⟩ := hI.f6 (hd 6 (by decide +kernel)) h18
  obtain ⟨z, rfl, z0, z1⟩ := hI.f8 (hd 8 (by decide +kernel))
  go_simp
  exact hKK _ _ ⟨_, _, _, _, _, _, _, _, _, _, _, _, _, _, _, _, _, _, rfl, ⟨hI.but, hI.rd, (hI.f0), (hI.f1), (hI.f2), (hI.f3), (hI.f4), (hI.f5), (hI.f6), (hI.f7), (hI.f8), (fun _ => fun _ => ⟨x, z.toNat, rfl, t, by omega⟩), (hI.f10), (hI.f11), (hI.f12), (hI.f13), (hI.f14), (hI.f15), (hI.f16), (hI.f17), (fun h j hj => by have q := hI.f18 h j hj; show (if _ then _ else _) = true; split <;> first | rfl | exact q), (fun h => absurd (show L 18 = true from h) (by rw [h18' (by omega)]; decide))⟩⟩
set_option maxRecDepth 100000 in
set_option maxHeartbeats 1000000 in
theorem st10 (B N : Nat) (K : Int) (w0 : World) (u1 u2 u21 u22 u23 u24 u25 u26 u27 u28 u29 u30 u31 u32 u33 u34 u35 u36 u37 u38 u39 u40 u41 u42 u43 u44 u45 u46 u47 u48 u49 u50 u51 : Value) (Q : Exit → Act → World → Prop) (hBN : B < N) (hN0 : N = w0.heap.size) (hKb : K ≤ 900000) (L : Nat → Bool) (v3 v4 v5 v6 v7 v8 v9 v10 v11 v12 v13 v14 v15 v16 v17 v18 v19 v20 : Value) (w : World) (hI : FL B N K w0 L v3 v4 v5 v6 v7 v8 v9 v10 v11 v12 v13 v14 v15 v16 v17 v18 v19 v20 w) (hL : L 10 = false) (hd : ∀ j ∈ deps .any ops2 10, L j = true) :
    wpOp Tryd.prog ops2 Q 10 (fun a w => ∃ v3 v4 v5 v6 v7 v8 v9 v10 v11 v12 v13 v14 v15 v16 v17 v18 v19 v20 : Value, a = ⟨#[.pointer (some ⟨B, 0, none⟩), u1, u2, v3, v4, v5, v6, v7, v8, v9, v10, v11, v12, v13, v14, v15, v16, v17, v18, v19, v20, u21, u22, u23, u24, u25, u26, u27, u28, u29, u30, u31, u32, u33, u34, u35, u36, u37, u38, u39, u40, u41, u42, u43, u44, u45, u46, u47, u48, u49, u50, u51], []⟩ ∧ FL B N K w0 (fun j => if j = 10 then true else L j) v3 v4 v5 v6 v7 v8 v9 v10 v11 v12 v13 v14 v15 v16 v17 v18 v19 v20 w) ⟨#[.pointer (some ⟨B, 0, none⟩), u1, u2, v3, v4, v5, v6, v7, v8, v9, v10, v11, v12, v13, v14, v15, v16, v17, v18, v19, v20, u21, u22, u23, u24, u25, u26, u27, u28, u29, u30, u31, u32, u33, u34, u35, u36, u37, u38, u39, u40, u41, u42, u43, u44, u45, u46, u47, u48, u49, u50, u51], []⟩ w := by
  have h18' : 10 < 18 → L 18 = false := fun h => by
    rcases Bool.eq_false_or_eq_true (L 18) with q | q
    · have := hI.f18 q 10 h
      rw [hL] at this
      cases this
    · exact q
  unfold ops2 Tryd.f12
  dsimp only
  refine wpOp_step rfl (fun KK hKK => ?_)
  have h18 : L 18 = false := h18' (by omega)
  obtain ⟨x, z, rfl, t, hz⟩ := hI.f9 (hd 9 (by decide +kernel)) h18
  obtain ⟨V, hV, hl⟩ := t.cells z hz
  go_simp
  exact hKK _ _ ⟨_, _, _, _, _, _, _, _, _, _, _, _, _, _, _, _, _, _, rfl, ⟨hI.but, hI.rd, (hI.f0), (hI.f1), (hI.f2), (hI.f3), (hI.f4), (hI.f5), (hI.f6), (hI.f7), (hI.f8), (hI.f9), (fun _ => ⟨V, rfl, hl.1, hl.2⟩), (hI.f11), (hI.f12), (hI.f13), (hI.f14), (hI.f15), (hI.f16), (hI.f17), (fun h j hj => by have q := hI.f18 h j hj; show (if _ then _ else _) = true; split <;> first | rfl | exact q), (fun h => absurd (show L 18 = true from h) (by rw [h18' (by omega)]; decide))⟩⟩
set_option maxRecDepth 100000 in
set_option maxHeartbeats 1000000 in
theorem st11 (B N : Nat) (K : Int) (w0 : World) (u1 u2 u21 u22 u23 u24 u25 u26 u27 u28 u29 u30 u31 u32 u33 u34 u35 u36 u37 u38 u39 u40 u41 u42 u43 u44 u45 u46 u47 u48 u49 u50 u51 : Value) (Q : Exit → Act → World → Prop) (hBN : B < N) (hN0 : N = w0.heap.size) (hKb : K ≤ 900000) (L : Nat → Bool) (v3 v4 v5 v6 v7 v8 v9 v10 v11 v12 v13 v14 v15 v16 v17 v18 v19 v20 : Value) (w : World) (hI : FL B N K w0 L v3 v4 v5 v6 v7 v8 v9 v10 v11 v12 v13 v14 v15 v16 v17 v18 v19 v20 w) (hL : L 11 = false) (hd : ∀ j ∈ deps .any ops2 11, L j = true) :
    wpOp Tryd.prog ops2 Q 11 (fun a w => ∃ v3 v4 v5 v6 v7 v8 v9 v10 v11 v12 v13 v14 v15 v16 v17 v18 v19 v20 : Value, a = ⟨#[.pointer (some ⟨B, 0, none⟩), u1, u2, v3, v4, v5, v6, v7, v8, v9, v10, v11, v12, v13, v14, v15, v16, v17, v18, v19, v20, u21, u22, u23, u24, u25, u26, u27, u28, u29, u30, u31, u32, u33, u34, u35, u36, u37, u38, u39, u40, u41, u42, u43, u44, u45, u46, u47, u48, u49, u50, u51], []⟩ ∧ FL B N K w0 (fun j => if j = 11 then true else L j) v3 v4 v5 v6 v7 v8 v9 v10 v11 v12 v13 v14 v15 v16 v17 v18 v19 v20 w) ⟨#[.pointer (some ⟨B, 0, none⟩), u1, u2, v3, v4, v5, v6, v7, v8, v9, v10, v11, v12, v13, v14, v15, v16, v17, v18, v19, v20, u21, u22, u23, u24, u25, u26, u27, u28, u29, u30, u31, u32, u33, u34, u35, u36, u37, u38, u39, u40, u41, u42, u43, u44, u45, u46, u47, u48, u49, u50, u51], []⟩ w := by
  have h18' : 11 < 18 → L 18 = false := fun h => by
    rcases Bool.eq_false_or_eq_true (L 18) with q | q
    · have := hI.f18 q 11 h
      rw [hL] at this
      cases this
    · exact q
  unfold ops2 Tryd.f12
  dsimp only
  refine wpOp_step rfl (fun KK hKK => ?_)
  obtain ⟨k, hr, hk⟩ := hI.rd
  have hB := hr.lt
  go_simp
  have hb1 : ∀ o : Obj, But B w (w.alloc o) := fun o => (But.refl B w).alloc o
  exact hKK _ _ ⟨_, _, _, _, _, _, _, _, _, _, _, _, _, _, _, _, _, _, rfl, ⟨hI.but.alloc _, ⟨k, hr.made _, hk⟩, (hI.f0), (hI.f1), (hI.f2), (hI.f3), (hI.f4), (hI.f5), (fun h h18 => by obtain ⟨x, e, t⟩ := hI.f6 h h18; exact ⟨x, e, t.but (hb1 _)⟩), (hI.f7), (hI.f8), (fun h h18 => by obtain ⟨x, z, e, t, hz⟩ := hI.f9 h h18; exact ⟨x, z, e, t.but (hb1 _), hz⟩), (hI.f10), (fun _ => fun _ => ⟨_, rfl, Tb.new 0 w _ 0 1 2 256 1000 hB (by decide)⟩), (hI.f12), (hI.f13), (fun h h18 => by obtain ⟨x, z, e, t, hz⟩ := hI.f14 h h18; exact ⟨x, z, e, t.but (hb1 _), hz⟩), (hI.f15), (hI.f16), (fun h => by obtain ⟨y, e, t⟩ := hI.f17 h; exact ⟨y, e, t.but (hb1 _)⟩), (fun h j hj => by have q := hI.f18 h j hj; show (if _ then _ else _) = true; split <;> first | rfl | exact q), (fun h => absurd (show L 18 = true from h) (by rw [h18' (by omega)]; decide))⟩⟩
set_option maxRecDepth 100000 in
set_option maxHeartbeats 1000000 in
theorem st12 (B N : Nat) (K : Int) (w0 : World) (u1 u2 u21 u22 u23 u24 u25 u26 u27 u28 u29 u30 u31 u32 u33 u34 u35 u36 u37 u38 u39 u40 u41 u42 u43 u44 u45 u46 u47 u48 u49 u50 u51 : Value) (Q : Exit → Act → World → Prop) (hBN : B < N) (hN0 : N = w0.heap.size) (hKb : K ≤ 900000) (L : Nat → Bool) (v3 v4 v5 v6 v7 v8 v9 v10 v11 v12 v13 v14 v15 v16 v17 v18 v19 v20 : Value) (w : World) (hI : FL B N K w0 L v3 v4 v5 v6 v7 v8 v9 v10 v11 v12 v13 v14 v15 v16 v17 v18 v19 v20 w) (hL : L 12 = false) (hd : ∀ j ∈ deps .any ops2 12, L j = true) :
    wpOp Tryd.prog ops2 Q 12 (fun a w => ∃ v3 v4 v5 v6 v7 v8 v9 v10 v11 v12 v13 v14 v15 v16 v17 v18 v19 v20 : Value, a = ⟨#[.pointer (some ⟨B, 0, none⟩), u1, u2, v3, v4, v5, v6, v7, v8, v9, v10, v11, v12, v13, v14, v15, v16, v17, v18, v19, v20, u21, u22, u23, u24, u25, u26, u27, u28, u29, u30, u31, u32, u33, u34, u35, u36, u37, u38, u39, u40, u41, u42, u43, u44, u45, u46, u47, u48, u49, u50, u51], []⟩ ∧ FL B N K w0 (fun j => if j = 12 then true else L j) v3 v4 v5 v6 v7 v8 v9 v10 v11 v12 v13 v14 v15 v16 v17 v18 v19 v20 w) ⟨#[.pointer (some ⟨B, 0, none⟩), u1, u2, v3, v4, v5, v6, v7, v8, v9, v10, v11, v12, v13, v14, v15, v16, v17, v18, v19, v20, u21, u22, u23, u24, u25, u26, u27, u28, u29, u30, u31, u32, u33, u34, u35, u36, u37, u38, u39, u40, u41, u42, u43, u44, u45, u46, u47, u48, u49, u50, u51], []⟩ w := by
  have h18' : 12 < 18 → L 18 = false := fun h => by
    rcases Bool.eq_false_or_eq_true (L 18) with q | q
    · have := hI.f18 q 12 h
      rw [hL] at this
      cases this
    · exact q
  unfold ops2 Tryd.f12
  dsimp only
  refine wpOp_step rfl (fun KK hKK => ?_)
  go_simp
  exact hKK _ _ ⟨_, _, _, _, _, _, _, _, _, _, _, _, _, _, _, _, _, _, rfl, ⟨hI.but, hI.rd, (hI.f0), (hI.f1), (hI.f2), (hI.f3), (hI.f4), (hI.f5), (hI.f6), (hI.f7), (hI.f8), (hI.f9), (hI.f10), (hI.f11), (fun _ => rfl), (hI.f13), (hI.f14), (hI.f15), (hI.f16), (hI.f17), (fun h j hj => by have q := hI.f18 h j hj; show (if _ then _ else _) = true; split <;> first | rfl | exact q), (fun h => absurd (show L 18 = true from h) (by rw [h18' (by omega)]; decide))⟩⟩
set_option maxRecDepth 100000 in
set_option maxHeartbeats 1000000 in
theorem st13 (B N : Nat) (K : Int) (w0 : World) (u1 u2 u21 u22 u23 u24 u25 u26 u27 u28 u29 u30 u31 u32 u33 u34 u35 u36 u37 u38 u39 u40 u41 u42 u43 u44 u45 u46 u47 u48 u49 u50 u51 : Value) (Q : Exit → Act → World → Prop) (hBN : B < N) (hN0 : N = w0.heap.size) (hKb : K ≤ 900000) (L : Nat → Bool) (v3 v4 v5 v6 v7 v8 v9 v10 v11 v12 v13 v14 v15 v16 v17 v18 v19 v20 : Value) (w : World) (hI : FL B N K w0 L v3 v4 v5 v6 v7 v8 v9 v10 v11 v12 v13 v14 v15 v16 v17 v18 v19 v20 w) (hL : L 13 = false) (hd : ∀ j ∈ deps .any ops2 13, L j = true) :
    wpOp Tryd.prog ops2 Q 13 (fun a w => ∃ v3 v4 v5 v6 v7 v8 v9 v10 v11 v12 v13 v14 v15 v16 v17 v18 v19 v20 : Value, a = ⟨#[.pointer (some ⟨B, 0, none⟩), u1, u2, v3, v4, v5, v6, v7, v8, v9, v10, v11, v12, v13, v14, v15, v16, v17, v18, v19, v20, u21, u22, u23, u24, u25, u26, u27, u28, u29, u30, u31, u32, u33, u34, u35, u36, u37, u38, u39, u40, u41, u42, u43, u44, u45, u46, u47, u48, u49, u50, u51], []⟩ ∧ FL B N K w0 (fun j => if j = 13 then true else L j) v3 v4 v5 v6 v7 v8 v9 v10 v11 v12 v13 v14 v15 v16 v17 v18 v19 v20 w) ⟨#[.pointer (some ⟨B, 0, none⟩), u1, u2, v3, v4, v5, v6, v7, v8, v9, v10, v11, v12, v13, v14, v15, v16, v17, v18, v19, v20, u21, u22, u23, u24, u25, u26, u27, u28, u29, u30, u31, u32, u33, u34, u35, u36, u37, u38, u39, u40, u41, u42, u43, u44, u45, u46, u47, u48, u49, u50, u51], []⟩ w := by
  have h18' : 13 < 18 → L 18 = false := fun h => by
    rcases Bool.eq_false_or_eq_true (L 18) with q | q
    · have := hI.f18 q 13 h
      rw [hL] at this
      cases this
    · exact q
  unfold ops2 Tryd.f12
  dsimp only
  refine wpOp_step rfl (fun KK hKK => ?_)
  obtain rfl := hI.f12 (hd 12 (by decide +kernel))
  obtain ⟨k, hr, hk⟩ := hI.rd
  go_simp
  refine (pick_any B k 5 w hr (by have : k ≤ K := (by split at hk <;> split at hk <;> split at hk <;> split at hk <;> omega); omega) (by omega)).mono ?_
  rintro e w1 ⟨⟨z, rfl, z0, z1⟩, hr1, hb1⟩
  exact hKK _ _ ⟨_, _, _, _, _, _, _, _, _, _, _, _, _, _, _, _, _, _, rfl, ⟨hI.but.trans hb1, ⟨k + 1, hr1, by have := hk; simp only [hL, if_true, if_false, Bool.false_eq_true] at this ⊢; simp at this ⊢; omega⟩, (hI.f0), (hI.f1), (hI.f2), (hI.f3), (hI.f4), (hI.f5), (fun h h18 => by obtain ⟨x, e, t⟩ := hI.f6 h h18; exact ⟨x, e, t.but hb1⟩), (hI.f7), (hI.f8), (fun h h18 => by obtain ⟨x, z, e, t, hz⟩ := hI.f9 h h18; exact ⟨x, z, e, t.but hb1, hz⟩), (hI.f10), (fun h h18 => by obtain ⟨x, e, t⟩ := hI.f11 h h18; exact ⟨x, e, t.but hb1⟩), (hI.f12), (fun _ => ⟨z, rfl, z0, z1⟩), (fun h h18 => by obtain ⟨x, z, e, t, hz⟩ := hI.f14 h h18; exact ⟨x, z, e, t.but hb1, hz⟩), (hI.f15), (hI.f16), (fun h => by obtain ⟨y, e, t⟩ := hI.f17 h; exact ⟨y, e, t.but hb1⟩), (fun h j hj => by have q := hI.f18 h j hj; show (if _ then _ else _) = true; split <;> first | rfl | exact q), (fun h => absurd (show L 18 = true from h) (by rw [h18' (by omega)]; decide))⟩⟩
set_option maxRecDepth 100000 in
set_option maxHeartbeats 1000000 in
theorem st14 (B N : Nat) (K : Int) (w0 : World) (u1 u2 u21 u22 u23 u24 u25 u26 u27 u28 u29 u30 u31 u32 u33 u34 u35 u36 u37 u38 u39 u40 u41 u42 u43 u44 u45 u46 u47 u48 u49 u50 u51 : Value) (Q : Exit → Act → World → Prop) (hBN : B < N) (hN0 : N = w0.heap.size) (hKb : K ≤ 900000) (L : Nat → Bool) (v3 v4 v5 v6 v7 v8 v9 v10 v11 v12 v13 v14 v15 v16 v17 v18 v19 v20 : Value) (w : World) (hI : FL B N K w0 L v3 v4 v5 v6 v7 v8 v9 v10 v11 v12 v13 v14 v15 v16 v17 v18 v19 v20 w) (hL : L 14 = false) (hd : ∀ j ∈ deps .any ops2 14, L j = true) :
    wpOp Tryd.prog ops2 Q 14 (fun a w => ∃ v3 v4 v5 v6 v7 v8 v9 v10 v11 v12 v13 v14 v15 v16 v17 v18 v19 v20 : Value, a = ⟨#[.pointer (some ⟨B, 0, none⟩), u1, u2, v3, v4, v5, v6, v7, v8, v9, v10, v11, v12, v13, v14, v15, v16, v17, v18, v19, v20, u21, u22, u23, u24, u25, u26, u27, u28, u29, u30, u31, u32, u33, u34, u35, u36, u37, u38, u39, u40, u41, u42, u43, u44, u45, u46, u47, u48, u49, u50, u51], []⟩ ∧ FL B N K w0 (fun j => if j = 14 then true else L j) v3 v4 v5 v6 v7 v8 v9 v10 v11 v12 v13 v14 v15 v16 v17 v18 v19 v20 w) ⟨#[.pointer (some ⟨B, 0, none⟩), u1, u2, v3, v4, v5, v6, v7, v8, v9, v10, v11, v12, v13, v14, v15, v16, v17, v18, v19, v20, u21, u22, u23, u24, u25, u26, u27, u28, u29, u30, u31, u32, u33, u34, u35, u36, u37, u38, u39, u40, u41, u42, u43, u44, u45, u46, u47, u48, u49, u50, u51], []⟩ w := by
  have h18' : 14 < 18 → L 18 = false := fun h => by
    rcases Bool.eq_false_or_eq_true (L 18) with q | q
    · have := hI.f18 q 14 h
      rw [hL] at this
      cases this
    · exact q
  unfold ops2 Tryd.f12
  dsimp only
  refine wpOp_step rfl (fun KK hKK => ?_)
  have h18 : L 18 = false := h18' (by omega)
  obtain ⟨x, rfl, t⟩ := hI.f11 (hd 11 (by decide +kernel)) h18
  obtain ⟨z, rfl, z0, z1⟩ := hI.f13 (hd 13 (by decide +kernel))
  go_simp
  exact hKK _ _ ⟨_, _, _, _, _, _, _, _, _, _, _, _, _, _, _, _, _, _, rfl, ⟨hI.but, hI.rd, (hI.f0), (hI.f1), (hI.f2), (hI.f3), (hI.f4), (hI.f5), (hI.f6), (hI.f7), (hI.f8), (hI.f9), (hI.f10), (hI.f11), (hI.f12), (hI.f13), (fun _ => fun _ => ⟨x, z.toNat, rfl, t, by omega⟩), (hI.f15), (hI.f16), (hI.f17), (fun h j hj => by have q := hI.f18 h j hj; show (if _ then _ else _) = true; split <;> first | rfl | exact q), (fun h => absurd (show L 18 = true from h) (by rw [h18' (by omega)]; decide))⟩⟩
set_option maxRecDepth 100000 in
set_option maxHeartbeats 1000000 in
theorem st15 (B N : Nat) (K : Int) (w0 : World) (u1 u2 u21 u22 u23 u24 u25 u26 u27 u28 u29 u30 u31 u32 u33 u34 u35 u36 u37 u38 u39 u40 u41 u42 u43 u44 u45 u46 u47 u48 u49 u50 u51 : Value) (Q : Exit → Act → World → Prop) (hBN : B < N) (hN0 : N = w0.heap.size) (hKb : K ≤ 900000) (L : Nat → Bool) (v3 v4 v5 v6 v7 v8 v9 v10 v11 v12 v13 v14 v15 v16 v17 v18 v19 v20 : Value) (w : World) (hI : FL B N K w0 L v3 v4 v5 v6 v7 v8 v9 v10 v11 v12 v13 v14 v15 v16 v17 v18 v19 v20 w) (hL : L 15 = false) (hd : ∀ j ∈ deps .any ops2 15, L j = true) :
    wpOp Tryd.prog ops2 Q 15 (fun a w => ∃ v3 v4 v5 v6 v7 v8 v9 v10 v11 v12 v13 v14 v15 v16 v17 v18 v19 v20 : Value, a = ⟨#[.pointer (some ⟨B, 0, none⟩), u1, u2, v3, v4, v5, v6, v7, v8, v9, v10, v11, v12, v13, v14, v15, v16, v17, v18, v19, v20, u21, u22, u23, u24, u25, u26, u27, u28, u29, u30, u31, u32, u33, u34, u35, u36, u37, u38, u39, u40, u41, u42, u43, u44, u45, u46, u47, u48, u49, u50, u51], []⟩ ∧ FL B N K w0 (fun j => if j = 15 then true else L j) v3 v4 v5 v6 v7 v8 v9 v10 v11 v12 v13 v14 v15 v16 v17 v18 v19 v20 w) ⟨#[.pointer (some ⟨B, 0, none⟩), u1, u2, v3, v4, v5, v6, v7, v8, v9, v10, v11, v12, v13, v14, v15, v16, v17, v18, v19, v20, u21, u22, u23, u24, u25, u26, u27, u28, u29, u30, u31, u32, u33, u34, u35, u36, u37, u38, u39, u40, u41, u42, u43, u44, u45, u46, u47, u48, u49, u50, u51], []⟩ w := by
  have h18' : 15 < 18 → L 18 = false := fun h => by
    rcases Bool.eq_false_or_eq_true (L 18) with q | q
    · have := hI.f18 q 15 h
      rw [hL] at this
      cases this
    · exact q
  unfold ops2 Tryd.f12
  dsimp only
  refine wpOp_step rfl (fun KK hKK => ?_)
  have h18 : L 18 = false := h18' (by omega)
  obtain ⟨x, z, rfl, t, hz⟩ := hI.f14 (hd 14 (by decide +kernel)) h18
  obtain ⟨V, hV, hl⟩ := t.cells z hz
  go_simp
  exact hKK _ _ ⟨_, _, _, _, _, _, _, _, _, _, _, _, _, _, _, _, _, _, rfl, ⟨hI.but, hI.rd, (hI.f0), (hI.f1), (hI.f2), (hI.f3), (hI.f4), (hI.f5), (hI.f6), (hI.f7), (hI.f8), (hI.f9), (hI.f10), (hI.f11), (hI.f12), (hI.f13), (hI.f14), (fun _ => ⟨V, rfl, hl.1, hl.2⟩), (hI.f16), (hI.f17), (fun h j hj => by have q := hI.f18 h j hj; show (if _ then _ else _) = true; split <;> first | rfl | exact q), (fun h => absurd (show L 18 = true from h) (by rw [h18' (by omega)]; decide))⟩⟩
set_option maxRecDepth 100000 in
set_option maxHeartbeats 1000000 in
theorem st16 (B N : Nat) (K : Int) (w0 : World) (u1 u2 u21 u22 u23 u24 u25 u26 u27 u28 u29 u30 u31 u32 u33 u34 u35 u36 u37 u38 u39 u40 u41 u42 u43 u44 u45 u46 u47 u48 u49 u50 u51 : Value) (Q : Exit → Act → World → Prop) (hBN : B < N) (hN0 : N = w0.heap.size) (hKb : K ≤ 900000) (L : Nat → Bool) (v3 v4 v5 v6 v7 v8 v9 v10 v11 v12 v13 v14 v15 v16 v17 v18 v19 v20 : Value) (w : World) (hI : FL B N K w0 L v3 v4 v5 v6 v7 v8 v9 v10 v11 v12 v13 v14 v15 v16 v17 v18 v19 v20 w) (hL : L 16 = false) (hd : ∀ j ∈ deps .any ops2 16, L j = true) :
    wpOp Tryd.prog ops2 Q 16 (fun a w => ∃ v3 v4 v5 v6 v7 v8 v9 v10 v11 v12 v13 v14 v15 v16 v17 v18 v19 v20 : Value, a = ⟨#[.pointer (some ⟨B, 0, none⟩), u1, u2, v3, v4, v5, v6, v7, v8, v9, v10, v11, v12, v13, v14, v15, v16, v17, v18, v19, v20, u21, u22, u23, u24, u25, u26, u27, u28, u29, u30, u31, u32, u33, u34, u35, u36, u37, u38, u39, u40, u41, u42, u43, u44, u45, u46, u47, u48, u49, u50, u51], []⟩ ∧ FL B N K w0 (fun j => if j = 16 then true else L j) v3 v4 v5 v6 v7 v8 v9 v10 v11 v12 v13 v14 v15 v16 v17 v18 v19 v20 w) ⟨#[.pointer (some ⟨B, 0, none⟩), u1, u2, v3, v4, v5, v6, v7, v8, v9, v10, v11, v12, v13, v14, v15, v16, v17, v18, v19, v20, u21, u22, u23, u24, u25, u26, u27, u28, u29, u30, u31, u32, u33, u34, u35, u36, u37, u38, u39, u40, u41, u42, u43, u44, u45, u46, u47, u48, u49, u50, u51], []⟩ w := by
  have h18' : 16 < 18 → L 18 = false := fun h => by
    rcases Bool.eq_false_or_eq_true (L 18) with q | q
    · have := hI.f18 q 16 h
      rw [hL] at this
      cases this
    · exact q
  unfold ops2 Tryd.f12
  dsimp only
  refine wpOp_step rfl (fun KK hKK => ?_)
  obtain ⟨z0, rfl, l0, m0⟩ := hI.f2 (hd 2 (by decide +kernel))
  obtain ⟨z1, rfl, l1, m1⟩ := hI.f5 (hd 5 (by decide +kernel))
  obtain ⟨z2, rfl, l2, m2⟩ := hI.f10 (hd 10 (by decide +kernel))
  obtain ⟨z3, rfl, l3, m3⟩ := hI.f15 (hd 15 (by decide +kernel))
  go_simp
  exact hKK _ _ ⟨_, _, _, _, _, _, _, _, _, _, _, _, _, _, _, _, _, _, rfl, ⟨hI.but, hI.rd, (hI.f0), (hI.f1), (hI.f2), (hI.f3), (hI.f4), (hI.f5), (hI.f6), (hI.f7), (hI.f8), (hI.f9), (hI.f10), (hI.f11), (hI.f12), (hI.f13), (hI.f14), (hI.f15), (fun _ => ⟨z0, z1, z2, z3, rfl, ⟨l0, m0⟩, ⟨l1, m1⟩, ⟨l2, m2⟩, l3, m3⟩), (hI.f17), (fun h j hj => by have q := hI.f18 h j hj; show (if _ then _ else _) = true; split <;> first | rfl | exact q), (fun h => absurd (show L 18 = true from h) (by rw [h18' (by omega)]; decide))⟩⟩
set_option maxRecDepth 100000 in
set_option maxHeartbeats 1000000 in
theorem st17 (B N : Nat) (K : Int) (w0 : World) (u1 u2 u21 u22 u23 u24 u25 u26 u27 u28 u29 u30 u31 u32 u33 u34 u35 u36 u37 u38 u39 u40 u41 u42 u43 u44 u45 u46 u47 u48 u49 u50 u51 : Value) (Q : Exit → Act → World → Prop) (hBN : B < N) (hN0 : N = w0.heap.size) (hKb : K ≤ 900000) (L : Nat → Bool) (v3 v4 v5 v6 v7 v8 v9 v10 v11 v12 v13 v14 v15 v16 v17 v18 v19 v20 : Value) (w : World) (hI : FL B N K w0 L v3 v4 v5 v6 v7 v8 v9 v10 v11 v12 v13 v14 v15 v16 v17 v18 v19 v20 w) (hL : L 17 = false) (hd : ∀ j ∈ deps .any ops2 17, L j = true) :
    wpOp Tryd.prog ops2 Q 17 (fun a w => ∃ v3 v4 v5 v6 v7 v8 v9 v10 v11 v12 v13 v14 v15 v16 v17 v18 v19 v20 : Value, a = ⟨#[.pointer (some ⟨B, 0, none⟩), u1, u2, v3, v4, v5, v6, v7, v8, v9, v10, v11, v12, v13, v14, v15, v16, v17, v18, v19, v20, u21, u22, u23, u24, u25, u26, u27, u28, u29, u30, u31, u32, u33, u34, u35, u36, u37, u38, u39, u40, u41, u42, u43, u44, u45, u46, u47, u48, u49, u50, u51], []⟩ ∧ FL B N K w0 (fun j => if j = 17 then true else L j) v3 v4 v5 v6 v7 v8 v9 v10 v11 v12 v13 v14 v15 v16 v17 v18 v19 v20 w) ⟨#[.pointer (some ⟨B, 0, none⟩), u1, u2, v3, v4, v5, v6, v7, v8, v9, v10, v11, v12, v13, v14, v15, v16, v17, v18, v19, v20, u21, u22, u23, u24, u25, u26, u27, u28, u29, u30, u31, u32, u33, u34, u35, u36, u37, u38, u39, u40, u41, u42, u43, u44, u45, u46, u47, u48, u49, u50, u51], []⟩ w := by
  have h18' : 17 < 18 → L 18 = false := fun h => by
    rcases Bool.eq_false_or_eq_true (L 18) with q | q
    · have := hI.f18 q 17 h
      rw [hL] at this
      cases this
    · exact q
  unfold ops2 Tryd.f12
  dsimp only
  refine wpOp_step rfl (fun KK hKK => ?_)
  obtain ⟨k, hr, hk⟩ := hI.rd
  have hB := hr.lt
  have hN := hI.but.size
  go_simp
  have hb1 : ∀ o : Obj, But B w (w.alloc o) := fun o => (But.refl B w).alloc o
  exact hKK _ _ ⟨_, _, _, _, _, _, _, _, _, _, _, _, _, _, _, _, _, _, rfl, ⟨hI.but.alloc _, ⟨k, hr.made _, hk⟩, (hI.f0), (hI.f1), (hI.f2), (hI.f3), (hI.f4), (hI.f5), (fun h h18 => by obtain ⟨x, e, t⟩ := hI.f6 h h18; exact ⟨x, e, t.but (hb1 _)⟩), (hI.f7), (hI.f8), (fun h h18 => by obtain ⟨x, z, e, t, hz⟩ := hI.f9 h h18; exact ⟨x, z, e, t.but (hb1 _), hz⟩), (hI.f10), (fun h h18 => by obtain ⟨x, e, t⟩ := hI.f11 h h18; exact ⟨x, e, t.but (hb1 _)⟩), (hI.f12), (hI.f13), (fun h h18 => by obtain ⟨x, z, e, t, hz⟩ := hI.f14 h h18; exact ⟨x, z, e, t.but (hb1 _), hz⟩), (hI.f15), (hI.f16), (fun _ => ⟨_, rfl, by omega, by omega, 0, 0, 0, 0, 0, 0, 0, false, ⟨#[]⟩, Bk.new w _ _, by decide⟩), (fun h j hj => by have q := hI.f18 h j hj; show (if _ then _ else _) = true; split <;> first | rfl | exact q), (fun h => absurd (show L 18 = true from h) (by rw [h18' (by omega)]; decide))⟩⟩
set_option maxRecDepth 100000 in
set_option maxHeartbeats 1000000 in
theorem st18 (B N : Nat) (K : Int) (w0 : World) (u1 u2 u21 u22 u23 u24 u25 u26 u27 u28 u29 u30 u31 u32 u33 u34 u35 u36 u37 u38 u39 u40 u41 u42 u43 u44 u45 u46 u47 u48 u49 u50 u51 : Value) (Q : Exit → Act → World → Prop) (hBN : B < N) (hN0 : N = w0.heap.size) (hKb : K ≤ 900000) (L : Nat → Bool) (v3 v4 v5 v6 v7 v8 v9 v10 v11 v12 v13 v14 v15 v16 v17 v18 v19 v20 : Value) (w : World) (hI : FL B N K w0 L v3 v4 v5 v6 v7 v8 v9 v10 v11 v12 v13 v14 v15 v16 v17 v18 v19 v20 w) (hL : L 18 = false) (hd : ∀ j ∈ deps .any ops2 18, L j = true) :
    wpOp Tryd.prog ops2 Q 18 (fun a w => ∃ v3 v4 v5 v6 v7 v8 v9 v10 v11 v12 v13 v14 v15 v16 v17 v18 v19 v20 : Value, a = ⟨#[.pointer (some ⟨B, 0, none⟩), u1, u2, v3, v4, v5, v6, v7, v8, v9, v10, v11, v12, v13, v14, v15, v16, v17, v18, v19, v20, u21, u22, u23, u24, u25, u26, u27, u28, u29, u30, u31, u32, u33, u34, u35, u36, u37, u38, u39, u40, u41, u42, u43, u44, u45, u46, u47, u48, u49, u50, u51], []⟩ ∧ FL B N K w0 (fun j => if j = 18 then true else L j) v3 v4 v5 v6 v7 v8 v9 v10 v11 v12 v13 v14 v15 v16 v17 v18 v19 v20 w) ⟨#[.pointer (some ⟨B, 0, none⟩), u1, u2, v3, v4, v5, v6, v7, v8, v9, v10, v11, v12, v13, v14, v15, v16, v17, v18, v19, v20, u21, u22, u23, u24, u25, u26, u27, u28, u29, u30, u31, u32, u33, u34, u35, u36, u37, u38, u39, u40, u41, u42, u43, u44, u45, u46, u47, u48, u49, u50, u51], []⟩ w := by
  have h18' : 18 < 18 → L 18 = false := fun h => by
    rcases Bool.eq_false_or_eq_true (L 18) with q | q
    · have := hI.f18 q 18 h
      rw [hL] at this
      cases this
    · exact q
  unfold ops2 Tryd.f12
  dsimp only
  refine wpOp_step rfl (fun KK hKK => ?_)
  have hd18 : ∀ j, j < 18 → L j = true := fun j hj => hd j (by rcases (by omega : j = 0 ∨ j = 1 ∨ j = 2 ∨ j = 3 ∨ j = 4 ∨ j = 5 ∨ j = 6 ∨ j = 7 ∨ j = 8 ∨ j = 9 ∨ j = 10 ∨ j = 11 ∨ j = 12 ∨ j = 13 ∨ j = 14 ∨ j = 15 ∨ j = 16 ∨ j = 17) with rfl | rfl | rfl | rfl | rfl | rfl | rfl | rfl | rfl | rfl | rfl | rfl | rfl | rfl | rfl | rfl | rfl | rfl <;> decide +kernel)
  obtain ⟨k, hr, hk⟩ := hI.rd
  obtain ⟨y, rfl, hne, hge, a0, a1, a2, a3, a4, a5, a6, a7, a8, h1, h8⟩ := hI.f17 (hd 17 (by decide +kernel))
  obtain ⟨z0, z1, z2, z3, rfl, hbd⟩ := hI.f16 (hd 16 (by decide +kernel))
  have hBy : B < y := Nat.lt_of_lt_of_le hBN hge
  have y0 := h1.cell 0
  have y1 := h1.cell 1
  have y2 := h1.cell 2
  have y3 := h1.cell 3
  have y4 := h1.cell 4
  have y5 := h1.cell 5
  have y6 := h1.cell 6
  have y7 := h1.cell 7
  have y8 := h1.cell 8
  simp at y0 y1 y2 y3 y4 y5 y6 y7 y8
  have f0 := h1.frozen 0
  have f1 := h1.frozen 1
  have f2 := h1.frozen 2
  have f3 := h1.frozen 3
  have f4 := h1.frozen 4
  have f5 := h1.frozen 5
  have f6 := h1.frozen 6
  have f7 := h1.frozen 7
  have f8 := h1.frozen 8
  have h2 := (((((((((h1.put 0 (.int .i64 z0)).put 1 (.int .i64 z1)).put 2 (.int .i64 z2)).put 3 (.int .i64 z3)).put 4 (.int .i64 0)).put 5 (.int .i64 0)).put 6 (.int .i64 0)).put 7 (.bool false)).put 8 (.string ⟨#[]⟩))
  simp only [List.setIfInBounds_toArray, List.set_cons_zero, List.set_cons_succ] at h2
  have hb := (((((((((hI.but.setCell (p := ⟨y, 0, none⟩) (.inr (hN0 ▸ hge)) (.int .i64 z0)).setCell (p := ⟨y, 1, none⟩) (.inr (hN0 ▸ hge)) (.int .i64 z1)).setCell (p := ⟨y, 2, none⟩) (.inr (hN0 ▸ hge)) (.int .i64 z2)).setCell (p := ⟨y, 3, none⟩) (.inr (hN0 ▸ hge)) (.int .i64 z3)).setCell (p := ⟨y, 4, none⟩) (.inr (hN0 ▸ hge)) (.int .i64 0)).setCell (p := ⟨y, 5, none⟩) (.inr (hN0 ▸ hge)) (.int .i64 0)).setCell (p := ⟨y, 6, none⟩) (.inr (hN0 ▸ hge)) (.int .i64 0)).setCell (p := ⟨y, 7, none⟩) (.inr (hN0 ▸ hge)) (.bool false)).setCell (p := ⟨y, 8, none⟩) (.inr (hN0 ▸ hge)) (.string ⟨#[]⟩))
  have hrd := (((((((((hr.far 0 (.int .i64 z0) hBy).far 1 (.int .i64 z1) hBy).far 2 (.int .i64 z2) hBy).far 3 (.int .i64 z3) hBy).far 4 (.int .i64 0) hBy).far 5 (.int .i64 0) hBy).far 6 (.int .i64 0) hBy).far 7 (.bool false) hBy).far 8 (.string ⟨#[]⟩) hBy)
  go_simp
  exact hKK _ _ ⟨_, _, _, _, _, _, _, _, _, _, _, _, _, _, _, _, _, _, rfl, ⟨hb, ⟨k, hrd, hk⟩, (hI.f0), (hI.f1), (hI.f2), (hI.f3), (hI.f4), (hI.f5), (fun _ h => by cases h), (hI.f7), (hI.f8), (fun _ h => by cases h), (hI.f10), (fun _ h => by cases h), (hI.f12), (hI.f13), (fun _ h => by cases h), (hI.f15), (hI.f16), (fun _ => ⟨y, rfl, hne, hge, z0, z1, z2, z3, 0, 0, 0, false, ⟨#[]⟩, h2, by decide⟩), (fun _ j hj => by have q := hd18 j hj; show (if _ then _ else _) = true; split <;> first | rfl | exact q), (fun _ => ⟨y, z0, z1, z2, z3, rfl, hne, hge, h2, hbd⟩)⟩⟩
set_option maxRecDepth 100000 in
theorem region2 (B : Nat) (k0 K : Int) (w0 : World) (u1 u2 u21 u22 u23 u24 u25 u26 u27 u28 u29 u30 u31 u32 u33 u34 u35 u36 u37 u38 u39 u40 u41 u42 u43 u44 u45 u46 u47 u48 u49 u50 u51 : Value) (Q : Exit → Act → World → Prop) (hr0 : Rd B k0 w0) (hK : k0 + 4 ≤ K) (hKb : K ≤ 900000)
    (hQ : ∀ (v3 v4 v5 v6 v7 v8 v9 v10 v11 v12 v13 v14 v15 v16 v17 v18 v19 v20 : Value) (w : World) (k : Int) (y : Nat) (z0 z1 z2 z3 : Int), v3 = .pointer (some ⟨y, 0, none⟩) → w0.heap.size ≤ y → Bk w y 24 #[.int .i64 z0, .int .i64 z1, .int .i64 z2, .int .i64 z3, .int .i64 0, .int .i64 0, .int .i64 0, .bool false, .string ⟨#[]⟩] → (1 ≤ z0 ∧ z0 ≤ 2) ∧ (1 ≤ z1 ∧ z1 ≤ 2) ∧ (1 ≤ z2 ∧ z2 ≤ 1000) ∧ 0 ≤ z3 ∧ z3 ≤ 1000 → Rd B k w → k ≤ K → But B w0 w → Q .normal ⟨#[.pointer (some ⟨B, 0, none⟩), u1, u2, v3, v4, v5, v6, v7, v8, v9, v10, v11, v12, v13, v14, v15, v16, v17, v18, v19, v20, u21, u22, u23, u24, u25, u26, u27, u28, u29, u30, u31, u32, u33, u34, u35, u36, u37, u38, u39, u40, u41, u42, u43, u44, u45, u46, u47, u48, u49, u50, u51], []⟩ w) (v3 v4 v5 v6 v7 v8 v9 v10 v11 v12 v13 v14 v15 v16 v17 v18 v19 v20 : Value) :
    wpAny Tryd.prog .any ops2 Q ops2.size (Array.replicate ops2.size false) ⟨#[.pointer (some ⟨B, 0, none⟩), u1, u2, v3, v4, v5, v6, v7, v8, v9, v10, v11, v12, v13, v14, v15, v16, v17, v18, v19, v20, u21, u22, u23, u24, u25, u26, u27, u28, u29, u30, u31, u32, u33, u34, u35, u36, u37, u38, u39, u40, u41, u42, u43, u44, u45, u46, u47, u48, u49, u50, u51], []⟩ w0 := by
  obtain ⟨N, hN⟩ : ∃ N, N = w0.heap.size := ⟨_, rfl⟩
  have hBN : B < N := by rw [hN]; exact hr0.lt
  rw [← hN] at hQ
  have hg : ∀ j, (Array.replicate ops2.size false).getD j false = false := fun j => by simp [Array.getD]
  refine wpAny_inv (fun L a w => ∃ v3 v4 v5 v6 v7 v8 v9 v10 v11 v12 v13 v14 v15 v16 v17 v18 v19 v20 : Value, a = ⟨#[.pointer (some ⟨B, 0, none⟩), u1, u2, v3, v4, v5, v6, v7, v8, v9, v10, v11, v12, v13, v14, v15, v16, v17, v18, v19, v20, u21, u22, u23, u24, u25, u26, u27, u28, u29, u30, u31, u32, u33, u34, u35, u36, u37, u38, u39, u40, u41, u42, u43, u44, u45, u46, u47, u48, u49, u50, u51], []⟩ ∧ FL B N K w0 L v3 v4 v5 v6 v7 v8 v9 v10 v11 v12 v13 v14 v15 v16 v17 v18 v19 v20 w) ?_ ?_ ops2_down _ _ _ _ (by simp) (by simp) ⟨v3, v4, v5, v6, v7, v8, v9, v10, v11, v12, v13, v14, v15, v16, v17, v18, v19, v20, rfl, But.refl _ _, ⟨k0, hr0, by simp only [hg]; simp; omega⟩, (fun h => by rw [hg] at h; cases h), (fun h => by rw [hg] at h; cases h), (fun h => by rw [hg] at h; cases h), (fun h => by rw [hg] at h; cases h), (fun h => by rw [hg] at h; cases h), (fun h => by rw [hg] at h; cases h), (fun h => by rw [hg] at h; cases h), (fun h => by rw [hg] at h; cases h), (fun h => by rw [hg] at h; cases h), (fun h => by rw [hg] at h; cases h), (fun h => by rw [hg] at h; cases h), (fun h => by rw [hg] at h; cases h), (fun h => by rw [hg] at h; cases h), (fun h => by rw [hg] at h; cases h), (fun h => by rw [hg] at h; cases h), (fun h => by rw [hg] at h; cases h), (fun h => by rw [hg] at h; cases h), (fun h => by rw [hg] at h; cases h), (fun h => by rw [hg] at h; cases h), (fun h => by rw [hg] at h; cases h)⟩
  · intro L a w i o hI ho hi hL hd
    obtain ⟨v3, v4, v5, v6, v7, v8, v9, v10, v11, v12, v13, v14, v15, v16, v17, v18, v19, v20, rfl, hI⟩ := hI
    rw [ops2_size] at hi
    rcases (by omega : i = 0 ∨ i = 1 ∨ i = 2 ∨ i = 3 ∨ i = 4 ∨ i = 5 ∨ i = 6 ∨ i = 7 ∨ i = 8 ∨ i = 9 ∨ i = 10 ∨ i = 11 ∨ i = 12 ∨ i = 13 ∨ i = 14 ∨ i = 15 ∨ i = 16 ∨ i = 17 ∨ i = 18) with rfl | rfl | rfl | rfl | rfl | rfl | rfl | rfl | rfl | rfl | rfl | rfl | rfl | rfl | rfl | rfl | rfl | rfl | rfl
    · exact st0 B N K w0 u1 u2 u21 u22 u23 u24 u25 u26 u27 u28 u29 u30 u31 u32 u33 u34 u35 u36 u37 u38 u39 u40 u41 u42 u43 u44 u45 u46 u47 u48 u49 u50 u51 Q hBN hN hKb L v3 v4 v5 v6 v7 v8 v9 v10 v11 v12 v13 v14 v15 v16 v17 v18 v19 v20 w hI hL hd
    · exact st1 B N K w0 u1 u2 u21 u22 u23 u24 u25 u26 u27 u28 u29 u30 u31 u32 u33 u34 u35 u36 u37 u38 u39 u40 u41 u42 u43 u44 u45 u46 u47 u48 u49 u50 u51 Q hBN hN hKb L v3 v4 v5 v6 v7 v8 v9 v10 v11 v12 v13 v14 v15 v16 v17 v18 v19 v20 w hI hL hd
    · exact st2 B N K w0 u1 u2 u21 u22 u23 u24 u25 u26 u27 u28 u29 u30 u31 u32 u33 u34 u35 u36 u37 u38 u39 u40 u41 u42 u43 u44 u45 u46 u47 u48 u49 u50 u51 Q hBN hN hKb L v3 v4 v5 v6 v7 v8 v9 v10 v11 v12 v13 v14 v15 v16 v17 v18 v19 v20 w hI hL hd
    · exact st3 B N K w0 u1 u2 u21 u22 u23 u24 u25 u26 u27 u28 u29 u30 u31 u32 u33 u34 u35 u36 u37 u38 u39 u40 u41 u42 u43 u44 u45 u46 u47 u48 u49 u50 u51 Q hBN hN hKb L v3 v4 v5 v6 v7 v8 v9 v10 v11 v12 v13 v14 v15 v16 v17 v18 v19 v20 w hI hL hd
    · exact st4 B N K w0 u1 u2 u21 u22 u23 u24 u25 u26 u27 u28 u29 u30 u31 u32 u33 u34 u35 u36 u37 u38 u39 u40 u41 u42 u43 u44 u45 u46 u47 u48 u49 u50 u51 Q hBN hN hKb L v3 v4 v5 v6 v7 v8 v9 v10 v11 v12 v13 v14 v15 v16 v17 v18 v19 v20 w hI hL hd
    · exact st5 B N K w0 u1 u2 u21 u22 u23 u24 u25 u26 u27 u28 u29 u30 u31 u32 u33 u34 u35 u36 u37 u38 u39 u40 u41 u42 u43 u44 u45 u46 u47 u48 u49 u50 u51 Q hBN hN hKb L v3 v4 v5 v6 v7 v8 v9 v10 v11 v12 v13 v14 v15 v16 v17 v18 v19 v20 w hI hL hd
    · exact st6 B N K w0 u1 u2 u21 u22 u23 u24 u25 u26 u27 u28 u29 u30 u31 u32 u33 u34 u35 u36 u37 u38 u39 u40 u41 u42 u43 u44 u45 u46 u47 u48 u49 u50 u51 Q hBN hN hKb L v3 v4 v5 v6 v7 v8 v9 v10 v11 v12 v13 v14 v15 v16 v17 v18 v19 v20 w hI hL hd
    · exact st7 B N K w0 u1 u2 u21 u22 u23 u24 u25 u26 u27 u28 u29 u30 u31 u32 u33 u34 u35 u36 u37 u38 u39 u40 u41 u42 u43 u44 u45 u46 u47 u48 u49 u50 u51 Q hBN hN hKb L v3 v4 v5 v6 v7 v8 v9 v10 v11 v12 v13 v14 v15 v16 v17 v18 v19 v20 w hI hL hd
    · exact st8 B N K w0 u1 u2 u21 u22 u23 u24 u25 u26 u27 u28 u29 u30 u31 u32 u33 u34 u35 u36 u37 u38 u39 u40 u41 u42 u43 u44 u45 u46 u47 u48 u49 u50 u51 Q hBN hN hKb L v3 v4 v5 v6 v7 v8 v9 v10 v11 v12 v13 v14 v15 v16 v17 v18 v19 v20 w hI hL hd
    · exact st9 B N K w0 u1 u2 u21 u22 u23 u24 u25 u26 u27 u28 u29 u30 u31 u32 u33 u34 u35 u36 u37 u38 u39 u40 u41 u42 u43 u44 u45 u46 u47 u48 u49 u50 u51 Q hBN hN hKb L v3 v4 v5 v6 v7 v8 v9 v10 v11 v12 v13 v14 v15 v16 v17 v18 v19 v20 w hI hL hd
    · exact st10 B N K w0 u1 u2 u21 u22 u23 u24 u25 u26 u27 u28 u29 u30 u31 u32 u33 u34 u35 u36 u37 u38 u39 u40 u41 u42 u43 u44 u45 u46 u47 u48 u49 u50 u51 Q hBN hN hKb L v3 v4 v5 v6 v7 v8 v9 v10 v11 v12 v13 v14 v15 v16 v17 v18 v19 v20 w hI hL hd
    · exact st11 B N K w0 u1 u2 u21 u22 u23 u24 u25 u26 u27 u28 u29 u30 u31 u32 u33 u34 u35 u36 u37 u38 u39 u40 u41 u42 u43 u44 u45 u46 u47 u48 u49 u50 u51 Q hBN hN hKb L v3 v4 v5 v6 v7 v8 v9 v10 v11 v12 v13 v14 v15 v16 v17 v18 v19 v20 w hI hL hd
    · exact st12 B N K w0 u1 u2 u21 u22 u23 u24 u25 u26 u27 u28 u29 u30 u31 u32 u33 u34 u35 u36 u37 u38 u39 u40 u41 u42 u43 u44 u45 u46 u47 u48 u49 u50 u51 Q hBN hN hKb L v3 v4 v5 v6 v7 v8 v9 v10 v11 v12 v13 v14 v15 v16 v17 v18 v19 v20 w hI hL hd
    · exact st13 B N K w0 u1 u2 u21 u22 u23 u24 u25 u26 u27 u28 u29 u30 u31 u32 u33 u34 u35 u36 u37 u38 u39 u40 u41 u42 u43 u44 u45 u46 u47 u48 u49 u50 u51 Q hBN hN hKb L v3 v4 v5 v6 v7 v8 v9 v10 v11 v12 v13 v14 v15 v16 v17 v18 v19 v20 w hI hL hd
    · exact st14 B N K w0 u1 u2 u21 u22 u23 u24 u25 u26 u27 u28 u29 u30 u31 u32 u33 u34 u35 u36 u37 u38 u39 u40 u41 u42 u43 u44 u45 u46 u47 u48 u49 u50 u51 Q hBN hN hKb L v3 v4 v5 v6 v7 v8 v9 v10 v11 v12 v13 v14 v15 v16 v17 v18 v19 v20 w hI hL hd
    · exact st15 B N K w0 u1 u2 u21 u22 u23 u24 u25 u26 u27 u28 u29 u30 u31 u32 u33 u34 u35 u36 u37 u38 u39 u40 u41 u42 u43 u44 u45 u46 u47 u48 u49 u50 u51 Q hBN hN hKb L v3 v4 v5 v6 v7 v8 v9 v10 v11 v12 v13 v14 v15 v16 v17 v18 v19 v20 w hI hL hd
    · exact st16 B N K w0 u1 u2 u21 u22 u23 u24 u25 u26 u27 u28 u29 u30 u31 u32 u33 u34 u35 u36 u37 u38 u39 u40 u41 u42 u43 u44 u45 u46 u47 u48 u49 u50 u51 Q hBN hN hKb L v3 v4 v5 v6 v7 v8 v9 v10 v11 v12 v13 v14 v15 v16 v17 v18 v19 v20 w hI hL hd
    · exact st17 B N K w0 u1 u2 u21 u22 u23 u24 u25 u26 u27 u28 u29 u30 u31 u32 u33 u34 u35 u36 u37 u38 u39 u40 u41 u42 u43 u44 u45 u46 u47 u48 u49 u50 u51 Q hBN hN hKb L v3 v4 v5 v6 v7 v8 v9 v10 v11 v12 v13 v14 v15 v16 v17 v18 v19 v20 w hI hL hd
    · exact st18 B N K w0 u1 u2 u21 u22 u23 u24 u25 u26 u27 u28 u29 u30 u31 u32 u33 u34 u35 u36 u37 u38 u39 u40 u41 u42 u43 u44 u45 u46 u47 u48 u49 u50 u51 Q hBN hN hKb L v3 v4 v5 v6 v7 v8 v9 v10 v11 v12 v13 v14 v15 v16 v17 v18 v19 v20 w hI hL hd
  · intro L a w hall hI
    obtain ⟨v3, v4, v5, v6, v7, v8, v9, v10, v11, v12, v13, v14, v15, v16, v17, v18, v19, v20, rfl, hI⟩ := hI
    rw [ops2_size] at hall
    obtain ⟨k, hr, hk⟩ := hI.rd
    obtain ⟨y, z0, z1, z2, z3, e, _, hge, hp, hbd⟩ := hI.f19 (hall 18 (by omega))
    exact hQ _ _ _ _ _ _ _ _ _ _ _ _ _ _ _ _ _ _ w k y z0 z1 z2 z3 e hge hp hbd hr (by split at hk <;> split at hk <;> split at hk <;> split at hk <;> omega) hI.but
end Go.Proofs.YtfeknhopjgpbfaaDoor.draw

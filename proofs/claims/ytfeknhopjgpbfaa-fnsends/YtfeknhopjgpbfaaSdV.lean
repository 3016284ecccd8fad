/-
  DRAWN SENDS: spec.DrawSendWord's region.
-/
import Derived.Test.YtfeknhopjgpbfaaSdU
import Derived.Test.YtfeknhopjgpbfaaBase
namespace Go.Proofs.Ytfeknhopjgpbfaa.draw
open Go.RowKit mk
set_option linter.unusedVariables false

/-- a Send in the making, its reader its own -/
structure S5 (B R y N : Nat) (k : Int) (w0 w : World) (b : Int) (ao : Option Addr) (cap : Nat) (xs : List It) : Prop where
  rd : Rd B k w
  low : Below w0.heap.size w0 w
  lt : w0.heap.size ≤ R ∧ R < B ∧ B < N ∧ N ≤ y
  bx : Bx w y 25 #[.int .i64 b, .slice ao xs.length cap]
  res : Bx w R 25 #[.int .i64 0, .slice none 0 0]
  row : w.ownsRow N 37 4 (.slice ao xs.length cap) xs.length (is xs)
theorem S5.turn {B R y N : Nat} {k : Int} {w0 w : World} {b : Int} {ao : Option Addr} {cap : Nat} {xs : List It} {k' : Int} {w' : World} (h : S5 B R y N k w0 w b ao cap xs) (hb : But B w w') (hr : Rd B k' w') : S5 B R y N k' w0 w' b ao cap xs := by
  have := h.lt
  exact ⟨hr, h.low.trans ⟨hb.os, hb.tape, hb.output, hb.size, fun q hq => hb.block q (by have := h.low.size; omega) (by omega)⟩, h.lt, bx_but h.bx hb (by omega), bx_but h.res hb (by omega), owns_but h.row hb h.lt.2.2.1⟩
theorem S5.alloc {B R y N : Nat} {k : Int} {w0 w : World} {b : Int} {ao : Option Addr} {cap : Nat} {xs : List It} (h : S5 B R y N k w0 w b ao cap xs) (o : Obj) : S5 B R y N k w0 (w.alloc o) b ao cap xs := h.turn ((But.refl _ _).alloc o) (h.rd.made o)
theorem S5.drew {B R y N : Nat} {k : Int} {w0 w : World} {b : Int} {ao : Option Addr} {cap : Nat} {xs : List It} (h : S5 B R y N k w0 w b ao cap xs) : S5 B R y N k w0 w.drew b ao cap xs := h.turn (But.refl _ _).drew (h.rd.keep (Below.refl _ _).drew)
theorem S5.cells {B R y N : Nat} {k : Int} {w0 w : World} {b : Int} {ao : Option Addr} {cap : Nat} {xs : List It} (h : S5 B R y N k w0 w b ao cap xs) : w.cell? ⟨y, 0, none⟩ = some (.int .i64 b) ∧ w.cell? ⟨y, 1, none⟩ = some (.slice ao xs.length cap) ∧ w.cell? ⟨R, 0, none⟩ = some (.int .i64 0) ∧ w.cell? ⟨R, 1, none⟩ = some (.slice none 0 0) ∧ w.frozen? ⟨R, 0, none⟩ = false ∧ w.frozen? ⟨R, 1, none⟩ = false :=
  ⟨h.bx.cell 0, h.bx.cell 1, h.res.cell 0, h.res.cell 1, h.res.frozen 0, h.res.frozen 1⟩
theorem S5.fin {B R y N : Nat} {k : Int} {w0 w : World} {b : Int} {ao : Option Addr} {cap : Nat} {xs : List It} (h : S5 B R y N k w0 w b ao cap xs) (c0 c1 : Value) : Below w0.heap.size w0 ((w.setCell ⟨R, 0, none⟩ c0).setCell ⟨R, 1, none⟩ c1) ∧ ((w.setCell ⟨R, 0, none⟩ c0).setCell ⟨R, 1, none⟩ c1).ownsRow w0.heap.size 37 4 (.slice ao xs.length cap) xs.length (is xs) := by
  have hl := h.lt
  have n1 : (Value.slice ao xs.length cap).ownBlock ≠ some R := fun e => h.res.ne (by decide) h.row e.symm
  exact ⟨(h.low.setCell (p := ⟨R, 0, none⟩) hl.1 _).setCell (p := ⟨R, 1, none⟩) hl.1 _, owns_mono (ownsRow_setCell_other (ownsRow_setCell_other h.row (a := ⟨R, 0, none⟩) n1 _) (a := ⟨R, 1, none⟩) n1 _) (by omega)⟩
theorem word_start {w w1 w2 : World} {k1 : Int} {b : Int} {ao : Option Addr} {cap : Nat} {xs : List It} {B : Nat} (hB : B = (w.alloc (.cells #[.int .i64 0, .slice none 0 0] 25)).heap.size) (hr0 : Rd B 0 w1) (hb0 : Below (w.alloc (.cells #[.int .i64 0, .slice none 0 0] 25)).heap.size (w.alloc (.cells #[.int .i64 0, .slice none 0 0] 25)) w1)
    (hr1 : Rd B k1 w2) (hb1 : But B w1 w2) (hrow : w2.ownsRow w1.heap.size 37 4 (.slice ao xs.length cap) xs.length (is xs)) :
    S5 B w.heap.size w2.heap.size w1.heap.size k1 w (w2.alloc (.cells #[.int .i64 b, .slice ao xs.length cap] 25)) b ao cap xs := by
  have hlt := hr0.lt
  have s1 := hb1.size
  simp only [World.size_alloc] at hB
  have hR := bx_but ((Bx.new w 25 #[.int .i64 0, .slice none 0 0]).keep hb0) hb1 (by omega)
  have b1 : Below w.heap.size w w1 := kb ((Below.refl _ _).alloc (Nat.le_refl _) _) hb0 (Nat.le_refl _)
  have b2 : Below w.heap.size w w2 := b1.trans ⟨hb1.os, hb1.tape, hb1.output, hb1.size, fun q hq => hb1.block q (by have := b1.size; omega) (by omega)⟩
  exact ⟨hr1.made _, b2.alloc b2.size _, ⟨Nat.le_refl _, by omega, hlt, s1⟩, Bx.new w2 _ _, hR.alloc _, hrow.alloc _⟩
noncomputable def ops8 : Array Oper := match Try.f4.body with
  | some (.seq _ (.seq _ (.seq _ (.seq _ (.seq _ (.seq _ (.seq (.seq _ (.cond _ (.region _ o _) _)) _))))))) => o
  | _ => #[]
theorem ops8_size : ops8.size = 19 := by kernel_rfl
set_option maxRecDepth 100000 in
set_option maxHeartbeats 4000000 in
theorem region8 (B R y N : Nat) (k : Int) (w0 w : World) (b : Int) (ao : Option Addr) (cap : Nat) (xs : List It) (u0 u1 u2 u3 u4 u7 u8 u9 u10 u11 u12 u13 u14 u15 u16 u17 u18 u19 u20 u21 u22 u23 u24 u25 u26 u27 u28 u29 u30 u31 u32 u33 u34 u35 u36 u37 u38 u39 u40 u41 u42 u43 u44 u45 u46 u47 u48 u49 u50 u51 u52 : Value) (hs : S5 B R y N k w0 w b ao cap xs) (hk : Wl b xs) (hkb : k ≤ 900000) :
    (Code.region 8 ops8 true).wp Try.prog (fun x a w' => match x with
      | .normal => ∃ (v7 v32 v33 v34 v35 v36 v37 v38 v39 v40 v41 v42 v43 v44 v45 v46 v47 v48 v49 : Value) (V : Int), a = ⟨#[u0, u1, u2, u3, u4, .pointer (some ⟨B, 0, none⟩), .pointer (some ⟨y, 0, none⟩), v7, u8, u9, u10, u11, u12, u13, u14, u15, u16, u17, u18, u19, u20, u21, u22, u23, u24, u25, u26, u27, u28, u29, u30, u31, v32, v33, v34, v35, v36, v37, v38, v39, v40, v41, v42, v43, v44, v45, v46, v47, v48, v49, u50, u51, u52], []⟩ ∧ v7 = .int .i64 V ∧ S5 B R y N (k + 1) w0 w' b ao cap xs
      | _ => False) ⟨#[u0, u1, u2, u3, u4, .pointer (some ⟨B, 0, none⟩), .pointer (some ⟨y, 0, none⟩), u7, u8, u9, u10, u11, u12, u13, u14, u15, u16, u17, u18, u19, u20, u21, u22, u23, u24, u25, u26, u27, u28, u29, u30, u31, u32, u33, u34, u35, u36, u37, u38, u39, u40, u41, u42, u43, u44, u45, u46, u47, u48, u49, u50, u51, u52], []⟩ w := by
  unfold ops8 Try.f4
  dsimp only
  have hbb0 := hk.1
  have hbb1 := hk.2.1
  have hxl := hk.2.2.1
  have hw1 : IntKind.i64.wrap (b + (xs.length : Int)) = b + (xs.length : Int) := by rw [IntKind.wrap_i64]; omega
  have hw2 : IntKind.i64.wrap (b + (xs.length : Int) + 1) = b + (xs.length : Int) + 1 := by rw [IntKind.wrap_i64]; omega
  refine wp_region_held_drew (S := (fun u => u.cell? ⟨y, 0, none⟩ = some (.int .i64 b) ∧ u.cell? ⟨y, 1, none⟩ = some (.slice ao xs.length cap))) (by kernel_rfl) ?_ (fun hHeld => ?_)
  · exact ⟨hs.cells.1, hs.cells.2.1⟩
  refine tkF 0 (some 32) ?_
  refine tkE 1 (some 33) ?_ ?_ ?_
  rotate_left
  · (intro w hSw; obtain ⟨s0, s1⟩ := hSw; go_simp <;> with_reducible rfl)
  refine tkF 2 (some 34) ?_
  refine tkE 3 (some 35) ?_ ?_ ?_
  rotate_left
  · (intro w hSw; obtain ⟨s0, s1⟩ := hSw; go_simp <;> with_reducible rfl)
  refine tkF 4 (some 36) ?_
  refine tkF 5 (some 37) ?_
  refine tkF 6 (some 38) ?_
  refine tkE 7 (some 39) ?_ ?_ ?_
  rotate_left
  · (intro w hSw; obtain ⟨s0, s1⟩ := hSw; go_simp <;> with_reducible rfl)
  refine tkF 8 (some 40) ?_
  refine tkE 9 (some 41) ?_ ?_ ?_
  rotate_left
  · (intro w hSw; obtain ⟨s0, s1⟩ := hSw; go_simp <;> with_reducible rfl)
  refine tkF 10 (some 42) ?_
  refine tkF 11 (some 43) ?_
  refine tkF 12 (some 44) ?_
  refine tkF 14 (some 46) ?_
  refine wpAnyH_ready (rs := [13, 15]) (by kernel_rfl) (by simp) ?_
  refine AllReadyH.cons rfl (fun K hK => ?_) (AllReadyH.cons rfl (fun K hK => ?_) AllReadyH.nil)
  · go_simp
    refine hK.out _ _ ?_ (fun hHeld => ?_)
    · exact ⟨(hs.drew.alloc _).cells.1, (hs.drew.alloc _).cells.2.1⟩
    clear hK K
    try simp only [Act.put, List.setIfInBounds_toArray, List.set_cons_zero, List.set_cons_succ]
    refine wpAnyH_ready (rs := [15]) (by kernel_rfl) (by simp) ?_
    refine AllReadyH.cons rfl (fun K hK => ?_) AllReadyH.nil
    go_simp
    refine (pick_any B _ _ _ (hs.drew.alloc _).rd (by omega) (by omega)).mono ?_
    rintro e w2 ⟨⟨z, rfl, z0, z1⟩, hr1, hb1⟩
    obtain ⟨V, hV, v0, v1⟩ := tab_ints (lo := -2) (hi := 2000000) (T := 3) [0, -1, b + (xs.length : Int), b + (xs.length : Int) + 1] (show But B (w.alloc _) w2 from ⟨hb1.os, hb1.tape, hb1.output, hb1.size, hb1.block⟩) hs.rd.lt z0 z1 (by intro v hv; simp at hv; omega)
    replace hs := (hs.drew.alloc _).turn hb1 hr1
    clear hr1 hb1
    go_wp2_with fail
    refine hK.out _ _ ?_ (fun hHeld => ?_)
    · exact ⟨hs.cells.1, hs.cells.2.1⟩
    clear hK K
    try simp only [Act.put, List.setIfInBounds_toArray, List.set_cons_zero, List.set_cons_succ]
    refine tkF 16 (some 48) ?_
    refine wpAnyH_ready (rs := [17]) (by kernel_rfl) (by simp) ?_
    refine AllReadyH.cons rfl (fun K hK => ?_) AllReadyH.nil
    go_simp
    refine hK.out _ _ ?_ (fun hHeld => ?_)
    · assumption
    clear hK K
    try simp only [Act.put, List.setIfInBounds_toArray, List.set_cons_zero, List.set_cons_succ]
    refine tkF 18 (some 7) ?_
    refine wpAnyH_done (by kernel_rfl) ?_ _
    exact ⟨_, _, _, _, _, _, _, _, _, _, _, _, _, _, _, _, _, _, _, V, rfl, rfl, hs⟩
  · go_simp
    refine (pick_any B _ _ _ hs.drew.rd (by omega) (by omega)).mono ?_
    rintro e w2 ⟨⟨z, rfl, z0, z1⟩, hr1, hb1⟩
    replace hs := hs.drew.turn hb1 hr1
    obtain ⟨V, hV, v0, v1⟩ := tab_ints (lo := -2) (hi := 2000000) (T := 3) [0, -1, b + (xs.length : Int), b + (xs.length : Int) + 1] (But.refl B (w2.alloc _)) hs.rd.lt z0 z1 (by intro v hv; simp at hv; omega)
    have hV2 := hV
    simp [go_sem] at hV2
    simp only [List.map] at hV
    have hV3 : (#[.int .i64 0, .int .i64 (-1), .int .i64 (b + (xs.length : Int)), .int .i64 (b + (xs.length : Int) + 1)] : Array Value)[z.toNat]? = some (.int .i64 V) := by simpa using hV2
    clear hr1 hb1
    go_wp2_with fail
    refine hK.out _ _ ?_ (fun hHeld => ?_)
    · exact ⟨hs.cells.1, hs.cells.2.1⟩
    clear hK K
    try simp only [Act.put, List.setIfInBounds_toArray, List.set_cons_zero, List.set_cons_succ]
    refine wpAnyH_ready (rs := [13]) (by kernel_rfl) (by simp) ?_
    refine AllReadyH.cons rfl (fun K hK => ?_) AllReadyH.nil
    go_simp
    refine hK.out _ _ ?_ (fun hHeld => ?_)
    · exact ⟨(hs.alloc _).cells.1, (hs.alloc _).cells.2.1⟩
    clear hK K
    try simp only [Act.put, List.setIfInBounds_toArray, List.set_cons_zero, List.set_cons_succ]
    replace hs := hs.alloc (.cells #[.int .i64 0, .int .i64 (-1), .int .i64 (b + (xs.length : Int)), .int .i64 (b + (xs.length : Int) + 1)] 3)
    refine tkF 16 (some 48) ?_
    refine wpAnyH_ready (rs := [17]) (by kernel_rfl) (by simp) ?_
    refine AllReadyH.cons rfl (fun K hK => ?_) AllReadyH.nil
    go_simp
    refine hK.out _ _ ?_ (fun hHeld => ?_)
    · assumption
    clear hK K
    try simp only [Act.put, List.setIfInBounds_toArray, List.set_cons_zero, List.set_cons_succ]
    refine tkF 18 (some 7) ?_
    refine wpAnyH_done (by kernel_rfl) ?_ _
    exact ⟨_, _, _, _, _, _, _, _, _, _, _, _, _, _, _, _, _, _, _, V, rfl, rfl, hs⟩
end Go.Proofs.Ytfeknhopjgpbfaa.draw

import Derived.Test.YthjncmgjkejikaaGreatEpA
import Derived.Test.YthjncmgjkejikaaGreatForms
import Derived.Test.YthjncmgjkejikaaGreatRows
import Derived.WalkKit
import Derived.ProofKit
import Derived.OpenShut
import Derived.ShutString
import Derived.ChangeOld
import Derived.Below
/-
  WHILE A LAW ON AN END AND A PACKET RUNS: a variable that is given an action.
-/
namespace Go.Proofs.YthjncmgjkejikaaGreat.mk
open Go.RowKit
set_option linter.unusedVariables false

theorem own15n {w : World} {base n size : Nat} {e : TypeId} {v : Value} {xs : List Value} (h : w.ownsRow base e size v n xs) (B : Nat) (hB : v.ownBlock ≠ some B) (c0 c1 c2 c3 c4 c5 c6 c7 c8 c9 c10 c11 c12 c13 c14 : Value) :
    (((((((((((((((w.setCell ⟨B, 0, none⟩ (c0)).setCell ⟨B, 1, none⟩ (c1)).setCell ⟨B, 2, none⟩ (c2)).setCell ⟨B, 3, none⟩ (c3)).setCell ⟨B, 4, none⟩ (c4)).setCell ⟨B, 5, none⟩ (c5)).setCell ⟨B, 6, none⟩ (c6)).setCell ⟨B, 7, none⟩ (c7)).setCell ⟨B, 8, none⟩ (c8)).setCell ⟨B, 9, none⟩ (c9)).setCell ⟨B, 10, none⟩ (c10)).setCell ⟨B, 11, none⟩ (c11)).setCell ⟨B, 12, none⟩ (c12)).setCell ⟨B, 13, none⟩ (c13)).setCell ⟨B, 14, none⟩ (c14)).ownsRow base e size v n xs :=
  (ownsRow_setCell_other (ownsRow_setCell_other (ownsRow_setCell_other (ownsRow_setCell_other (ownsRow_setCell_other (ownsRow_setCell_other (ownsRow_setCell_other (ownsRow_setCell_other (ownsRow_setCell_other (ownsRow_setCell_other (ownsRow_setCell_other (ownsRow_setCell_other (ownsRow_setCell_other (ownsRow_setCell_other (ownsRow_setCell_other h (a := ⟨B, 0, none⟩) hB c0) (a := ⟨B, 1, none⟩) hB c1) (a := ⟨B, 2, none⟩) hB c2) (a := ⟨B, 3, none⟩) hB c3) (a := ⟨B, 4, none⟩) hB c4) (a := ⟨B, 5, none⟩) hB c5) (a := ⟨B, 6, none⟩) hB c6) (a := ⟨B, 7, none⟩) hB c7) (a := ⟨B, 8, none⟩) hB c8) (a := ⟨B, 9, none⟩) hB c9) (a := ⟨B, 10, none⟩) hB c10) (a := ⟨B, 11, none⟩) hB c11) (a := ⟨B, 12, none⟩) hB c12) (a := ⟨B, 13, none⟩) hB c13) (a := ⟨B, 14, none⟩) hB c14)
def Got (U : World) (C : Int) (E : En) (T : ByteArray) (v : Value) (wx : World) : Prop := ∃ (B lo hi : Nat) (a1 : Option Addr) (c1 : Nat) (a2 : Option Addr) (c2 : Nat) (a3 : Option Addr) (c3 : Nat), v = .pointer (some ⟨B, 0, none⟩) ∧ Bx wx B 42 #[.int .i64 C, .int .i64 E.num, .bool E.up, .int .i64 E.life, .int .i64 E.peer, .int .i64 E.since, .bool E.owes, .int .i64 E.b, .slice a1 E.xs.length c1, .int .i64 E.nx, .slice a2 E.hs.length c2, .string E.o, .slice a3 E.rs.length c3, .slice none 0 0, .string T] ∧ R3 wx lo hi (.slice a1 E.xs.length c1) E.xs.length (is E.xs) (.slice a2 E.hs.length c2) E.hs.length (hs E.hs) (.slice a3 E.rs.length c3) E.rs.length (ss E.rs) ∧ (B < lo ∨ hi ≤ B) ∧ U.heap.size ≤ lo ∧ lo ≤ wx.heap.size ∧ hi ≤ wx.heap.size ∧ Below U.heap.size U wx ∧ U.heap.size ≤ B
theorem Got.fold (U wn : World) (lo : Nat) (C : Int) (E : En) (T : ByteArray) (a1 : Option Addr) (c1 : Nat) (a2 : Option Addr) (c2 : Nat) (a3 : Option Addr) (c3 : Nat) (hb : Below U.heap.size U wn) (hlo : U.heap.size ≤ lo) (hl : lo ≤ wn.heap.size) (r1 : wn.ownsRow lo 67 4 (.slice a1 E.xs.length c1) E.xs.length (is E.xs)) (r2 : wn.ownsRow lo 95 3 (.slice a2 E.hs.length c2) E.hs.length (hs E.hs)) (r3 : wn.ownsRow lo 9 1 (.slice a3 E.rs.length c3) E.rs.length (ss E.rs)) : Got U C E T (.pointer (some ⟨wn.heap.size, 0, none⟩)) (wn.alloc (.cells #[.int .i64 C, .int .i64 E.num, .bool E.up, .int .i64 E.life, .int .i64 E.peer, .int .i64 E.since, .bool E.owes, .int .i64 E.b, .slice a1 E.xs.length c1, .int .i64 E.nx, .slice a2 E.hs.length c2, .string E.o, .slice a3 E.rs.length c3, .slice none 0 0, .string T] 42)) :=
  ⟨wn.heap.size, lo, wn.heap.size, a1, c1, a2, c2, a3, c3, rfl, Bx.new wn 42 _, (R3.of r1 r2 r3).alloc _, .inr (Nat.le_refl _), hlo, by simp; omega, by simp, hb.alloc hb.size _, hb.size⟩
theorem Got.put (U wn : World) (B lo : Nat) (C : Int) (E : En) (T : ByteArray) (a1 : Option Addr) (c1 : Nat) (a2 : Option Addr) (c2 : Nat) (a3 : Option Addr) (c3 : Nat) (ZB : Bx wn B 42 #[.int .i64 0, .int .i64 0, .bool false, .int .i64 0, .int .i64 0, .int .i64 0, .bool false, .int .i64 0, .slice none 0 0, .int .i64 0, .slice none 0 0, .string ⟨#[]⟩, .slice none 0 0, .slice none 0 0, .string ⟨#[]⟩]) (hb : Below U.heap.size U wn) (lB : U.heap.size ≤ B) (hBl : B < lo) (hlo : U.heap.size ≤ lo) (hl : lo ≤ wn.heap.size) (r1 : wn.ownsRow lo 67 4 (.slice a1 E.xs.length c1) E.xs.length (is E.xs)) (r2 : wn.ownsRow lo 95 3 (.slice a2 E.hs.length c2) E.hs.length (hs E.hs)) (r3 : wn.ownsRow lo 9 1 (.slice a3 E.rs.length c3) E.rs.length (ss E.rs)) : Got U C E T (.pointer (some ⟨B, 0, none⟩)) (((((((((((((((wn.setCell ⟨B, 0, none⟩ (.int .i64 C)).setCell ⟨B, 1, none⟩ (.int .i64 E.num)).setCell ⟨B, 2, none⟩ (.bool E.up)).setCell ⟨B, 3, none⟩ (.int .i64 E.life)).setCell ⟨B, 4, none⟩ (.int .i64 E.peer)).setCell ⟨B, 5, none⟩ (.int .i64 E.since)).setCell ⟨B, 6, none⟩ (.bool E.owes)).setCell ⟨B, 7, none⟩ (.int .i64 E.b)).setCell ⟨B, 8, none⟩ (.slice a1 E.xs.length c1)).setCell ⟨B, 9, none⟩ (.int .i64 E.nx)).setCell ⟨B, 10, none⟩ (.slice a2 E.hs.length c2)).setCell ⟨B, 11, none⟩ (.string E.o)).setCell ⟨B, 12, none⟩ (.slice a3 E.rs.length c3)).setCell ⟨B, 13, none⟩ (.slice none 0 0)).setCell ⟨B, 14, none⟩ (.string T)) := by
  have n1 : (Value.slice a1 E.xs.length c1).ownBlock ≠ some B := fun q => by have := (r1.lt B q).1; omega
  have n2 : (Value.slice a2 E.hs.length c2).ownBlock ≠ some B := fun q => by have := (r2.lt B q).1; omega
  have n3 : (Value.slice a3 E.rs.length c3).ownBlock ≠ some B := fun q => by have := (r3.lt B q).1; omega
  refine ⟨B, lo, wn.heap.size, a1, c1, a2, c2, a3, c3, rfl, bx15 ZB (.int .i64 C) (.int .i64 E.num) (.bool E.up) (.int .i64 E.life) (.int .i64 E.peer) (.int .i64 E.since) (.bool E.owes) (.int .i64 E.b) (.slice a1 E.xs.length c1) (.int .i64 E.nx) (.slice a2 E.hs.length c2) (.string E.o) (.slice a3 E.rs.length c3) (.slice none 0 0) (.string T), ⟨⟨own15n r1 B n1 (.int .i64 C) (.int .i64 E.num) (.bool E.up) (.int .i64 E.life) (.int .i64 E.peer) (.int .i64 E.since) (.bool E.owes) (.int .i64 E.b) (.slice a1 E.xs.length c1) (.int .i64 E.nx) (.slice a2 E.hs.length c2) (.string E.o) (.slice a3 E.rs.length c3) (.slice none 0 0) (.string T), fun r q => (r1.lt r q).2⟩, ⟨own15n r2 B n2 (.int .i64 C) (.int .i64 E.num) (.bool E.up) (.int .i64 E.life) (.int .i64 E.peer) (.int .i64 E.since) (.bool E.owes) (.int .i64 E.b) (.slice a1 E.xs.length c1) (.int .i64 E.nx) (.slice a2 E.hs.length c2) (.string E.o) (.slice a3 E.rs.length c3) (.slice none 0 0) (.string T), fun r q => (r2.lt r q).2⟩, ⟨own15n r3 B n3 (.int .i64 C) (.int .i64 E.num) (.bool E.up) (.int .i64 E.life) (.int .i64 E.peer) (.int .i64 E.since) (.bool E.owes) (.int .i64 E.b) (.slice a1 E.xs.length c1) (.int .i64 E.nx) (.slice a2 E.hs.length c2) (.string E.o) (.slice a3 E.rs.length c3) (.slice none 0 0) (.string T), fun r q => (r3.lt r q).2⟩⟩, .inl hBl, hlo, by simpa using hl, by simp, below15 hb B lB (.int .i64 C) (.int .i64 E.num) (.bool E.up) (.int .i64 E.life) (.int .i64 E.peer) (.int .i64 E.since) (.bool E.owes) (.int .i64 E.b) (.slice a1 E.xs.length c1) (.int .i64 E.nx) (.slice a2 E.hs.length c2) (.string E.o) (.slice a3 E.rs.length c3) (.slice none 0 0) (.string T), lB⟩
theorem Ex.cells9 {u : World} {B : Nat} {c0 c1 c2 c3 c4 c5 c6 c7 c8 : Value} (h : Ex u B #[c0, c1, c2, c3, c4, c5, c6, c7, c8]) : u.cell? ⟨B, 0, none⟩ = some c0 ∧ u.cell? ⟨B, 1, none⟩ = some c1 ∧ u.cell? ⟨B, 2, none⟩ = some c2 ∧ u.cell? ⟨B, 3, none⟩ = some c3 ∧ u.cell? ⟨B, 4, none⟩ = some c4 ∧ u.cell? ⟨B, 5, none⟩ = some c5 ∧ u.cell? ⟨B, 6, none⟩ = some c6 ∧ u.cell? ⟨B, 7, none⟩ = some c7 ∧ u.cell? ⟨B, 8, none⟩ = some c8 :=
  ⟨h.cell 0, h.cell 1, h.cell 2, h.cell 3, h.cell 4, h.cell 5, h.cell 6, h.cell 7, h.cell 8⟩
theorem szPacket_z (k f m y nxt msk sq : Int) (l : Bool) (p : ByteArray) (z : Int) (w : World) (hs : p.size ≤ maxLen) (hz : 0 ≤ z ∧ z ≤ 1048576) :
    Calls Tryz.prog 14 #[.agg #[.int .i64 k, .int .i64 f, .int .i64 m, .int .i64 y, .int .i64 nxt, .int .i64 msk, .int .i64 sq, .bool l, .string p], .int .i64 z] w fun e w' => e = .returned (.int .i64 (if z < p.size then -1 else z - p.size)) ∧ Below w.heap.size w w' := by
  have hs' : (p.size : Int) ≤ 9223372036854775807 := by unfold maxLen at hs; omega
  by_cases h : z < p.size
  · rw [if_pos h]
    go_enter Tryz.func14, Tryz.ntmps14
    go_wp2
    go_ret
    exact ⟨rfl, (Below.refl _ _).alloc (Nat.le_refl _) _⟩
  · rw [if_neg h]
    go_enter Tryz.func14, Tryz.ntmps14
    go_wp2
    go_ret
    exact ⟨rfl, (Below.refl _ _).alloc (Nat.le_refl _) _⟩
end Go.Proofs.YthjncmgjkejikaaGreat.mk
/-
  AN ARGUMENT THAT IS A PACKET, OPENED: its nine cells.
-/
namespace Go.Proofs.YthjncmgjkejikaaGreat.opened
open Go.ChangeShapes Go.WideShapes Go.ChangeAt Go.RowKit

theorem array9 {α : Type} {cs : Array α} (h : cs.size = 9) : ∃ c0 c1 c2 c3 c4 c5 c6 c7 c8, cs = #[c0, c1, c2, c3, c4, c5, c6, c7, c8] := by
  obtain ⟨l⟩ := cs
  match l, h with
  | [c0, c1, c2, c3, c4, c5, c6, c7, c8], _ => exact ⟨c0, c1, c2, c3, c4, c5, c6, c7, c8, rfl⟩
theorem cellsInt : Tryz.prog.cellsOf 3 = 1 := by kernel_rfl
theorem cellsBool : Tryz.prog.cellsOf 4 = 1 := by kernel_rfl
theorem cellsString : Tryz.prog.cellsOf 9 = 1 := by kernel_rfl
theorem cellsPacket : Tryz.prog.cellsOf 51 = 9 := by kernel_rfl
theorem get_of_len {α : Type} {xs : List α} {n i : Nat} (h : xs.length = n) (hi : i < n) : ∃ y, xs[i]? = some y := by
  subst h
  exact ⟨xs[i], by simp [hi]⟩
set_option maxRecDepth 100000 in
theorem packet {H : Type} {enc : TypeId × Value → H} {W : World} {base : Nat} {spare : Nat → Bool} {held : Bool} {r : Reach} {b0 : Nat} {v : Value} {d : DataW H} {p : List MemPlace}
    (hv : Value.okWide Tryz.prog W r b0 51 v) (h : DataW.Trod enc Tryz.prog W base spare held 51 v d p) :
    ∃ (k f m y nx mk sq : Int) (l : Bool) (s : ByteArray), v = .agg #[.int .i64 k, .int .i64 f, .int .i64 m, .int .i64 y, .int .i64 nx, .int .i64 mk, .int .i64 sq, .bool l, .string s] ∧ s.size ≤ maxLen := by
  obtain ⟨cs, rfl, hsz⟩ := okWide_struct Tryz.underlying51 hv
  obtain ⟨c0, c1, c2, c3, c4, c5, c6, c7, c8, rfl⟩ := array9 (hsz.trans cellsPacket)
  obtain ⟨fuel, hf⟩ := h
  obtain ⟨xs, n, _, hx, hl, hlen, hff⟩ := DataW.trod_struct Tryz.underlying51 hf
  have hg : ∀ i, i < 9 → ∃ y, xs[i]? = some y := fun i hi => get_of_len hlen hi
  obtain ⟨y0, g0⟩ := hg 0 (by omega)
  obtain ⟨y1, g1⟩ := hg 1 (by omega)
  obtain ⟨y2, g2⟩ := hg 2 (by omega)
  obtain ⟨y3, g3⟩ := hg 3 (by omega)
  obtain ⟨y4, g4⟩ := hg 4 (by omega)
  obtain ⟨y5, g5⟩ := hg 5 (by omega)
  obtain ⟨y6, g6⟩ := hg 6 (by omega)
  obtain ⟨y7, g7⟩ := hg 7 (by omega)
  obtain ⟨y8, g8⟩ := hg 8 (by omega)
  obtain ⟨n0, e0, -⟩ := DataW.trod_int Tryz.underlying3 ((hff 0 _ rfl).trans g0)
  obtain ⟨n1, e1, -⟩ := DataW.trod_int Tryz.underlying3 ((hff 1 _ rfl).trans g1)
  obtain ⟨n2, e2, -⟩ := DataW.trod_int Tryz.underlying3 ((hff 2 _ rfl).trans g2)
  obtain ⟨n3, e3, -⟩ := DataW.trod_int Tryz.underlying3 ((hff 3 _ rfl).trans g3)
  obtain ⟨n4, e4, -⟩ := DataW.trod_int Tryz.underlying3 ((hff 4 _ rfl).trans g4)
  obtain ⟨n5, e5, -⟩ := DataW.trod_int Tryz.underlying3 ((hff 5 _ rfl).trans g5)
  obtain ⟨n6, e6, -⟩ := DataW.trod_int Tryz.underlying3 ((hff 6 _ rfl).trans g6)
  obtain ⟨n7, e7, -⟩ := DataW.trod_bool Tryz.underlying4 ((hff 7 _ rfl).trans g7)
  obtain ⟨n8, e8, -, hm⟩ := DataW.trod_string Tryz.underlying9 ((hff 8 _ rfl).trans g8)
  simp [Value.cells, cellsInt, cellsBool, cellsString] at e0 e1 e2 e3 e4 e5 e6 e7 e8
  subst e0 e1 e2 e3 e4 e5 e6 e7 e8
  exact ⟨n0, n1, n2, n3, n4, n5, n6, n7, n8, rfl, hm⟩
end Go.Proofs.YthjncmgjkejikaaGreat.opened

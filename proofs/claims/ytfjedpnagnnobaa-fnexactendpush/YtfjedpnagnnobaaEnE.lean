/-
  AN END: its data, its comparison.
-/
import Derived.Test.YtfjedpnagnnobaaItA
import Derived.Test.YtfjedpnagnnobaaTkA
namespace Go.Proofs.Ytfjedpnagnnobaa.mk
open Go.RowKit
set_option linter.unusedVariables false

/-- an end's data -/
structure En where
  num : Int
  up : Bool
  life : Int
  peer : Int
  since : Int
  owes : Bool
  b : Int
  xs : List It
  nx : Int
  hs : List Hd
  o : ByteArray
  rs : List ByteArray
def En.cells (e : En) (a h r : Value) : Array Value := #[.int .i64 e.num, .bool e.up, .int .i64 e.life, .int .i64 e.peer, .int .i64 e.since, .bool e.owes, .int .i64 e.b, a, .int .i64 e.nx, h, .string e.o, r]
def En.val (e : En) (a h r : Value) : Value := .agg (e.cells a h r)
/-- an end that is to be read -/
structure Re (w : World) (e : En) (ao ho so : Option Addr) : Prop where
  send : Rs w ao e.xs.length (is e.xs)
  take : Rt w ho so e.hs e.rs
theorem Re.keep {w w' : World} {e : En} {ao ho so : Option Addr} (h : Re w e ao ho so) (hb : Below w.heap.size w w') : Re w' e ao ho so := ⟨h.send.keep hb, h.take.keep hb⟩
/-- a box -/
def Ex (u : World) (B : Nat) (cs : Array Value) : Prop := ∃ t, u.heap[B]? = some (.cells cs t (0, 0))
theorem Ex.lt {u : World} {B : Nat} {cs : Array Value} (h : Ex u B cs) : B < u.heap.size := by
  obtain ⟨t, h⟩ := h
  exact (Array.getElem?_eq_some_iff.1 h).1
theorem Ex.keep {u u' : World} {B : Nat} {cs : Array Value} (h : Ex u B cs) (hb : Below u.heap.size u u') : Ex u' B cs := by
  have := h.lt
  obtain ⟨t, h⟩ := h
  exact ⟨t, (hb.block B this).trans h⟩
theorem Ex.new (u : World) (t : TypeId) (cs : Array Value) : Ex (u.alloc (.cells cs t)) u.heap.size cs := ⟨t, heap_alloc_new u _⟩
theorem Ex.alloc {u : World} {B : Nat} {cs : Array Value} (h : Ex u B cs) (o : Obj) : Ex (u.alloc o) B cs := h.keep ((Below.refl _ _).alloc (Nat.le_refl _) _)
theorem Ex.cell {u : World} {B : Nat} {cs : Array Value} (h : Ex u B cs) (j : Nat) : u.cell? ⟨B, j, none⟩ = cs[j]? := by
  obtain ⟨t, h⟩ := h
  simp [World.cell?, h]
theorem Ex.cells {u : World} {B : Nat} {c0 c1 c2 c3 c4 c5 c6 c7 c8 c9 c10 c11 : Value} (h : Ex u B #[c0, c1, c2, c3, c4, c5, c6, c7, c8, c9, c10, c11]) : u.cell? ⟨B, 0, none⟩ = some c0 ∧ u.cell? ⟨B, 1, none⟩ = some c1 ∧ u.cell? ⟨B, 2, none⟩ = some c2 ∧ u.cell? ⟨B, 3, none⟩ = some c3 ∧ u.cell? ⟨B, 4, none⟩ = some c4 ∧ u.cell? ⟨B, 5, none⟩ = some c5 ∧ u.cell? ⟨B, 6, none⟩ = some c6 ∧ u.cell? ⟨B, 7, none⟩ = some c7 ∧ u.cell? ⟨B, 8, none⟩ = some c8 ∧ u.cell? ⟨B, 9, none⟩ = some c9 ∧ u.cell? ⟨B, 10, none⟩ = some c10 ∧ u.cell? ⟨B, 11, none⟩ = some c11 :=
  ⟨h.cell 0, h.cell 1, h.cell 2, h.cell 3, h.cell 4, h.cell 5, h.cell 6, h.cell 7, h.cell 8, h.cell 9, h.cell 10, h.cell 11⟩
theorem eqEnd_same (e : En) (ao ho so bo io to : Option Addr) (ci ch cs di dh ds : Nat) (w : World) (hl1 : e.xs.length ≤ 1000000000) (hl2 : e.hs.length ≤ 1000000000) (hl3 : e.rs.length ≤ 1000000000) (ha : Re w e ao ho so) (hb : Re w e bo io to) :
    Calls Try.prog 9 #[.agg #[.int .i64 e.num, .bool e.up, .int .i64 e.life, .int .i64 e.peer, .int .i64 e.since, .bool e.owes, .int .i64 e.b, .slice ao e.xs.length ci, .int .i64 e.nx, .slice ho e.hs.length ch, .string e.o, .slice so e.rs.length cs], .agg #[.int .i64 e.num, .bool e.up, .int .i64 e.life, .int .i64 e.peer, .int .i64 e.since, .bool e.owes, .int .i64 e.b, .slice bo e.xs.length di, .int .i64 e.nx, .slice io e.hs.length dh, .string e.o, .slice to e.rs.length ds]] w fun e' w' => e' = .returned (.bool true) ∧ Below w.heap.size w w' := by
  have HA : Hid (Re w e ao ho so) := ha
  have HB : Hid (Re w e bo io to) := hb
  clear ha hb
  have b0 : ∀ (o p : Obj), Below w.heap.size w ((w.alloc o).alloc p) := fun o p => ((Below.refl _ _).alloc (Nat.le_refl _) _).alloc (by simp) _
  have HB0 : Hid (∀ (o p : Obj), Below w.heap.size w ((w.alloc o).alloc p)) := b0
  clear b0
  go_enter Try.func9, Try.ntmps9
  go_wp2_with (first
    | (go_at_call 26; refine (eqSend_same e.b _ _ _ _ e.xs _ hl1 (HA.out.send.keep (HB0.out _ _)) (HB.out.send.keep (HB0.out _ _))).mono ?_; rintro e' w1 ⟨rfl, hb1⟩; (have c8 := hb1.cell (p := ⟨w.heap.size, 8, none⟩) (by simp; omega)); (have d8 := hb1.cell (p := ⟨w.heap.size + 1, 8, none⟩) (by simp)); (have c9 := hb1.cell (p := ⟨w.heap.size, 9, none⟩) (by simp; omega)); (have d9 := hb1.cell (p := ⟨w.heap.size + 1, 9, none⟩) (by simp)); (have c10 := hb1.cell (p := ⟨w.heap.size, 10, none⟩) (by simp; omega)); (have d10 := hb1.cell (p := ⟨w.heap.size + 1, 10, none⟩) (by simp)); (have c11 := hb1.cell (p := ⟨w.heap.size, 11, none⟩) (by simp; omega)); (have d11 := hb1.cell (p := ⟨w.heap.size + 1, 11, none⟩) (by simp)); simp [go_sem] at c8 c9 c10 c11 d8 d9 d10 d11)
    | (go_at_call 27; refine (eqTake_same e.nx _ _ _ _ _ _ _ _ e.hs e.o e.rs _ hl2 hl3 ((HA.out.take.keep (HB0.out _ _)).keep hb1) ((HB.out.take.keep (HB0.out _ _)).keep hb1)).mono ?_; rintro e' w2 ⟨rfl, hb2⟩)
    | fail)
  go_ret
  exact ⟨rfl, kb (kb (HB0.out _ _) hb1 (Nat.le_refl _)) hb2 (Nat.le_refl _)⟩
/-- an end that has no rows, held against itself -/
theorem eqEnd_none (num : Int) (up : Bool) (life peer since : Int) (owes : Bool) (b nx : Int) (o : ByteArray) (w : World) :
    Calls Try.prog 9 #[.agg #[.int .i64 num, .bool up, .int .i64 life, .int .i64 peer, .int .i64 since, .bool owes, .int .i64 b, .slice none 0 0, .int .i64 nx, .slice none 0 0, .string o, .slice none 0 0], .agg #[.int .i64 num, .bool up, .int .i64 life, .int .i64 peer, .int .i64 since, .bool owes, .int .i64 b, .slice none 0 0, .int .i64 nx, .slice none 0 0, .string o, .slice none 0 0]] w fun e' w' => e' = .returned (.bool true) ∧ Below w.heap.size w w' :=
  eqEnd_same ⟨num, up, life, peer, since, owes, b, [], nx, [], o, []⟩ none none none none none none 0 0 0 0 0 0 w (by simp) (by simp) (by simp) ⟨⟨.inl rfl⟩, ⟨⟨.inl rfl⟩, ⟨.inl rfl⟩⟩⟩ ⟨⟨.inl rfl⟩, ⟨⟨.inl rfl⟩, ⟨.inl rfl⟩⟩⟩
end Go.Proofs.Ytfjedpnagnnobaa.mk

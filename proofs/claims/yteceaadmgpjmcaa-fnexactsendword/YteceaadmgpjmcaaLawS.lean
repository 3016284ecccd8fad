/-
  WHAT LIES in the midst of a law on a Send: four boxes, their rows.
-/
import Derived.Test.YteceaadmgpjmcaaMkN
namespace Go.Proofs.Yteceaadmgpjmcaa.mk
open Go.RowKit
set_option linter.unusedVariables false

structure TS (w u : World) (A W X G b2 b3 : Nat) (b B : Int) (av wv xv gv wn gn : Value) (ny nx nz : Nat) (wc xc gc wk gk : List Value) : Prop where
  arg : Bx u A 47 #[.int .i64 b, av]
  wb : Bx u W 38 #[.int .i64 B, wv]
  xb : Bx u X 38 #[.int .i64 b, xv]
  gb : Bx u G 38 #[.int .i64 B, gv]
  wi : u.ownsRow w.heap.size 87 4 wv ny wc
  xi : u.ownsRow b2 87 4 xv nx xc
  gi : u.ownsRow b3 87 4 gv ny gc
  wk : u.ownsRow w.heap.size 3 1 wn nz wk
  gk : u.ownsRow b3 3 1 gn nz gk
  bel : Below w.heap.size w u
  lw : ∀ k, wv.ownBlock = some k → k < b2
  lx : ∀ k, xv.ownBlock = some k → k < b3
  lk : ∀ k, wn.ownBlock = some k → k < b2
  b1 : w.heap.size ≤ b2
  b23 : b2 ≤ b3
  le3 : b3 ≤ u.heap.size
theorem TS.keep {w u u' : World} {A W X G b2 b3 : Nat} {b B : Int} {av wv xv gv wn gn : Value} {ny nx nz : Nat} {wc xc gc wk gk : List Value} (h : TS w u A W X G b2 b3 b B av wv xv gv wn gn ny nx nz wc xc gc wk gk) (hb : Below u.heap.size u u') : TS w u' A W X G b2 b3 b B av wv xv gv wn gn ny nx nz wc xc gc wk gk :=
  ⟨h.arg.keep hb, h.wb.keep hb, h.xb.keep hb, h.gb.keep hb, owns_keep h.wi hb, owns_keep h.xi hb, owns_keep h.gi hb, owns_keep h.wk hb, owns_keep h.gk hb, kb h.bel hb (Nat.le_refl _), h.lw, h.lx, h.lk, h.b1, h.b23, Nat.le_trans h.le3 hb.size⟩
theorem TS.markX {w u u' : World} {A W X G b2 b3 : Nat} {b B : Int} {av wv xv gv wn gn : Value} {ny nx nz : Nat} {wc xc gc wk gk : List Value} {xc' : List Value} (h : TS w u A W X G b2 b3 b B av wv xv gv wn gn ny nx nz wc xc gc wk gk) (hg : u.grownBy u' xv.ownBlock) (ho : u'.ownsRow b2 87 4 xv nx xc') : TS w u' A W X G b2 b3 b B av wv xv gv wn gn ny nx nz wc xc' gc wk gk :=
  ⟨h.arg.kept hg (h.arg.ne (by decide) h.xi), h.wb.kept hg (h.wb.ne (by decide) h.xi), h.xb.kept hg (h.xb.ne (by decide) h.xi), h.gb.kept hg (h.gb.ne (by decide) h.xi),
   h.wi.kept hg (rows_lt h.lw (fun k hk => (h.xi.lt k hk).1)), ho, h.gi.kept hg (by
     cases e : gv.ownBlock with
     | none => exact .inl rfl
     | some k => exact .inr (fun e2 => by have := (h.gi.lt k e).1; have := h.lx k e2.symm; omega)), h.wk.kept hg (rows_ne h.wk h.xi (by decide)), h.gk.kept hg (rows_ne h.gk h.xi (by decide)),
   h.bel.grown hg h.bel.size (fun k hk => Nat.le_trans h.b1 (h.xi.lt k hk).1), h.lw, h.lx, h.lk, h.b1, h.b23, Nat.le_trans h.le3 hg.size⟩
theorem TS.markG {w u u' : World} {A W X G b2 b3 : Nat} {b B : Int} {av wv xv gv wn gn : Value} {ny nx nz : Nat} {wc xc gc wk gk : List Value} {gc' : List Value} (h : TS w u A W X G b2 b3 b B av wv xv gv wn gn ny nx nz wc xc gc wk gk) (hg : u.grownBy u' gv.ownBlock) (ho : u'.ownsRow b3 87 4 gv ny gc') : TS w u' A W X G b2 b3 b B av wv xv gv wn gn ny nx nz wc xc gc' wk gk :=
  ⟨h.arg.kept hg (h.arg.ne (by decide) h.gi), h.wb.kept hg (h.wb.ne (by decide) h.gi), h.xb.kept hg (h.xb.ne (by decide) h.gi), h.gb.kept hg (h.gb.ne (by decide) h.gi),
   h.wi.kept hg (rows_lt (B := b3) (fun k hk => Nat.lt_of_lt_of_le (h.lw k hk) h.b23) (fun k hk => (h.gi.lt k hk).1)), h.xi.kept hg (rows_lt h.lx (fun k hk => (h.gi.lt k hk).1)), ho, h.wk.kept hg (rows_ne h.wk h.gi (by decide)), h.gk.kept hg (rows_ne h.gk h.gi (by decide)),
   h.bel.grown hg h.bel.size (fun k hk => Nat.le_trans (Nat.le_trans h.b1 h.b23) (h.gi.lt k hk).1), h.lw, h.lx, h.lk, h.b1, h.b23, Nat.le_trans h.le3 hg.size⟩
theorem TS.markN {w u u' : World} {A W X G b2 b3 : Nat} {b B : Int} {av wv xv gv wn gn : Value} {ny nx nz : Nat} {wc xc gc wk gk : List Value} {gk' : List Value} (h : TS w u A W X G b2 b3 b B av wv xv gv wn gn ny nx nz wc xc gc wk gk) (hg : u.grownBy u' gn.ownBlock) (ho : u'.ownsRow b3 3 1 gn nz gk') : TS w u' A W X G b2 b3 b B av wv xv gv wn gn ny nx nz wc xc gc wk gk' :=
  ⟨h.arg.kept hg (h.arg.ne (by decide) h.gk), h.wb.kept hg (h.wb.ne (by decide) h.gk), h.xb.kept hg (h.xb.ne (by decide) h.gk), h.gb.kept hg (h.gb.ne (by decide) h.gk),
   h.wi.kept hg (rows_ne h.wi h.gk (by decide)), h.xi.kept hg (rows_ne h.xi h.gk (by decide)), h.gi.kept hg (rows_ne h.gi h.gk (by decide)), h.wk.kept hg (rows_lt (B := b3) (fun k hk => Nat.lt_of_lt_of_le (h.lk k hk) h.b23) (fun k hk => (h.gk.lt k hk).1)), ho,
   h.bel.grown hg h.bel.size (fun k hk => Nat.le_trans (Nat.le_trans h.b1 h.b23) (h.gk.lt k hk).1), h.lw, h.lx, h.lk, h.b1, h.b23, Nat.le_trans h.le3 hg.size⟩
theorem TS.cells {w u : World} {A W X G b2 b3 : Nat} {b B : Int} {av wv xv gv wn gn : Value} {ny nx nz : Nat} {wc xc gc wk gk : List Value} (h : TS w u A W X G b2 b3 b B av wv xv gv wn gn ny nx nz wc xc gc wk gk) : u.cell? ⟨A, 0, none⟩ = some (.int .i64 b) ∧ u.cell? ⟨A, 1, none⟩ = some av ∧ u.cell? ⟨W, 0, none⟩ = some (.int .i64 B) ∧ u.cell? ⟨W, 1, none⟩ = some wv ∧ u.cell? ⟨X, 0, none⟩ = some (.int .i64 b) ∧ u.cell? ⟨X, 1, none⟩ = some xv ∧ u.cell? ⟨G, 0, none⟩ = some (.int .i64 B) ∧ u.cell? ⟨G, 1, none⟩ = some gv :=
  ⟨h.arg.cell 0, h.arg.cell 1, h.wb.cell 0, h.wb.cell 1, h.xb.cell 0, h.xb.cell 1, h.gb.cell 0, h.gb.cell 1⟩
theorem TS.xle {w u : World} {A W X G b2 b3 : Nat} {b B : Int} {av wv xv gv wn gn : Value} {ny nx nz : Nat} {wc xc gc wk gk : List Value} (h : TS w u A W X G b2 b3 b B av wv xv gv wn gn ny nx nz wc xc gc wk gk) : b2 ≤ u.heap.size := Nat.le_trans h.b23 h.le3
theorem TS.gle {w u : World} {A W X G b2 b3 : Nat} {b B : Int} {av wv xv gv wn gn : Value} {ny nx nz : Nat} {wc xc gc wk gk : List Value} (h : TS w u A W X G b2 b3 b B av wv xv gv wn gn ny nx nz wc xc gc wk gk) : b3 ≤ u.heap.size := h.le3
theorem Bx.cells {u : World} {A : Nat} {t : TypeId} {x y : Value} (h : Bx u A t #[x, y]) : u.cell? ⟨A, 0, none⟩ = some x ∧ u.cell? ⟨A, 1, none⟩ = some y := ⟨h.cell 0, h.cell 1⟩
theorem TS.start {w w3 w4 w5 : World} {A base3 : Nat} {b B : Int} {av wv xv gv wn gn : Value} {ny nx nz : Nat} {wc xc gc wk gk : List Value} (hb3 : Below w.heap.size w w3) (arg : Bx w3 A 47 #[.int .i64 b, av]) (wi : w3.ownsRow base3 87 4 wv ny wc) (wk' : w3.ownsRow base3 3 1 wn nz wk) (h3 : w.heap.size ≤ base3)
    (hb4 : Below (w3.alloc (.cells #[.int .i64 B, wv] 38)).heap.size (w3.alloc (.cells #[.int .i64 B, wv] 38)) w4) (xi : w4.ownsRow (w3.alloc (.cells #[.int .i64 B, wv] 38)).heap.size 87 4 xv nx xc) (hb5 : Below (w4.alloc (.cells #[.int .i64 b, xv] 38)).heap.size (w4.alloc (.cells #[.int .i64 b, xv] 38)) w5) (gi : w5.ownsRow (w4.alloc (.cells #[.int .i64 b, xv] 38)).heap.size 87 4 gv ny gc) (gk' : w5.ownsRow (w4.alloc (.cells #[.int .i64 b, xv] 38)).heap.size 3 1 gn nz gk) :
    TS w (w5.alloc (.cells #[.int .i64 B, gv] 38)) A w3.heap.size w4.heap.size w5.heap.size (w3.alloc (.cells #[.int .i64 B, wv] 38)).heap.size (w4.alloc (.cells #[.int .i64 b, xv] 38)).heap.size b B av wv xv gv wn gn ny nx nz wc xc gc wk gk := by
  have s4 := hb4.size
  have s5 := hb5.size
  have s3 := hb3.size
  refine ⟨((((arg.alloc _).keep hb4).alloc _).keep hb5).alloc _, ((((Bx.new w3 _ _).keep hb4).alloc _).keep hb5).alloc _, ((Bx.new w4 _ _).keep hb5).alloc _, Bx.new w5 _ _, owns_mono ((owns_keep ((owns_keep (wi.alloc _) hb4).alloc _) hb5).alloc _) h3, (owns_keep (xi.alloc _) hb5).alloc _, gi.alloc _, owns_mono ((owns_keep ((owns_keep (wk'.alloc _) hb4).alloc _) hb5).alloc _) h3, gk'.alloc _, ?_, ?_, ?_, ?_, ?_, ?_, ?_⟩
  · exact ((kb ((kb (hb3.alloc s3 _) hb4 (Nat.le_refl _)).alloc (Nat.le_trans s3 (by simp only [World.size_alloc] at s4 ⊢; omega)) _) hb5 (Nat.le_refl _))).alloc (by simp only [World.size_alloc] at s4 s5 ⊢; omega) _
  · intro k hk; have := (wi.lt k hk).2; simp only [World.size_alloc]; omega
  · intro k hk; have := (xi.lt k hk).2; simp only [World.size_alloc]; omega
  · intro k hk; have := (wk'.lt k hk).2; simp only [World.size_alloc]; omega
  · simp only [World.size_alloc]; omega
  · simp only [World.size_alloc] at s4 ⊢; omega
  · simp only [World.size_alloc] at s5 ⊢; omega
end Go.Proofs.Yteceaadmgpjmcaa.mk

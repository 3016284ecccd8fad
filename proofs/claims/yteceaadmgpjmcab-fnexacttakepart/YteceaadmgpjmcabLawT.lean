/-
  WHILE A LAW ON TAKES RUNS: what stands behind the mark of the argument.
-/
import Derived.Test.YteceaadmgpjmcabMarks
import Derived.Test.YteceaadmgpjmcabBase
namespace Go.Proofs.Yteceaadmgpjmcab.mk
open Go.RowKit
set_option linter.unusedVariables false

theorem apart {v : Value} {row : Option Nat} (h : ∀ r, v.ownBlock = some r → row ≠ some r) : v.ownBlock = none ∨ v.ownBlock ≠ row := by
  cases e : v.ownBlock with
  | none => exact .inl rfl
  | some r => exact .inr (fun q => h r e q.symm)
structure TG (w u : World) (A P W G b6 b7 bw : Nat) (tA tP : TypeId) (acs pcs wcs gcs : Array Value) (hw rw hg rg : Value) (n m : Nat) (cw dw cg dg : List Value) : Prop where
  bel : Below w.heap.size w u
  a : Bx u A tA acs
  p : Bx u P tP pcs
  wb : Bx u W 32 wcs
  gb : Bx u G 32 gcs
  ohw : u.ownsRow bw 46 3 hw n cw
  orw : u.ownsRow bw 9 1 rw m dw
  ohg : u.ownsRow b7 46 3 hg n cg
  org : u.ownsRow b7 9 1 rg m dg
  la : A < b6
  lp : P < b6
  lw : W < b6
  lhw : ∀ r, hw.ownBlock = some r → r < b6
  lrw : ∀ r, rw.ownBlock = some r → r < b6
  l67 : b6 ≤ b7
  l7g : b7 ≤ G
  lbs : w.heap.size ≤ b6
theorem TG.keep {w u u' : World} {A P W G b6 b7 bw : Nat} {tA tP : TypeId} {acs pcs wcs gcs : Array Value} {hw rw hg rg : Value} {n m : Nat} {cw dw cg dg : List Value} (h : TG w u A P W G b6 b7 bw tA tP acs pcs wcs gcs hw rw hg rg n m cw dw cg dg) (hb : Below u.heap.size u u') : TG w u' A P W G b6 b7 bw tA tP acs pcs wcs gcs hw rw hg rg n m cw dw cg dg :=
  ⟨kb h.bel hb (Nat.le_refl _), h.a.keep hb, h.p.keep hb, h.wb.keep hb, h.gb.keep hb, owns_keep h.ohw hb, owns_keep h.orw hb, owns_keep h.ohg hb, owns_keep h.org hb, h.la, h.lp, h.lw, h.lhw, h.lrw, h.l67, h.l7g, h.lbs⟩
theorem TG.turn {w u u' : World} {A P W G b6 b7 bw : Nat} {tA tP : TypeId} {acs pcs wcs gcs : Array Value} {hw rw hg rg : Value} {n m : Nat} {cw dw cg dg : List Value} {row : Option Nat} (h : TG w u A P W G b6 b7 bw tA tP acs pcs wcs gcs hw rw hg rg n m cw dw cg dg) (hg' : u.grownBy u' row) (hr : ∀ r, row = some r → b6 ≤ r ∧ r < b7) : TG w u' A P W G b6 b7 bw tA tP acs pcs wcs gcs hw rw hg rg n m cw dw cg dg := by
  have ne : ∀ B, (B < b6 ∨ b7 ≤ B) → some B ≠ row := fun B hB e => by have := hr B e.symm; omega
  have l1 := h.la; have l2 := h.lp; have l3 := h.lw; have l4 := h.l7g
  exact ⟨h.bel.grown hg' h.bel.size (fun r e => Nat.le_trans h.lbs (hr r e).1), h.a.kept hg' (ne A (.inl l1)), h.p.kept hg' (ne P (.inl l2)), h.wb.kept hg' (ne W (.inl l3)), h.gb.kept hg' (ne G (.inr l4)),
    h.ohw.kept hg' (apart fun r e q => ne r (.inl (h.lhw r e)) q.symm), h.orw.kept hg' (apart fun r e q => ne r (.inl (h.lrw r e)) q.symm), h.ohg.kept hg' (apart fun r e q => ne r (.inr (h.ohg.lt r e).1) q.symm), h.org.kept hg' (apart fun r e q => ne r (.inr (h.org.lt r e).1) q.symm),
    h.la, h.lp, h.lw, h.lhw, h.lrw, h.l67, h.l7g, h.lbs⟩
theorem TG.turnB {w u u' : World} {A P W G b6 b7 bw : Nat} {tA tP : TypeId} {acs pcs wcs gcs : Array Value} {hw rw hg rg : Value} {n m : Nat} {cw dw cg dg : List Value} {um : World} {cg' dg' : List Value} (h : TG w u A P W G b6 b7 bw tA tP acs pcs wcs gcs hw rw hg rg n m cw dw cg dg) (g1 : u.grownBy um hg.ownBlock) (g2 : um.grownBy u' rg.ownBlock) (ho : u'.ownsRow b7 46 3 hg n cg') (hr : u'.ownsRow b7 9 1 rg m dg') : TG w u' A P W G b6 b7 bw tA tP acs pcs wcs gcs hw rw hg rg n m cw dw cg' dg' := by
  have ne1 : ∀ B, B < b6 → some B ≠ hg.ownBlock := fun B hB e => by have := (h.ohg.lt B e.symm).1; have := h.l67; omega
  have ne2 : ∀ B, B < b6 → some B ≠ rg.ownBlock := fun B hB e => by have := (h.org.lt B e.symm).1; have := h.l67; omega
  have l1 := h.la; have l2 := h.lp; have l3 := h.lw
  have hgb := h.gb.kept g1 (h.gb.ne (by decide) h.ohg)
  have hrm := h.org.kept g1 (rows_ne6 h.org h.ohg (by decide))
  have hbm := h.bel.grown g1 h.bel.size (fun r e => Nat.le_trans h.lbs (Nat.le_trans h.l67 (h.ohg.lt r e).1))
  exact ⟨hbm.grown g2 hbm.size (fun r e => Nat.le_trans h.lbs (Nat.le_trans h.l67 (h.org.lt r e).1)), (h.a.kept g1 (ne1 A l1)).kept g2 (ne2 A l1), (h.p.kept g1 (ne1 P l2)).kept g2 (ne2 P l2), (h.wb.kept g1 (ne1 W l3)).kept g2 (ne2 W l3), hgb.kept g2 (hgb.ne (by decide) hrm),
    (h.ohw.kept g1 (apart fun r e q => ne1 r (h.lhw r e) q.symm)).kept g2 (apart fun r e q => ne2 r (h.lhw r e) q.symm), (h.orw.kept g1 (apart fun r e q => ne1 r (h.lrw r e) q.symm)).kept g2 (apart fun r e q => ne2 r (h.lrw r e) q.symm), ho, hr,
    h.la, h.lp, h.lw, h.lhw, h.lrw, h.l67, h.l7g, h.lbs⟩
theorem markTake_one (base base' : Nat) (z : Int) (hv v : Value) (o : ByteArray) (n m : Nat) (xs ys : List Value) (w : World) (hn : n ≤ 2000000) (hm : m ≤ 2000000) (h1 : w.ownsRow base 46 3 hv n xs) (h2 : w.ownsRow base' 9 1 v m ys) (K : Nat) (hK : K = 1 + n * 3 + m) :
    Calls Try.prog 11 #[.agg #[.int .i64 z, hv, .string o, v], .int .i64 1] w fun e w' => e = .returned (.int .i64 (K : Int)) ∧ (∃ cs, w'.ownsRow base 46 3 hv n cs ∧ Mh 1 n cs) ∧ (∃ ts, w'.ownsRow base' 9 1 v m ts ∧ Ms (1 + n * 3) m ts) ∧ ∃ wm, w.grownBy wm hv.ownBlock ∧ wm.grownBy w' v.ownBlock := by
  rw [hK]
  exact markTake_any base base' z hv v o n m 1 xs ys w (by omega) (by omega) hn hm h1 h2
theorem heldTake_one (base base' : Nat) (z : Int) (hv v : Value) (o : ByteArray) (n m : Nat) (xs ys : List Value) (w : World) (hn : n ≤ 2000000) (hm : m ≤ 2000000) (h1 : w.ownsRow base 46 3 hv n xs) (h2 : w.ownsRow base' 9 1 v m ys) (M1 : Mh 1 n xs) (M2 : Ms (1 + n * 3) m ys) (K : Nat) (hK : K = 1 + n * 3 + m) :
    Calls Try.prog 12 #[.agg #[.int .i64 z, hv, .string o, v], .int .i64 1] w fun e w' => e = .returned (.int .i64 (K : Int)) ∧ Below w.heap.size w w' := by
  rw [hK]
  exact heldTake_any base base' z hv v o n m 1 xs ys w (by omega) (by omega) hn hm h1 h2 M1 M2
theorem Bx.cells4 {u : World} {B : Nat} {t : TypeId} {a b c d : Value} (h : Bx u B t #[a, b, c, d]) : u.cell? ⟨B, 0, none⟩ = some a ∧ u.cell? ⟨B, 1, none⟩ = some b ∧ u.cell? ⟨B, 2, none⟩ = some c ∧ u.cell? ⟨B, 3, none⟩ = some d := ⟨h.cell 0, h.cell 1, h.cell 2, h.cell 3⟩
theorem Bx.cells2 {u : World} {B : Nat} {t : TypeId} {a b : Value} (h : Bx u B t #[a, b]) : u.cell? ⟨B, 0, none⟩ = some a ∧ u.cell? ⟨B, 1, none⟩ = some b := ⟨h.cell 0, h.cell 1⟩
end Go.Proofs.Yteceaadmgpjmcab.mk

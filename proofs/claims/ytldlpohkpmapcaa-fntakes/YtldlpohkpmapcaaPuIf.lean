/-
  impl.TakePull, of any row.
-/
import Derived.Test.YtldlpohkpmapcaaPuI
import Derived.Test.YtldlpohkpmapcaaVTkf
import Derived.Test.YtldlpohkpmapcaaRgCf
namespace Go.Proofs.Ytldlpohkpmapcaa.mp
open Go.RowKit mk
set_option linter.unusedVariables false

set_option maxRecDepth 100000 in
set_option maxHeartbeats 2000000 in
theorem implPullf_yes (nx : Nat) (ao so : Option Addr) (ca cs : Nat) (xs : List Hd) (o : ByteArray) (rs : List ByteArray) (w : World) (hn : xs.length ≤ 1048576) (ht : ∀ i (h : i < xs.length), xs[i].text.size ≤ 1048576) (ho : o.size ≤ 1048576) (hk : rs.length ≤ 1048576) (hz : ∀ i (h : i < rs.length), rs[i].size ≤ 1048576) (hr : mk.f.Rq w ao so xs rs) (hv : tkOk (nx : Int) xs o rs = true) :
    Calls Try.prog 7 #[.agg #[.int .i64 (nx : Int), .slice ao xs.length ca, .string o, .slice so rs.length cs]] w fun e w' => PullPost w (pullT nx xs o rs) (pullS rs) (pullB rs) e w' := by
  have hok := tkOk_of hv
  have HC : Hid (∀ u : World, mk.f.Rq u ao so xs rs → Calls Try.prog 9 #[.agg #[.int .i64 (nx : Int), .slice ao xs.length ca, .string o, .slice so rs.length cs]] u fun e w' => e = .returned (.bool true) ∧ Below u.heap.size u w') := fun u h => by have := mk.f.implValidTake_any (nx : Int) ao so ca cs xs o rs u hn ht ho hk hz h; rw [hv] at this; exact this
  have B0 : Hid (Below w.heap.size w ((w.alloc (.cells #[.int .i64 (nx : Int), .slice ao xs.length ca, .string o, .slice so rs.length cs] 30)).alloc (.cells #[.int .i64 0, .slice none 0 0, .string ⟨#[]⟩, .slice none 0 0] 30))) := ((Below.refl _ _).alloc (Nat.le_refl _) _).alloc (by simp) _
  have R0 : Hid (mk.f.Rq ((w.alloc (.cells #[.int .i64 (nx : Int), .slice ao xs.length ca, .string o, .slice so rs.length cs] 30)).alloc (.cells #[.int .i64 0, .slice none 0 0, .string ⟨#[]⟩, .slice none 0 0] 30)) ao so xs rs) := hr.keep B0.out
  have A0 : Hid (Bx ((w.alloc (.cells #[.int .i64 (nx : Int), .slice ao xs.length ca, .string o, .slice so rs.length cs] 30)).alloc (.cells #[.int .i64 0, .slice none 0 0, .string ⟨#[]⟩, .slice none 0 0] 30)) w.heap.size 30 #[.int .i64 (nx : Int), .slice ao xs.length ca, .string o, .slice so rs.length cs]) := (Bx.new w _ _).alloc _
  have X0 : Hid (Bx ((w.alloc (.cells #[.int .i64 (nx : Int), .slice ao xs.length ca, .string o, .slice so rs.length cs] 30)).alloc (.cells #[.int .i64 0, .slice none 0 0, .string ⟨#[]⟩, .slice none 0 0] 30)) (w.heap.size + 1) 30 #[.int .i64 0, .slice none 0 0, .string ⟨#[]⟩, .slice none 0 0]) := (by have := Bx.new (w.alloc (.cells #[.int .i64 (nx : Int), .slice ao xs.length ca, .string o, .slice so rs.length cs] 30)) 30 #[.int .i64 0, .slice none 0 0, .string ⟨#[]⟩, .slice none 0 0]; rw [World.size_alloc] at this; exact this : Bx ((w.alloc (.cells #[.int .i64 (nx : Int), .slice ao xs.length ca, .string o, .slice so rs.length cs] 30)).alloc (.cells #[.int .i64 0, .slice none 0 0, .string ⟨#[]⟩, .slice none 0 0] 30)) (w.heap.size + 1) 30 #[.int .i64 0, .slice none 0 0, .string ⟨#[]⟩, .slice none 0 0])
  have HI : Hid (∀ u : World, mk.f.Rq u ao so xs rs → Calls Try.prog 18 #[.agg #[.int .i64 (nx : Int), .slice ao xs.length ca, .string o, .slice so rs.length cs]] u fun e w' => (∃ R ds v, e = .returned (.pointer (some ⟨R, 0, none⟩)) ∧ mk.It5 u.heap.size R nx xs o rs ds v w') ∧ Below u.heap.size u w') := fun u h => (mk.f.intakeOf_any nx ao so ca cs xs o rs u hok h).mono fun e w' hp => by
    obtain ⟨⟨R, ds, v, he, h1, h2, h3⟩, hb⟩ := hp
    exact ⟨⟨R, ds, v, he, it5_of hok h1 h2 h3⟩, hb⟩
  obtain ⟨m, zs, p, ts, hT⟩ : ∃ m zs p ts, pullT nx xs o rs = (m, zs, p, ts) := ⟨_, _, _, _, rfl⟩
  have HPU : Hid (∀ (base R : Nat) (ds : List Value) (v : Value) (u : World), mk.It5 base R nx xs o rs ds v u → base ≤ u.heap.size → Calls Try.prog 19 #[.pointer (some ⟨R, 0, none⟩)] u fun x w' => (∃ ds' v', x = .returned (.tuple #[.string (pullS rs), .bool (pullB rs)]) ∧ It5 base R m zs p ts ds' v' w') ∧ Below base u w') := fun base R ds v u h hb => by have := pull_any base R nx xs o rs ds v u h hb; rw [hT] at this; exact this
  rw [hT]
  generalize pullS rs = s at HPU ⊢
  generalize pullB rs = b at HPU ⊢
  clear ht hz hr hv hok hT
  go_enter Try.func7, Try.ntmps7
  go_wp2_with (first
    | (go_at_call 9; refine (HC.out _ R0.out).mono ?_; rintro e w1 ⟨rfl, hb1⟩; (have a1 := A0.out.keep hb1); (have d0 := a1.cell 0); (have d1 := a1.cell 1); (have d2 := a1.cell 2); (have d3 := a1.cell 3); simp at d0 d1 d2 d3)
    | (go_at_call 18; refine (HI.out _ (R0.out.keep hb1)).mono ?_; rintro e w2 ⟨⟨R, ds, v, rfl, hI2⟩, hb2⟩; (have hR2 := hI2.ring.lt))
    | (go_at_call 19; refine (HPU.out _ R ds v _ hI2 hb2.size).mono ?_; rintro e w4 ⟨⟨ds4, v4, rfl, hI4⟩, hb4⟩)
    | (go_at_call 20; refine (take_any _ R m zs p ts ds4 v4 _ hI4 (Nat.le_trans hb2.size hb4.size)).mono ?_; rintro e w5 ⟨⟨hv5, rfl, ho5⟩, hb5⟩; (obtain ⟨ao5, c5, rfl, -, -, -⟩ := rs_of_owns ho5); (obtain ⟨ao4, c4, rfl, -, -, -⟩ := hI4.row.slice); (have s1 := hb1.size); (simp only [World.size_alloc] at s1); (have X2 := (X0.out.keep hb1).keep hb2); (have X4 : Bx w4 (w.heap.size + 1) 30 #[.int .i64 0, .slice none 0 0, .string ⟨#[]⟩, .slice none 0 0] := (hb4.block (w.heap.size + 1) (by omega)).trans X2); (have X5 := X4.keep hb5); (have z0 := X5.cell 0); (have z1 := X5.cell 1); (have z2 := X5.cell 2); (have z3 := X5.cell 3); simp at z0 z1 z2 z3; (have f0 := X5.frozen 0); (have f1 := X5.frozen 1); (have f2 := X5.frozen 2); (have f3 := X5.frozen 3))
    | fail)
  have B2 := kb (kb B0.out hb1 (Nat.le_refl _)) hb2 (Nat.le_refl _)
  have B4 := B2.trans (hb4.mono (by omega))
  have B5 := kb B4 hb5 (Nat.le_refl _)
  have s4 := hb4.size
  have s2 := hb2.size
  have P4 := (ownsRow_setCell_below (ownsRow_setCell_below (ownsRow_setCell_below (ownsRow_setCell_below ho5 (a := ⟨w.heap.size + 1, 0, none⟩) (by show w.heap.size + 1 < _; omega) (.int .i64 (m : Int))) (a := ⟨w.heap.size + 1, 1, none⟩) (by show w.heap.size + 1 < _; omega) (.slice ao5 zs.length c5)) (a := ⟨w.heap.size + 1, 2, none⟩) (by show w.heap.size + 1 < _; omega) (.string p)) (a := ⟨w.heap.size + 1, 3, none⟩) (by show w.heap.size + 1 < _; omega) (.slice ao4 ts.length c4))
  have Q4 := (Orw.below (Orw.below (Orw.below (Orw.below (hI4.row.keep hb5) (a := ⟨w.heap.size + 1, 0, none⟩) (by show w.heap.size + 1 < _; omega) (.int .i64 (m : Int))) (a := ⟨w.heap.size + 1, 1, none⟩) (by show w.heap.size + 1 < _; omega) (.slice ao5 zs.length c5)) (a := ⟨w.heap.size + 1, 2, none⟩) (by show w.heap.size + 1 < _; omega) (.string p)) (a := ⟨w.heap.size + 1, 3, none⟩) (by show w.heap.size + 1 < _; omega) (.slice ao4 ts.length c4))
  refine bodyPost_ret (v := .tuple #[.agg #[.int .i64 (m : Int), .slice ao5 zs.length c5, .string p, .slice ao4 ts.length c4], .string s, .bool b]) (by simp [results, Try.results7, go_sem, z0, z1, z2, z3]) rfl ?_
  exact ⟨⟨_, _, rfl, owns_mono3 P4 (by omega), Q4.mono (by omega)⟩, ((((B5.setCell (p := ⟨w.heap.size + 1, 0, none⟩) (by show w.heap.size ≤ w.heap.size + 1; omega) (.int .i64 (m : Int))).setCell (p := ⟨w.heap.size + 1, 1, none⟩) (by show w.heap.size ≤ w.heap.size + 1; omega) (.slice ao5 zs.length c5)).setCell (p := ⟨w.heap.size + 1, 2, none⟩) (by show w.heap.size ≤ w.heap.size + 1; omega) (.string p)).setCell (p := ⟨w.heap.size + 1, 3, none⟩) (by show w.heap.size ≤ w.heap.size + 1; omega) (.slice ao4 ts.length c4))⟩
end Go.Proofs.Ytldlpohkpmapcaa.mp

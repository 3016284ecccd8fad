/-
  TWELVE TICKS: what the law keeps.
-/
import Derived.Test.YtfeknhopjgpbfaaSlP
import Derived.Test.YtfeknhopjgpbfaaTickC
namespace Go.Proofs.Ytfeknhopjgpbfaa.mk
open Go.RowKit
set_option linter.unusedVariables false

theorem ns_at (l : List Int) (p : Nat) (h : p < l.length) : (ns l)[p]? = some (.int .i64 (l[p]?.getD 0)) := by
  unfold ns
  rw [List.getElem?_map, List.getElem?_eq_getElem h]
  rfl
theorem ns_set (l : List Int) (p : Nat) (v : Int) : (ns l).set p (.int .i64 v) = ns (l.set p v) := by
  unfold ns
  rw [List.map_set]
/-- the two counts' rows, the Send at y -/
structure Lo (w0 w : World) (gT gL y : Nat) (T L : List Int) (b : Int) (a : Option Addr) (c : Nat) (zs : List It) : Prop where
  low : Below w0.heap.size w0 w
  tr : w.ownsRow w0.heap.size 3 1 (.slice (some ⟨gT, 0, none⟩) 8 8) 8 (ns T)
  lr : w.ownsRow w0.heap.size 3 1 (.slice (some ⟨gL, 0, none⟩) 8 8) 8 (ns L)
  ne : gT ≠ gL
  lt : w0.heap.size ≤ y
  bx : Bx w y 25 #[.int .i64 b, .slice a zs.length c]
  row : w.ownsRow w0.heap.size 37 4 (.slice a zs.length c) zs.length (is zs)
theorem Lo.keep {w0 w : World} {gT gL y : Nat} {T L : List Int} {b : Int} {a : Option Addr} {c : Nat} {zs : List It} {w' : World} (h : Lo w0 w gT gL y T L b a c zs) (hb : Below w.heap.size w w') : Lo w0 w' gT gL y T L b a c zs :=
  ⟨kb h.low hb (Nat.le_refl _), owns_keep h.tr hb, owns_keep h.lr hb, h.ne, h.lt, h.bx.keep hb, owns_keep h.row hb⟩
theorem Lo.rs {w0 w : World} {gT gL y : Nat} {T L : List Int} {b : Int} {a : Option Addr} {c : Nat} {zs : List It} (h : Lo w0 w gT gL y T L b a c zs) : Rs w a zs.length (is zs) := by
  obtain ⟨ao', cap', e, _, _, hr⟩ := rs_of_owns h.row
  cases e
  exact hr
theorem ne_int {w : World} {base base' : Nat} {g n c m : Nat} {v : Value} {xs ys : List Value} (h : w.ownsRow base 3 1 (.slice (some ⟨g, 0, none⟩) n c) n xs) (h' : w.ownsRow base' 37 4 v m ys) : v.ownBlock ≠ some g := by
  rcases rows_ne h' h (by decide) with e | e
  · rw [e]; simp
  · exact e
theorem Lo.setT {w0 w : World} {gT gL y : Nat} {T L : List Int} {b : Int} {a : Option Addr} {c : Nat} {zs : List It} (h : Lo w0 w gT gL y T L b a c zs) (p : Nat) (v : Int) : Lo w0 (w.setCell ⟨gT, p, none⟩ (.int .i64 v)) gT gL y (T.set p v) L b a c zs := by
  have hg := (h.tr.lt gT rfl).1
  have ny : y ≠ gT := fun e => h.bx.ne (by decide) h.tr (by rw [e]; rfl)
  refine ⟨h.low.setCell (p := ⟨gT, p, none⟩) hg _, ?_, ownsRow_setCell_other h.lr (a := ⟨gT, p, none⟩) (by simp [Value.ownBlock]; exact fun e => h.ne e.symm) _, h.ne, h.lt, h.bx.other ⟨gT, p, none⟩ ny _, ownsRow_setCell_other h.row (a := ⟨gT, p, none⟩) (ne_int h.tr h.row) _⟩
  rw [← ns_set]
  exact (h.tr.stored p _).1
theorem Lo.setL {w0 w : World} {gT gL y : Nat} {T L : List Int} {b : Int} {a : Option Addr} {c : Nat} {zs : List It} (h : Lo w0 w gT gL y T L b a c zs) (p : Nat) (v : Int) : Lo w0 (w.setCell ⟨gL, p, none⟩ (.int .i64 v)) gT gL y T (L.set p v) b a c zs := by
  have hg := (h.lr.lt gL rfl).1
  have ny : y ≠ gL := fun e => h.bx.ne (by decide) h.lr (by rw [e]; rfl)
  refine ⟨h.low.setCell (p := ⟨gL, p, none⟩) hg _, ownsRow_setCell_other h.tr (a := ⟨gL, p, none⟩) (by simp [Value.ownBlock]; exact h.ne) _, ?_, h.ne, h.lt, h.bx.other ⟨gL, p, none⟩ ny _, ownsRow_setCell_other h.row (a := ⟨gL, p, none⟩) (ne_int h.lr h.row) _⟩
  rw [← ns_set]
  exact (h.lr.stored p _).1
/-- another Send is stored at y -/
theorem Lo.store {w0 w : World} {gT gL y : Nat} {T L : List Int} {b : Int} {a : Option Addr} {c : Nat} {zs : List It} (h : Lo w0 w gT gL y T L b a c zs) (b' : Int) (a' : Option Addr) (c' : Nat) (vs : List It) (hrow : w.ownsRow w0.heap.size 37 4 (.slice a' vs.length c') vs.length (is vs)) :
    Lo w0 ((w.setCell ⟨y, 0, none⟩ (.int .i64 b')).setCell ⟨y, 1, none⟩ (.slice a' vs.length c')) gT gL y T L b' a' c' vs := by
  have hx := (h.bx.put 0 (.int .i64 b')).put 1 (.slice a' vs.length c')
  simp only [List.setIfInBounds_toArray, List.set_cons_zero, List.set_cons_succ] at hx
  have nT : (Value.slice (some ⟨gT, 0, none⟩) 8 8).ownBlock ≠ some y := fun e => h.bx.ne (by decide) h.tr e.symm
  have nL : (Value.slice (some ⟨gL, 0, none⟩) 8 8).ownBlock ≠ some y := fun e => h.bx.ne (by decide) h.lr e.symm
  have nr : (Value.slice a' vs.length c').ownBlock ≠ some y := fun e => h.bx.ne (by decide) hrow e.symm
  exact ⟨(h.low.setCell (p := ⟨y, 0, none⟩) h.lt _).setCell (p := ⟨y, 1, none⟩) h.lt _, ownsRow_setCell_other (ownsRow_setCell_other h.tr (a := ⟨y, 0, none⟩) nT _) (a := ⟨y, 1, none⟩) nT _, ownsRow_setCell_other (ownsRow_setCell_other h.lr (a := ⟨y, 0, none⟩) nL _) (a := ⟨y, 1, none⟩) nL _, h.ne, h.lt, hx, ownsRow_setCell_other (ownsRow_setCell_other hrow (a := ⟨y, 0, none⟩) nr _) (a := ⟨y, 1, none⟩) nr _⟩
/-- and the next Send at y2, the numbers that were sent -/
structure Ls (w0 w : World) (gT gL y : Nat) (T L : List Int) (b : Int) (a : Option Addr) (c : Nat) (zs : List It) (y2 : Nat) (a2 : Option Addr) (c2 : Nat) (vs : List It) (a3 : Option Addr) (c3 : Nat) (S : List Int) : Prop where
  lo : Lo w0 w gT gL y T L b a c zs
  bx : Bx w y2 25 #[.int .i64 b, .slice a2 zs.length c2]
  row : w.ownsRow w0.heap.size 37 4 (.slice a2 zs.length c2) zs.length (is vs)
  sent : ∃ N, gT < N ∧ gL < N ∧ w.ownsRow N 3 1 (.slice a3 S.length c3) S.length (ns S)
theorem Ls.keep {w0 w : World} {gT gL y : Nat} {T L : List Int} {b : Int} {a : Option Addr} {c : Nat} {zs : List It} {y2 : Nat} {a2 : Option Addr} {c2 : Nat} {vs : List It} {a3 : Option Addr} {c3 : Nat} {S : List Int} {w' : World} (h : Ls w0 w gT gL y T L b a c zs y2 a2 c2 vs a3 c3 S) (hb : Below w.heap.size w w') : Ls w0 w' gT gL y T L b a c zs y2 a2 c2 vs a3 c3 S := by
  obtain ⟨N, h1, h2, h3⟩ := h.sent
  exact ⟨h.lo.keep hb, h.bx.keep hb, owns_keep h.row hb, N, h1, h2, owns_keep h3 hb⟩
theorem Ls.setT {w0 w : World} {gT gL y : Nat} {T L : List Int} {b : Int} {a : Option Addr} {c : Nat} {zs : List It} {y2 : Nat} {a2 : Option Addr} {c2 : Nat} {vs : List It} {a3 : Option Addr} {c3 : Nat} {S : List Int} (h : Ls w0 w gT gL y T L b a c zs y2 a2 c2 vs a3 c3 S) (p : Nat) (v : Int) : Ls w0 (w.setCell ⟨gT, p, none⟩ (.int .i64 v)) gT gL y (T.set p v) L b a c zs y2 a2 c2 vs a3 c3 S := by
  obtain ⟨N, h1, h2, h3⟩ := h.sent
  have ny : y2 ≠ gT := fun e => h.bx.ne (by decide) h.lo.tr (by rw [e]; rfl)
  exact ⟨h.lo.setT p v, h.bx.other ⟨gT, p, none⟩ ny _, ownsRow_setCell_other h.row (a := ⟨gT, p, none⟩) (ne_int h.lo.tr h.row) _, N, h1, h2, ownsRow_setCell_other h3 (a := ⟨gT, p, none⟩) (fun e => by have := (h3.lt gT e).1; omega) _⟩
theorem Ls.setL {w0 w : World} {gT gL y : Nat} {T L : List Int} {b : Int} {a : Option Addr} {c : Nat} {zs : List It} {y2 : Nat} {a2 : Option Addr} {c2 : Nat} {vs : List It} {a3 : Option Addr} {c3 : Nat} {S : List Int} (h : Ls w0 w gT gL y T L b a c zs y2 a2 c2 vs a3 c3 S) (p : Nat) (v : Int) : Ls w0 (w.setCell ⟨gL, p, none⟩ (.int .i64 v)) gT gL y T (L.set p v) b a c zs y2 a2 c2 vs a3 c3 S := by
  obtain ⟨N, h1, h2, h3⟩ := h.sent
  have ny : y2 ≠ gL := fun e => h.bx.ne (by decide) h.lo.lr (by rw [e]; rfl)
  exact ⟨h.lo.setL p v, h.bx.other ⟨gL, p, none⟩ ny _, ownsRow_setCell_other h.row (a := ⟨gL, p, none⟩) (ne_int h.lo.lr h.row) _, N, h1, h2, ownsRow_setCell_other h3 (a := ⟨gL, p, none⟩) (fun e => by have := (h3.lt gL e).1; omega) _⟩
theorem Lo.cells {w0 w : World} {gT gL y : Nat} {T L : List Int} {b : Int} {a : Option Addr} {c : Nat} {zs : List It} (h : Lo w0 w gT gL y T L b a c zs) : w.cell? ⟨y, 0, none⟩ = some (.int .i64 b) ∧ w.cell? ⟨y, 1, none⟩ = some (.slice a zs.length c) ∧ w.frozen? ⟨y, 0, none⟩ = false ∧ w.frozen? ⟨y, 1, none⟩ = false ∧ y < w.heap.size :=
  ⟨h.bx.cell 0, h.bx.cell 1, h.bx.frozen 0, h.bx.frozen 1, h.bx.lt⟩
theorem Ls.cells {w0 w : World} {gT gL y : Nat} {T L : List Int} {b : Int} {a : Option Addr} {c : Nat} {zs : List It} {y2 : Nat} {a2 : Option Addr} {c2 : Nat} {vs : List It} {a3 : Option Addr} {c3 : Nat} {S : List Int} (h : Ls w0 w gT gL y T L b a c zs y2 a2 c2 vs a3 c3 S) : w.cell? ⟨y2, 0, none⟩ = some (.int .i64 b) ∧ w.cell? ⟨y2, 1, none⟩ = some (.slice a2 zs.length c2) ∧ y2 < w.heap.size :=
  ⟨h.bx.cell 0, h.bx.cell 1, h.bx.lt⟩
theorem Lo.at {w0 w : World} {gT gL y : Nat} {T L : List Int} {b : Int} {a : Option Addr} {c : Nat} {zs : List It} (h : Lo w0 w gT gL y T L b a c zs) (hT : T.length = 8) (hL : L.length = 8) (p : Nat) (hp : p < 8) : w.cell? ⟨gT, p, none⟩ = some (.int .i64 (T[p]?.getD 0)) ∧ w.cell? ⟨gL, p, none⟩ = some (.int .i64 (L[p]?.getD 0)) ∧ w.frozen? ⟨gT, p, none⟩ = false ∧ w.frozen? ⟨gL, p, none⟩ = false ∧ gT < w.heap.size ∧ gL < w.heap.size :=
  ⟨(h.tr.cellAt p (by omega)).trans (ns_at T p (by omega)), (h.lr.cellAt p (by omega)).trans (ns_at L p (by omega)), h.tr.frozenAt p, h.lr.frozenAt p, (h.tr.lt gT rfl).2, (h.lr.lt gL rfl).2⟩
theorem Lo.item {w0 w : World} {gT gL y : Nat} {T L : List Int} {b : Int} {a : Option Addr} {c : Nat} {zs : List It} (h : Lo w0 w gT gL y T L b a c zs) (p : Nat) (hp : p < zs.length) : ∃ g, a = some ⟨g, 0, none⟩ ∧ g < w.heap.size ∧ w.cell? ⟨g, p * 4 + 2, none⟩ = some (.bool zs[p].has) := by
  rcases h.rs.ex with e | ⟨g, e, hg, hc⟩
  · omega
  · have hl := is_length zs
    exact ⟨g, e, hg, (hc (p * 4 + 2) (by omega)).trans (is_at zs p hp).2.2.1⟩
theorem Ls.num {w0 w : World} {gT gL y : Nat} {T L : List Int} {b : Int} {a : Option Addr} {c : Nat} {zs : List It} {y2 : Nat} {a2 : Option Addr} {c2 : Nat} {vs : List It} {a3 : Option Addr} {c3 : Nat} {S : List Int} (h : Ls w0 w gT gL y T L b a c zs y2 a2 c2 vs a3 c3 S) (k : Nat) (hk : k < S.length) : ∃ g, a3 = some ⟨g, 0, none⟩ ∧ g < w.heap.size ∧ ∀ j (hj : j < S.length), w.cell? ⟨g, j, none⟩ = some (.int .i64 S[j]) := by
  obtain ⟨N, _, _, h3⟩ := h.sent
  obtain ⟨ao', cap', e, _, _, hr⟩ := rs_of_owns h3
  cases e
  rcases hr.ex with e | ⟨g, e, hg, hc⟩
  · omega
  · exact ⟨g, e, hg, fun j hj => (hc j (by rw [ns_length]; exact hj)).trans (by unfold ns; rw [List.getElem?_map, List.getElem?_eq_getElem hj]; rfl)⟩
theorem Lo.store2 {w0 w : World} {gT gL y : Nat} {T L : List Int} {b : Int} {a : Option Addr} {c : Nat} {zs : List It} (h : Lo w0 w gT gL y T L b a c zs) (b' : Int) (a' : Option Addr) (c' n : Nat) (vs : List It) (hn : vs.length = n) (hrow : w.ownsRow w0.heap.size 37 4 (.slice a' n c') n (is vs)) :
    Lo w0 ((w.setCell ⟨y, 0, none⟩ (.int .i64 b')).setCell ⟨y, 1, none⟩ (.slice a' n c')) gT gL y T L b' a' c' vs := by
  subst hn
  exact h.store b' a' c' vs hrow
theorem Lo.start {w0 w : World} {y : Nat} {b : Int} {a : Option Addr} {c : Nat} {zs : List It} (hl : Below w0.heap.size w0 w) (hy : w0.heap.size ≤ y) (hx : Bx w y 25 #[.int .i64 b, .slice a zs.length c]) (hr : w.ownsRow w0.heap.size 37 4 (.slice a zs.length c) zs.length (is zs)) :
    Lo w0 ((w.alloc (.cells #[.int .i64 0, .int .i64 0, .int .i64 0, .int .i64 0, .int .i64 0, .int .i64 0, .int .i64 0, .int .i64 0] 3)).alloc (.cells #[.int .i64 0, .int .i64 0, .int .i64 0, .int .i64 0, .int .i64 0, .int .i64 0, .int .i64 0, .int .i64 0] 3)) w.heap.size (w.heap.size + 1) y [0, 0, 0, 0, 0, 0, 0, 0] [0, 0, 0, 0, 0, 0, 0, 0] b a c zs := by
  have hs := hl.size
  have hT := (World.ownsRow_lit (base := w0.heap.size) (e := 3) (size := 1) w #[.int .i64 0, .int .i64 0, .int .i64 0, .int .i64 0, .int .i64 0, .int .i64 0, .int .i64 0, .int .i64 0] 8 hs (by decide) rfl).alloc (.cells #[.int .i64 0, .int .i64 0, .int .i64 0, .int .i64 0, .int .i64 0, .int .i64 0, .int .i64 0, .int .i64 0] 3)
  have hL := World.ownsRow_lit (base := w0.heap.size) (e := 3) (size := 1) (w.alloc (.cells #[.int .i64 0, .int .i64 0, .int .i64 0, .int .i64 0, .int .i64 0, .int .i64 0, .int .i64 0, .int .i64 0] 3)) #[.int .i64 0, .int .i64 0, .int .i64 0, .int .i64 0, .int .i64 0, .int .i64 0, .int .i64 0, .int .i64 0] 8 (by simp; omega) (by decide) rfl
  rw [World.size_alloc] at hL
  exact ⟨(hl.alloc hs _).alloc (by simp; omega) _, hT, hL, by omega, hy, (hx.alloc _).alloc _, (hr.alloc _).alloc _⟩
/-- what a tick gives of a Send that is valid -/
theorem tick_yes (b : Nat) (a : Option Addr) (c : Nat) (vs : List It) (u : World) (hv : sdOk (b : Int) vs = true) (hr : Rs u a vs.length (is vs)) :
    Calls Try.prog 9 #[.agg #[.int .i64 (b : Int), .slice a vs.length c]] u fun e w' => (∃ a1 c1 a2 c2, e = .returned (.tuple #[.agg #[.int .i64 (b : Int), .slice a1 vs.length c1], .slice a2 (snt b vs (min 8 vs.length)).length c2]) ∧ w'.ownsRow u.heap.size 37 4 (.slice a1 vs.length c1) vs.length (is (tkn (min 8 vs.length) vs)) ∧ w'.ownsRow u.heap.size 3 1 (.slice a2 (snt b vs (min 8 vs.length)).length c2) (snt b vs (min 8 vs.length)).length (ns (snt b vs (min 8 vs.length)))) ∧ Below u.heap.size u w' := by
  have hk := wk_ok hv
  have h := implTick_any (b : Int) a c vs u hk.big.1 hk.big.2 hr
  have e : tickOf (b : Int) vs = ((b : Int), tkn (min 8 vs.length) vs, snt b vs (min 8 vs.length)) := by unfold tickOf; rw [hv]; simp
  unfold TickPost at h
  rw [e] at h
  dsimp only at h
  rw [tkn_length] at h
  exact h
theorem valid_yes (b : Nat) (a : Option Addr) (c n : Nat) (vs : List It) (u : World) (hn : vs.length = n) (hv : sdOk (b : Int) vs = true) (hr : Rs u a n (is vs)) :
    Calls Try.prog 10 #[.agg #[.int .i64 (b : Int), .slice a n c]] u fun e w' => e = .returned (.bool true) ∧ Below u.heap.size u w' := by
  subst hn
  have hk := wk_ok hv
  have h := implValid_any (b : Int) a c vs u hk.big.1 hk.big.2 hr
  rw [hv] at h
  exact h
theorem Ls.start {w0 w w6 w8 : World} {gT gL y : Nat} {T L : List Int} {b : Int} {a : Option Addr} {c : Nat} {zs : List It} {a2 : Option Addr} {c2 : Nat} {vs : List It} {a3 : Option Addr} {c3 : Nat} {S : List Int} (h : Lo w0 w gT gL y T L b a c zs) (hb : Below w.heap.size w w6)
    (h2 : w6.ownsRow w.heap.size 37 4 (.slice a2 zs.length c2) zs.length (is vs)) (h3 : w6.ownsRow w.heap.size 3 1 (.slice a3 S.length c3) S.length (ns S)) (hb8 : Below (w6.alloc (.cells #[.int .i64 b, .slice a2 zs.length c2] 25)).heap.size (w6.alloc (.cells #[.int .i64 b, .slice a2 zs.length c2] 25)) w8) :
    Ls w0 w8 gT gL y T L b a c zs w6.heap.size a2 c2 vs a3 c3 S := by
  have hT := (h.tr.lt gT rfl).2
  have hL := (h.lr.lt gL rfl).2
  have ha : Below w6.heap.size w6 (w6.alloc (.cells #[.int .i64 b, .slice a2 zs.length c2] 25)) := (Below.refl _ _).alloc (Nat.le_refl _) _
  exact ⟨((h.keep hb).keep ha).keep hb8, (Bx.new w6 _ _).keep hb8, owns_keep (owns_mono (h2.alloc _) h.low.size) hb8, w.heap.size, hT, hL, owns_keep (h3.alloc _) hb8⟩
end Go.Proofs.Ytfeknhopjgpbfaa.mk

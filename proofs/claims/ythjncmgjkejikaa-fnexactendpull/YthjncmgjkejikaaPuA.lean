/-
  PULLING A MESSAGE: what it gives; spec.TakePull.
-/
import Derived.Test.YthjncmgjkejikaaOsA
import Derived.Test.YthjncmgjkejikaaLiA
import Derived.Test.YthjncmgjkejikaaRgJ0
namespace Go.Proofs.Ythjncmgjkejikaa.mk
open Go.RowKit
set_option linter.unusedVariables false

theorem Orw.below {base : Nat} {v : Value} {n : Nat} {xs : List Value} {w : World} (h : Orw base v n xs w) {a : Addr} (ha : a.block < base) (u : Value) : Orw base v n xs (w.setCell a u) := h.other (fun e => by have := (h.lt _ e).1; omega) u
/-- an intake's data once the first message is taken -/
def pullT (nx : Nat) (xs : List Hd) (o : ByteArray) (rs : List ByteArray) : Nat × List Hd × ByteArray × List ByteArray := if rs.length = 0 then (nx, xs, o, rs) else tin xs nx o (rs.drop 1)
def pullS (rs : List ByteArray) : ByteArray := rs[0]?.getD ⟨#[]⟩
def pullB (rs : List ByteArray) : Bool := !decide (rs.length = 0)
noncomputable def pullOf (nx : Int) (xs : List Hd) (o : ByteArray) (rs : List ByteArray) : Nat × List Hd × ByteArray × List ByteArray := if tkOk nx xs o rs = true then pullT nx.toNat xs o rs else (0, [], ⟨#[]⟩, [])
noncomputable def pulledS (nx : Int) (xs : List Hd) (o : ByteArray) (rs : List ByteArray) : ByteArray := if tkOk nx xs o rs = true then pullS rs else ⟨#[]⟩
noncomputable def pulledB (nx : Int) (xs : List Hd) (o : ByteArray) (rs : List ByteArray) : Bool := if tkOk nx xs o rs = true then pullB rs else false
/-- an answer: a take with this data, a message, whether there was one -/
def PullPost (w : World) (T : Nat × List Hd × ByteArray × List ByteArray) (s : ByteArray) (b : Bool) (e : Ending) (w' : World) : Prop :=
  (∃ hv rv, e = .returned (.tuple #[.agg #[.int .i64 (T.1 : Int), hv, .string T.2.2.1, rv], .string s, .bool b]) ∧ w'.ownsRow w.heap.size 107 3 hv T.2.1.length (hs T.2.1) ∧ Orw w.heap.size rv T.2.2.2.length (ss T.2.2.2) w') ∧ Below w.heap.size w w'
theorem ss_drop1 (rs : List ByteArray) : ss (rs.drop 1) = (ss rs).drop 1 := by
  cases rs with
  | nil => rfl
  | cons x ys => rfl
theorem sdrop_cells {w : World} {base g n cap : Nat} {e : TypeId} {rs : List ByteArray} (h : w.ownsRow base e 1 (.slice (some ⟨g, 0, none⟩) n cap) n (ss rs)) : ∀ j u, (ss (rs.drop 1))[j]? = some u → w.cell? ((⟨g, 1, none⟩ : Addr).add j) = some u := by
  intro j u hj
  rw [ss_drop1, List.getElem?_drop] at hj
  have hl : 1 + j < (ss rs).length := by
    rcases Nat.lt_or_ge (1 + j) (ss rs).length with q | q
    · exact q
    · rw [List.getElem?_eq_none q] at hj; simp at hj
  have ea : (⟨g, 1, none⟩ : Addr).add j = ⟨g, 1 + j, none⟩ := by unfold Addr.add; split <;> simp_all
  rw [ea, h.cellAt (1 + j) (by rw [← h.1]; exact hl), hj]
set_option maxHeartbeats 1000000 in
theorem specPull_no (nx : Int) (ao so : Option Addr) (ca cs : Nat) (xs : List Hd) (o : ByteArray) (rs : List ByteArray) (w : World) (hn : xs.length ≤ 1048576) (ht : ∀ i (h : i < xs.length), xs[i].text.size ≤ 1048576) (ho : o.size ≤ 1048576) (hk : rs.length ≤ 1048576) (hz : ∀ i (h : i < rs.length), rs[i].size ≤ 1048576) (hr : Rt w ao so xs rs) (hv : tkOk nx xs o rs = false) :
    Calls Try.prog 8 #[.agg #[.int .i64 nx, .slice ao xs.length ca, .string o, .slice so rs.length cs]] w fun e w' => PullPost w (0, [], ⟨#[]⟩, []) ⟨#[]⟩ false e w' := by
  have HC : Hid (∀ u : World, Rt u ao so xs rs → Calls Try.prog 30 #[.agg #[.int .i64 nx, .slice ao xs.length ca, .string o, .slice so rs.length cs]] u fun e w' => e = .returned (.bool false) ∧ Below u.heap.size u w') := fun u h => by have := specValidTake_any nx ao so ca cs xs o rs u hn ht ho hk hz h; rw [hv] at this; exact this
  have B0 : Hid (Below w.heap.size w ((w.alloc (.cells #[.int .i64 nx, .slice ao xs.length ca, .string o, .slice so rs.length cs] 29)).alloc (.cells #[.int .i64 0, .slice none 0 0, .string ⟨#[]⟩, .slice none 0 0] 29))) := ((Below.refl _ _).alloc (Nat.le_refl _) _).alloc (by simp) _
  have R0 : Hid (Rt ((w.alloc (.cells #[.int .i64 nx, .slice ao xs.length ca, .string o, .slice so rs.length cs] 29)).alloc (.cells #[.int .i64 0, .slice none 0 0, .string ⟨#[]⟩, .slice none 0 0] 29)) ao so xs rs) := hr.keep B0.out
  have A0 : Hid (Bx ((w.alloc (.cells #[.int .i64 nx, .slice ao xs.length ca, .string o, .slice so rs.length cs] 29)).alloc (.cells #[.int .i64 0, .slice none 0 0, .string ⟨#[]⟩, .slice none 0 0] 29)) w.heap.size 29 #[.int .i64 nx, .slice ao xs.length ca, .string o, .slice so rs.length cs]) := (Bx.new w _ _).alloc _
  have X0 : Hid (Bx ((w.alloc (.cells #[.int .i64 nx, .slice ao xs.length ca, .string o, .slice so rs.length cs] 29)).alloc (.cells #[.int .i64 0, .slice none 0 0, .string ⟨#[]⟩, .slice none 0 0] 29)) (w.heap.size + 1) 29 #[.int .i64 0, .slice none 0 0, .string ⟨#[]⟩, .slice none 0 0]) := (by have := Bx.new (w.alloc (.cells #[.int .i64 nx, .slice ao xs.length ca, .string o, .slice so rs.length cs] 29)) 29 #[.int .i64 0, .slice none 0 0, .string ⟨#[]⟩, .slice none 0 0]; rw [World.size_alloc] at this; exact this : Bx ((w.alloc (.cells #[.int .i64 nx, .slice ao xs.length ca, .string o, .slice so rs.length cs] 29)).alloc (.cells #[.int .i64 0, .slice none 0 0, .string ⟨#[]⟩, .slice none 0 0] 29)) (w.heap.size + 1) 29 #[.int .i64 0, .slice none 0 0, .string ⟨#[]⟩, .slice none 0 0])
  clear ht hz hr hv A0
  go_enter Try.func8, Try.ntmps8
  go_wp2_with (go_at_call 30; refine (HC.out _ R0.out).mono ?_; rintro e w1 ⟨rfl, hb1⟩; (have ZV := X0.out.keep hb1); (have z0 := ZV.cell 0); (have z1 := ZV.cell 1); (have z2 := ZV.cell 2); (have z3 := ZV.cell 3); simp at z0 z1 z2 z3; (have f0 := ZV.frozen 0); (have f1 := ZV.frozen 1); (have f2 := ZV.frozen 2); (have f3 := ZV.frozen 3))
  have B1 := kb B0.out hb1 (Nat.le_refl _)
  refine bodyPost_ret (v := .tuple #[.agg #[.int .i64 0, .slice none 0 0, .string ⟨#[]⟩, .slice none 0 0], .string ⟨#[]⟩, .bool false]) (by simp [results, Try.results8, go_sem, z0, z1, z2, z3]) rfl ?_
  exact ⟨⟨_, _, rfl, World.ownsRow_nil _ _ _ _, .inl ⟨rfl, rfl, rfl⟩⟩, ((((B1.setCell (p := ⟨w.heap.size + 1, 0, none⟩) (by show w.heap.size ≤ w.heap.size + 1; omega) (.int .i64 0)).setCell (p := ⟨w.heap.size + 1, 1, none⟩) (by show w.heap.size ≤ w.heap.size + 1; omega) (.slice none 0 0)).setCell (p := ⟨w.heap.size + 1, 2, none⟩) (by show w.heap.size ≤ w.heap.size + 1; omega) (.string ⟨#[]⟩)).setCell (p := ⟨w.heap.size + 1, 3, none⟩) (by show w.heap.size ≤ w.heap.size + 1; omega) (.slice none 0 0))⟩
set_option maxRecDepth 100000 in
set_option maxHeartbeats 2000000 in
theorem specPull_nil (nx : Nat) (ao so : Option Addr) (ca cs : Nat) (xs : List Hd) (o : ByteArray) (w : World) (hn : xs.length ≤ 1048576) (ht : ∀ i (h : i < xs.length), xs[i].text.size ≤ 1048576) (ho : o.size ≤ 1048576) (hk : 0 ≤ 1048576) (hr : Rt w ao so xs ([] : List ByteArray)) (hn1 : ao = none → xs.length = 0 ∧ ca = 0) (hn2 : so = none → 0 = 0 ∧ cs = 0) (hv : tkOk (nx : Int) xs o ([] : List ByteArray) = true)  :
    Calls Try.prog 8 #[.agg #[.int .i64 (nx : Int), .slice ao xs.length ca, .string o, .slice so 0 cs]] w fun e w' => PullPost w (nx, xs, o, ([] : List ByteArray)) ⟨#[]⟩ false e w' := by
  have HC : Hid (∀ u : World, Rt u ao so xs ([] : List ByteArray) → Calls Try.prog 30 #[.agg #[.int .i64 (nx : Int), .slice ao xs.length ca, .string o, .slice so 0 cs]] u fun e w' => e = .returned (.bool true) ∧ Below u.heap.size u w') := fun u h => by have := specValidTake_any (nx : Int) ao so ca cs xs o ([] : List ByteArray) u hn ht ho (by simp) (by simp) h; rw [hv] at this; exact this
  have B0 : Hid (Below w.heap.size w ((w.alloc (.cells #[.int .i64 (nx : Int), .slice ao xs.length ca, .string o, .slice so 0 cs] 29)).alloc (.cells #[.int .i64 0, .slice none 0 0, .string ⟨#[]⟩, .slice none 0 0] 29))) := ((Below.refl _ _).alloc (Nat.le_refl _) _).alloc (by simp) _
  have R0 : Hid (Rt ((w.alloc (.cells #[.int .i64 (nx : Int), .slice ao xs.length ca, .string o, .slice so 0 cs] 29)).alloc (.cells #[.int .i64 0, .slice none 0 0, .string ⟨#[]⟩, .slice none 0 0] 29)) ao so xs ([] : List ByteArray)) := hr.keep B0.out
  have A0 : Hid (Bx ((w.alloc (.cells #[.int .i64 (nx : Int), .slice ao xs.length ca, .string o, .slice so 0 cs] 29)).alloc (.cells #[.int .i64 0, .slice none 0 0, .string ⟨#[]⟩, .slice none 0 0] 29)) w.heap.size 29 #[.int .i64 (nx : Int), .slice ao xs.length ca, .string o, .slice so 0 cs]) := (Bx.new w _ _).alloc _
  have X0 : Hid (Bx ((w.alloc (.cells #[.int .i64 (nx : Int), .slice ao xs.length ca, .string o, .slice so 0 cs] 29)).alloc (.cells #[.int .i64 0, .slice none 0 0, .string ⟨#[]⟩, .slice none 0 0] 29)) (w.heap.size + 1) 29 #[.int .i64 0, .slice none 0 0, .string ⟨#[]⟩, .slice none 0 0]) := (by have := Bx.new (w.alloc (.cells #[.int .i64 (nx : Int), .slice ao xs.length ca, .string o, .slice so 0 cs] 29)) 29 #[.int .i64 0, .slice none 0 0, .string ⟨#[]⟩, .slice none 0 0]; rw [World.size_alloc] at this; exact this : Bx ((w.alloc (.cells #[.int .i64 (nx : Int), .slice ao xs.length ca, .string o, .slice so 0 cs] 29)).alloc (.cells #[.int .i64 0, .slice none 0 0, .string ⟨#[]⟩, .slice none 0 0] 29)) (w.heap.size + 1) 29 #[.int .i64 0, .slice none 0 0, .string ⟨#[]⟩, .slice none 0 0])
  have HP : Hid (∀ u : World, Rt u ao so xs ([] : List ByteArray) → Calls Try.prog 31 #[.agg #[.int .i64 (nx : Int), .slice ao xs.length ca, .string o, .slice so 0 cs]] u fun e w' => (∃ hv rv, e = .returned (.agg #[.int .i64 (nx : Int), hv, .string o, rv]) ∧ w'.ownsRow u.heap.size 107 3 hv xs.length (hs xs) ∧ w'.ownsRow u.heap.size 9 1 rv 0 (ss ([] : List ByteArray))) ∧ Below u.heap.size u w') := fun u h => tcopy_any (nx : Int) ao so ca cs xs o ([] : List ByteArray) u hn (by simp) h hn1 hn2
  clear ht hr hv hn1 hn2
  go_enter Try.func8, Try.ntmps8
  go_wp2_with (first
    | (go_at_call 30; refine (HC.out _ R0.out).mono ?_; rintro e w1 ⟨rfl, hb1⟩; (have a1 := A0.out.keep hb1); (have d0 := a1.cell 0); (have d1 := a1.cell 1); (have d2 := a1.cell 2); (have d3 := a1.cell 3); simp at d0 d1 d2 d3)
    | (go_at_call 31; refine (HP.out _ (R0.out.keep hb1)).mono ?_; rintro e w2 ⟨⟨hv2, rv2, rfl, h2, r2⟩, hb2⟩; (obtain ⟨a2, c2, rfl, -, -, -⟩ := rs_of_owns h2); (obtain ⟨b2, e2, rfl, -, -, -⟩ := rs_of_owns r2); clear d0 d1 d2 d3; (have ZV := ((X0.out.keep hb1).keep hb2).alloc (.cells #[.int .i64 (nx : Int), .slice a2 xs.length c2, .string o, .slice b2 0 e2] 29)); (have ZW := (X0.out.keep hb1).keep hb2); (have lz := ZW.lt); (have z0 := ZW.cell 0); (have z1 := ZW.cell 1); (have z2 := ZW.cell 2); (have z3 := ZW.cell 3); simp at z0 z1 z2 z3; (have f0 := ZW.frozen 0); (have f1 := ZW.frozen 1); (have f2 := ZW.frozen 2); (have f3 := ZW.frozen 3))
    | fail)
  have s1 := hb1.size
  have s2 := hb2.size
  simp only [World.size_alloc] at s1
  have B2 := kb (kb B0.out hb1 (Nat.le_refl _)) hb2 (Nat.le_refl _)
  have B3 := ((((B2.setCell (p := ⟨w.heap.size + 1, 0, none⟩) (by show w.heap.size ≤ w.heap.size + 1; omega) (.int .i64 (nx : Int))).setCell (p := ⟨w.heap.size + 1, 1, none⟩) (by show w.heap.size ≤ w.heap.size + 1; omega) (.slice a2 xs.length c2)).setCell (p := ⟨w.heap.size + 1, 2, none⟩) (by show w.heap.size ≤ w.heap.size + 1; omega) (.string o)).setCell (p := ⟨w.heap.size + 1, 3, none⟩) (by show w.heap.size ≤ w.heap.size + 1; omega) (.slice b2 0 e2))
  have B4 := B3.alloc (by simpa using B2.size) (.cells #[.int .i64 (nx : Int), .slice a2 xs.length c2, .string o, .slice b2 0 e2] 29)
  have P1 := (ownsRow_setCell_below (ownsRow_setCell_below (ownsRow_setCell_below (ownsRow_setCell_below h2 (a := ⟨w.heap.size + 1, 0, none⟩) (by show w.heap.size + 1 < _; omega) (.int .i64 (nx : Int))) (a := ⟨w.heap.size + 1, 1, none⟩) (by show w.heap.size + 1 < _; omega) (.slice a2 xs.length c2)) (a := ⟨w.heap.size + 1, 2, none⟩) (by show w.heap.size + 1 < _; omega) (.string o)) (a := ⟨w.heap.size + 1, 3, none⟩) (by show w.heap.size + 1 < _; omega) (.slice b2 0 e2))
  have P2 := (ownsRow_setCell_below (ownsRow_setCell_below (ownsRow_setCell_below (ownsRow_setCell_below r2 (a := ⟨w.heap.size + 1, 0, none⟩) (by show w.heap.size + 1 < _; omega) (.int .i64 (nx : Int))) (a := ⟨w.heap.size + 1, 1, none⟩) (by show w.heap.size + 1 < _; omega) (.slice a2 xs.length c2)) (a := ⟨w.heap.size + 1, 2, none⟩) (by show w.heap.size + 1 < _; omega) (.string o)) (a := ⟨w.heap.size + 1, 3, none⟩) (by show w.heap.size + 1 < _; omega) (.slice b2 0 e2))
  have P3 := P1.alloc (.cells #[.int .i64 (nx : Int), .slice a2 xs.length c2, .string o, .slice b2 0 e2] 29)
  have P4 := P2.alloc (.cells #[.int .i64 (nx : Int), .slice a2 xs.length c2, .string o, .slice b2 0 e2] 29)
  have ZF := ((((ZW.put 0 (.int .i64 (nx : Int))).put 1 (.slice a2 xs.length c2)).put 2 (.string o)).put 3 (.slice b2 0 e2)).alloc (.cells #[.int .i64 (nx : Int), .slice a2 xs.length c2, .string o, .slice b2 0 e2] 29)
  generalize ((((w2.setCell ⟨w.heap.size + 1, 0, none⟩ (.int .i64 (nx : Int))).setCell ⟨w.heap.size + 1, 1, none⟩ (.slice a2 xs.length c2)).setCell ⟨w.heap.size + 1, 2, none⟩ (.string o)).setCell ⟨w.heap.size + 1, 3, none⟩ (.slice b2 0 e2)).alloc (.cells #[.int .i64 (nx : Int), .slice a2 xs.length c2, .string o, .slice b2 0 e2] 29) = w9 at B4 P3 P4 ZF ⊢
  have q0 := ZF.cell 0
  have q1 := ZF.cell 1
  have q2 := ZF.cell 2
  have q3 := ZF.cell 3
  simp at q0 q1 q2 q3
  clear z0 z1 z2 z3 f0 f1 f2 f3
  refine bodyPost_ret (v := .tuple #[.agg #[.int .i64 (nx : Int), .slice a2 xs.length c2, .string o, .slice b2 0 e2], .string ⟨#[]⟩, .bool false]) (by simp [results, Try.results8, go_sem, q0, q1, q2, q3]) rfl ?_
  exact ⟨⟨_, _, rfl, owns_mono3 P3 (by omega), .of_owns (owns_mono3 P4 (by omega))⟩, B4⟩
set_option maxRecDepth 100000 in
set_option maxHeartbeats 4000000 in
theorem specPull_cons (nx : Nat) (ao so : Option Addr) (ca cs : Nat) (xs : List Hd) (o : ByteArray) (rs : List ByteArray) (w : World) (hn : xs.length ≤ 1048576) (ht : ∀ i (h : i < xs.length), xs[i].text.size ≤ 1048576) (ho : o.size ≤ 1048576) (hk : rs.length ≤ 1048576) (hz : ∀ i (h : i < rs.length), rs[i].size ≤ 1048576) (hr : Rt w ao so xs rs) (hn1 : ao = none → xs.length = 0 ∧ ca = 0) (hn2 : so = none → rs.length = 0 ∧ cs = 0) (hv : tkOk (nx : Int) xs o rs = true) (h0 : 0 < rs.length) :
    Calls Try.prog 8 #[.agg #[.int .i64 (nx : Int), .slice ao xs.length ca, .string o, .slice so rs.length cs]] w fun e w' => PullPost w (tin xs nx o (rs.drop 1)) rs[0] true e w' := by
  have hok := tkOk_of hv
  have hlen := hok.len
  have hhd := hok.1
  unfold TkHd at hhd
  have HSM : Hid (∀ i (h : i < xs.length), xs[i].seq < 1000000 ∧ xs[i].text.size ≤ 20) := fun i h => ⟨(hok.2.2 i h).2.2.1, (hok.2.2 i h).2.2.2.1⟩
  have HC : Hid (∀ u : World, Rt u ao so xs rs → Calls Try.prog 30 #[.agg #[.int .i64 (nx : Int), .slice ao xs.length ca, .string o, .slice so rs.length cs]] u fun e w' => e = .returned (.bool true) ∧ Below u.heap.size u w') := fun u h => by have := specValidTake_any (nx : Int) ao so ca cs xs o rs u hn ht ho hk hz h; rw [hv] at this; exact this
  have B0 : Hid (Below w.heap.size w ((w.alloc (.cells #[.int .i64 (nx : Int), .slice ao xs.length ca, .string o, .slice so rs.length cs] 29)).alloc (.cells #[.int .i64 0, .slice none 0 0, .string ⟨#[]⟩, .slice none 0 0] 29))) := ((Below.refl _ _).alloc (Nat.le_refl _) _).alloc (by simp) _
  have R0 : Hid (Rt ((w.alloc (.cells #[.int .i64 (nx : Int), .slice ao xs.length ca, .string o, .slice so rs.length cs] 29)).alloc (.cells #[.int .i64 0, .slice none 0 0, .string ⟨#[]⟩, .slice none 0 0] 29)) ao so xs rs) := hr.keep B0.out
  have A0 : Hid (Bx ((w.alloc (.cells #[.int .i64 (nx : Int), .slice ao xs.length ca, .string o, .slice so rs.length cs] 29)).alloc (.cells #[.int .i64 0, .slice none 0 0, .string ⟨#[]⟩, .slice none 0 0] 29)) w.heap.size 29 #[.int .i64 (nx : Int), .slice ao xs.length ca, .string o, .slice so rs.length cs]) := (Bx.new w _ _).alloc _
  have X0 : Hid (Bx ((w.alloc (.cells #[.int .i64 (nx : Int), .slice ao xs.length ca, .string o, .slice so rs.length cs] 29)).alloc (.cells #[.int .i64 0, .slice none 0 0, .string ⟨#[]⟩, .slice none 0 0] 29)) (w.heap.size + 1) 29 #[.int .i64 0, .slice none 0 0, .string ⟨#[]⟩, .slice none 0 0]) := (by have := Bx.new (w.alloc (.cells #[.int .i64 (nx : Int), .slice ao xs.length ca, .string o, .slice so rs.length cs] 29)) 29 #[.int .i64 0, .slice none 0 0, .string ⟨#[]⟩, .slice none 0 0]; rw [World.size_alloc] at this; exact this : Bx ((w.alloc (.cells #[.int .i64 (nx : Int), .slice ao xs.length ca, .string o, .slice so rs.length cs] 29)).alloc (.cells #[.int .i64 0, .slice none 0 0, .string ⟨#[]⟩, .slice none 0 0] 29)) (w.heap.size + 1) 29 #[.int .i64 0, .slice none 0 0, .string ⟨#[]⟩, .slice none 0 0])
  have HP : Hid (∀ u : World, Rt u ao so xs rs → Calls Try.prog 31 #[.agg #[.int .i64 (nx : Int), .slice ao xs.length ca, .string o, .slice so rs.length cs]] u fun e w' => (∃ hv rv, e = .returned (.agg #[.int .i64 (nx : Int), hv, .string o, rv]) ∧ w'.ownsRow u.heap.size 107 3 hv xs.length (hs xs) ∧ w'.ownsRow u.heap.size 9 1 rv rs.length (ss rs)) ∧ Below u.heap.size u w') := fun u h => tcopy_any (nx : Int) ao so ca cs xs o rs u hn hk h hn1 hn2
  obtain ⟨m, zs, p, ts, hT⟩ : ∃ m zs p ts, tin xs nx o (rs.drop 1) = (m, zs, p, ts) := ⟨_, _, _, _, rfl⟩
  have HL5 : Hid (∀ (base : Nat) (hv rv : Value) (u : World), u.ownsRow base 107 3 hv xs.length (hs xs) → u.ownsRow base 9 1 rv (rs.length - 1) (ss (rs.drop 1)) → base ≤ u.heap.size → Calls Try.prog 32 #[.agg #[.int .i64 (nx : Int), hv, .string o, rv]] u fun e w' => (∃ hv' rv', e = .returned (.agg #[.int .i64 (m : Int), hv', .string p, rv']) ∧ w'.ownsRow base 107 3 hv' zs.length (hs zs) ∧ w'.ownsRow base 9 1 rv' ts.length (ss ts)) ∧ Below base u w') := fun base hv rv u h1 h2 hb => by
    have := l5In_any base nx xs o (rs.drop 1) hv rv u h1 (by rw [List.length_drop]; exact h2) HSM.out (by omega) (by rw [List.length_drop]; omega) (by omega) (by omega) hb
    rw [hT] at this
    exact this
  have hs0 := ss_at rs 0 h0
  have hr4 : rs.length ≤ 4 := hhd.2.2.2
  obtain ⟨s, hs⟩ : ∃ s, s = rs[0] := ⟨_, rfl⟩
  rw [← hs] at hs0
  have HS0 : Hid ((ss rs)[0]? = some (.string s)) := hs0
  rw [hT, ← hs]
  have h1l : (1 : Int) ≤ (rs.length : Int) := by omega
  have hne0 : ¬ ((rs.length : Int) = 0) := by omega
  obtain ⟨iS, hiS, hS1, hS2, hS3⟩ := info_parts info_str
  clear ht hz hr hv hn1 hn2 hok hhd hT hs hs0
  go_enter Try.func8, Try.ntmps8
  go_wp2_with (first
    | (go_at_call 30; refine (HC.out _ R0.out).mono ?_; rintro e w1 ⟨rfl, hb1⟩; (have a1 := A0.out.keep hb1); (have d0 := a1.cell 0); (have d1 := a1.cell 1); (have d2 := a1.cell 2); (have d3 := a1.cell 3); simp at d0 d1 d2 d3)
    | (go_at_call 31; refine (HP.out _ (R0.out.keep hb1)).mono ?_; rintro e w2 ⟨⟨hv2, rv2, rfl, h2, r2⟩, hb2⟩; (obtain ⟨a2, c2, rfl, -, -, -⟩ := rs_of_owns h2); (obtain ⟨g2, e2, rfl, hg2, hl2⟩ := r2.form h0); (have hle2 : (rs.length : Int) ≤ (e2 : Int) := by obtain ⟨_, _, e, q, -, -⟩ := rs_of_owns r2; cases e; omega); clear d0 d1 d2 d3; (have s1 := hb1.size); (simp only [World.size_alloc] at s1); (have s2 := hb2.size); (have ZW := (X0.out.keep hb1).keep hb2); (have lz := ZW.lt); (have y0 : w2.cell? ⟨g2, 0, none⟩ = some (.string s) := (r2.cellAt 0 (by omega)).trans HS0.out); (have HR2 : Hid (w2.ownsRow w1.heap.size 9 1 (.slice (some ⟨g2, 0, none⟩) rs.length e2) rs.length (ss rs)) := r2); clear r2)
    | (at_builtin; refine list_append_any _ rfl _ _ 23 rfl w1.heap.size 9 iS (.string ⟨#[]⟩) 1 16 Try.underlying23 hiS hS1 hS2 hS3 rfl (by decide) (.slice (some ⟨w2.heap.size + 1, 0, none⟩) 0 0) 0 [] rfl (own0 9 1 (w2.alloc (.cells #[.int .i64 (nx : Int), .slice a2 xs.length c2, .string o, .slice (some ⟨g2, 0, none⟩) rs.length e2] 29)) w1.heap.size (by simp; omega) (w2.heap.size + 1) (by simp)) _ _ _ (ss (rs.drop 1)) rfl (by rw [ss_length, List.length_drop]; omega) (fun e => by split at e <;> cases e) (fun ad had j u hj => by split at had <;> cases had; (have := rs.length; rw [List.drop_eq_nil_of_le (by omega)] at hj; simp [ss] at hj); exact sdrop_cells ((HR2.out.alloc _).alloc _) j u hj) (ss_one _) (by unfold maxLen; omega) (by omega) (by simp; omega) ?_; intro v5 w5 O5 g5; (simp only [Nat.zero_add, List.nil_append] at O5); (obtain ⟨a5, c5, rfl, -, -, -⟩ := rs_of_owns O5); (have X5 := ((Bx.new w2 29 #[.int .i64 (nx : Int), .slice a2 xs.length c2, .string o, .slice (some ⟨g2, 0, none⟩) rs.length e2]).alloc (.cells #[] 9)).kept g5 (by simp [Value.ownBlock])); (have q0 := X5.cell 0); (have q1 := X5.cell 1); (have q2 := X5.cell 2); (have q3 := X5.cell 3); simp at q0 q1 q2 q3; (have k0 := X5.frozen 0); (have k1 := X5.frozen 1); (have k2 := X5.frozen 2); (have k3 := X5.frozen 3); (have lx5 := X5.lt); (have H5 := ((h2.alloc (.cells #[.int .i64 (nx : Int), .slice a2 xs.length c2, .string o, .slice (some ⟨g2, 0, none⟩) rs.length e2] 29)).alloc (.cells #[] 9)).kept g5 (rows_ne7 ((h2.alloc (.cells #[.int .i64 (nx : Int), .slice a2 xs.length c2, .string o, .slice (some ⟨g2, 0, none⟩) rs.length e2] 29)).alloc (.cells #[] 9)) (own0 9 1 (w2.alloc (.cells #[.int .i64 (nx : Int), .slice a2 xs.length c2, .string o, .slice (some ⟨g2, 0, none⟩) rs.length e2] 29)) w1.heap.size (by simp; omega) (w2.heap.size + 1) (by simp)) (by decide))); (have N1 := X5.ne (by decide) H5); (have N2 := X5.ne (by decide) O5); (have H6 := ownsRow_setCell_other H5 (a := ⟨w2.heap.size, 3, none⟩) (Ne.symm N1) (.slice a5 (rs.length - 1) c5)); (have O6 := ownsRow_setCell_other O5 (a := ⟨w2.heap.size, 3, none⟩) (Ne.symm N2) (.slice a5 (rs.length - 1) c5)); (have Z5 := ((ZW.alloc (.cells #[.int .i64 (nx : Int), .slice a2 xs.length c2, .string o, .slice (some ⟨g2, 0, none⟩) rs.length e2] 29)).alloc (.cells #[] 9)).kept g5 (by simp [Value.ownBlock]; omega)); (have Z6 := Z5.other ⟨w2.heap.size, 3, none⟩ (by show w.heap.size + 1 ≠ w2.heap.size; omega) (.slice a5 (rs.length - 1) c5)); (have B4 := ((Below.refl w2.heap.size w2).alloc (Nat.le_refl _) (.cells #[.int .i64 (nx : Int), .slice a2 xs.length c2, .string o, .slice (some ⟨g2, 0, none⟩) rs.length e2] 29)).alloc (by simp) (.cells #[] 9)); (have B5 := B4.grown g5 (by simp; omega) (fun k hk => by simp [Value.ownBlock] at hk; omega)); (have B6 := B5.setCell (p := ⟨w2.heap.size, 3, none⟩) (Nat.le_refl _) (.slice a5 (rs.length - 1) c5)); (have s5 := g5.size); (simp only [World.size_alloc] at s5))
    | (go_at_call 32; refine (HL5.out w1.heap.size _ _ _ H6 O6 (by simp; omega)).mono ?_; rintro e w7 ⟨⟨hv7, rv7, rfl, h7, r7⟩, hb7⟩; (obtain ⟨a7, c7, rfl, -, -, -⟩ := rs_of_owns h7); (obtain ⟨b7, e7, rfl, -, -, -⟩ := rs_of_owns r7); (have Z7 : Bx w7 (w.heap.size + 1) 29 #[.int .i64 0, .slice none 0 0, .string ⟨#[]⟩, .slice none 0 0] := (hb7.block (w.heap.size + 1) (by omega)).trans Z6); (have z0 := Z7.cell 0); (have z1 := Z7.cell 1); (have z2 := Z7.cell 2); (have z3 := Z7.cell 3); simp at z0 z1 z2 z3; (have f0 := Z7.frozen 0); (have f1 := Z7.frozen 1); (have f2 := Z7.frozen 2); (have f3 := Z7.frozen 3); (have s7 := hb7.size))
    | fail)
  all_goals (
    have B2 := kb (kb B0.out hb1 (Nat.le_refl _)) hb2 (Nat.le_refl _)
    have B7 := (B2.trans (B6.mono (by omega))).trans (hb7.mono (by omega))
    have P1 := (ownsRow_setCell_below (ownsRow_setCell_below (ownsRow_setCell_below (ownsRow_setCell_below h7 (a := ⟨w.heap.size + 1, 0, none⟩) (by show w.heap.size + 1 < _; omega) (.int .i64 (m : Int))) (a := ⟨w.heap.size + 1, 1, none⟩) (by show w.heap.size + 1 < _; omega) (.slice a7 zs.length c7)) (a := ⟨w.heap.size + 1, 2, none⟩) (by show w.heap.size + 1 < _; omega) (.string p)) (a := ⟨w.heap.size + 1, 3, none⟩) (by show w.heap.size + 1 < _; omega) (.slice b7 ts.length e7))
    have P2 := (ownsRow_setCell_below (ownsRow_setCell_below (ownsRow_setCell_below (ownsRow_setCell_below r7 (a := ⟨w.heap.size + 1, 0, none⟩) (by show w.heap.size + 1 < _; omega) (.int .i64 (m : Int))) (a := ⟨w.heap.size + 1, 1, none⟩) (by show w.heap.size + 1 < _; omega) (.slice a7 zs.length c7)) (a := ⟨w.heap.size + 1, 2, none⟩) (by show w.heap.size + 1 < _; omega) (.string p)) (a := ⟨w.heap.size + 1, 3, none⟩) (by show w.heap.size + 1 < _; omega) (.slice b7 ts.length e7))
    refine bodyPost_ret (v := .tuple #[.agg #[.int .i64 (m : Int), .slice a7 zs.length c7, .string p, .slice b7 ts.length e7], .string s, .bool true]) (by simp [results, Try.results8, go_sem, z0, z1, z2, z3]) rfl ?_
    exact ⟨⟨_, _, rfl, owns_mono3 P1 (by omega), .of_owns (owns_mono3 P2 (by omega))⟩, ((((B7.setCell (p := ⟨w.heap.size + 1, 0, none⟩) (by show w.heap.size ≤ w.heap.size + 1; omega) (.int .i64 (m : Int))).setCell (p := ⟨w.heap.size + 1, 1, none⟩) (by show w.heap.size ≤ w.heap.size + 1; omega) (.slice a7 zs.length c7)).setCell (p := ⟨w.heap.size + 1, 2, none⟩) (by show w.heap.size ≤ w.heap.size + 1; omega) (.string p)).setCell (p := ⟨w.heap.size + 1, 3, none⟩) (by show w.heap.size ≤ w.heap.size + 1; omega) (.slice b7 ts.length e7))⟩)
theorem specPull_any (nx : Int) (ao so : Option Addr) (ca cs : Nat) (xs : List Hd) (o : ByteArray) (rs : List ByteArray) (w : World) (hn : xs.length ≤ 1048576) (ht : ∀ i (h : i < xs.length), xs[i].text.size ≤ 1048576) (ho : o.size ≤ 1048576) (hk : rs.length ≤ 1048576) (hz : ∀ i (h : i < rs.length), rs[i].size ≤ 1048576) (hr : Rt w ao so xs rs) (hn1 : ao = none → xs.length = 0 ∧ ca = 0) (hn2 : so = none → rs.length = 0 ∧ cs = 0) :
    Calls Try.prog 8 #[.agg #[.int .i64 nx, .slice ao xs.length ca, .string o, .slice so rs.length cs]] w fun e w' => PullPost w (pullOf nx xs o rs) (pulledS nx xs o rs) (pulledB nx xs o rs) e w' := by
  cases hv : tkOk nx xs o rs
  · rw [show pullOf nx xs o rs = (0, [], ⟨#[]⟩, []) by simp [pullOf, hv], show pulledS nx xs o rs = ⟨#[]⟩ by simp [pulledS, hv], show pulledB nx xs o rs = false by simp [pulledB, hv]]
    exact specPull_no nx ao so ca cs xs o rs w hn ht ho hk hz hr hv
  · obtain ⟨n, rfl⟩ : ∃ n : Nat, nx = (n : Int) := ⟨nx.toNat, by have := (tkOk_of hv).1; unfold TkHd at this; omega⟩
    rw [show pullOf (n : Int) xs o rs = pullT n xs o rs by simp [pullOf, hv], show pulledS (n : Int) xs o rs = pullS rs by simp [pulledS, hv], show pulledB (n : Int) xs o rs = pullB rs by simp [pulledB, hv]]
    by_cases h0 : rs.length = 0
    · rw [show pullT n xs o rs = (n, xs, o, rs) by simp [pullT, h0], show pullS rs = ⟨#[]⟩ by simp [pullS, List.eq_nil_of_length_eq_zero h0], show pullB rs = false by simp [pullB, h0]]
      obtain rfl := List.eq_nil_of_length_eq_zero h0
      exact specPull_nil n ao so ca cs xs o w hn ht ho (Nat.zero_le _) hr hn1 hn2 hv
    · have hp : 0 < rs.length := by omega
      rw [show pullT n xs o rs = tin xs n o (rs.drop 1) by simp [pullT, h0], show pullS rs = rs[0] by simp [pullS, List.getElem?_eq_getElem hp], show pullB rs = true by simp [pullB, h0]]
      exact specPull_cons n ao so ca cs xs o rs w hn ht ho hk hz hr hn1 hn2 hv hp
end Go.Proofs.Ythjncmgjkejikaa.mk

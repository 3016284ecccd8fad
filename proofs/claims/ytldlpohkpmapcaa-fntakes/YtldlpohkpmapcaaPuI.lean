/-
  PULLING A MESSAGE: (*intake).pull, impl.TakePull.
-/
import Derived.Test.YtldlpohkpmapcaaPuA
import Derived.Test.YtldlpohkpmapcaaRgEp
import Derived.Test.YtldlpohkpmapcaaRgFp
namespace Go.Proofs.Ytldlpohkpmapcaa.mp
open Go.RowKit mk
set_option linter.unusedVariables false

set_option maxHeartbeats 2000000 in
theorem pull_any (base : Nat) (R : Nat) (nx : Nat) (xs : List Hd) (o : ByteArray) (rs : List ByteArray) (ds : List Value) (v : Value) (w : World) (h : mk.It5 base R nx xs o rs ds v w) (hbs : base ≤ w.heap.size) :
    Calls Try.prog 19 #[.pointer (some ⟨R, 0, none⟩)] w fun x w' => (∃ ds' v', x = .returned (.tuple #[.string (pullS rs), .bool (pullB rs)]) ∧ It5 base R (pullT nx xs o rs).1 (pullT nx xs o rs).2.1 (pullT nx xs o rs).2.2.1 (pullT nx xs o rs).2.2.2 ds' v' w') ∧ Below base w w' := by
  have hlt := h.ring.lt
  have t19 := (h.ring.cell 19 (by omega)).trans h.hold.ready
  have f19 := h.ring.frozen 19
  have hneR := Tn.ne h.ring h.row
  by_cases h0 : rs.length = 0
  · obtain ⟨ao, cap, rfl, -, -, -⟩ := rs_of_owns h.row
    rw [show pullT nx xs o rs = (nx, xs, o, rs) by simp [pullT, h0], show pullS rs = ⟨#[]⟩ by simp [pullS, List.eq_nil_of_length_eq_zero h0], show pullB rs = false by simp [pullB, h0]]
    have I0 : Hid (It5 base R nx xs o rs ds (.slice ao rs.length cap) w) := ⟨h.ring, h.hold, .of_owns h.row, h.win, h.small, h.opn, h.many, h.le⟩
    obtain rfl := List.eq_nil_of_length_eq_zero h0
    simp only [List.length_nil] at t19
    clear h h0
    go_enter Try.func19, Try.ntmps19
    go_wp2
    go_ret2
    exact ⟨⟨ds, _, rfl, I0.out⟩, Below.refl _ _⟩
  · have hp : 0 < rs.length := by omega
    obtain ⟨g, cap, rfl, hbg, hg⟩ := h.row.form hp
    rw [show pullT nx xs o rs = tin xs nx o (rs.drop 1) by simp [pullT, h0], show pullS rs = rs[0] by simp [pullS, List.getElem?_eq_getElem hp], show pullB rs = true by simp [pullB, h0]]
    have hcap : rs.length ≤ cap := by obtain ⟨_, _, e, q, -, -⟩ := rs_of_owns h.row; cases e; exact q
    have c0 : w.cell? ⟨g, 0, none⟩ = some (.string rs[0]) := (h.row.cellAt 0 (by omega)).trans (ss_at rs 0 hp)
    have hgR : ¬ g = R := fun e => hneR (by rw [← e]; rfl)
    have hgR2 : ¬ R = g := fun e => hgR e.symm
    have OT : Orw base (.slice (some ⟨g, 0, none⟩) (rs.length - 1 + 1) cap) (rs.length - 1 + 1) (.string rs[0] :: ss (rs.drop 1)) w := by
      have q := Orw.of_owns h.row
      rw [show rs.length - 1 + 1 = rs.length by omega]
      have e : (Value.string rs[0] :: ss (rs.drop 1)) = ss rs := by
        cases rs with
        | nil => simp at hp
        | cons x ys => rfl
      rw [e]
      exact q
    obtain ⟨m, zs, p, ts, hT⟩ : ∃ m zs p ts, tin xs nx o (rs.drop 1) = (m, zs, p, ts) := ⟨_, _, _, _, rfl⟩
    rw [hT]
    have HTI : Hid (∀ (ds : List Value) (v : Value) (u : World), It5 base R nx xs o (rs.drop 1) ds v u → base ≤ u.heap.size → Calls Try.prog 22 #[.pointer (some ⟨R, 0, none⟩)] u fun x w' => (∃ u' ds' v', x = .returned u' ∧ It5 base R m zs p ts ds' v' w') ∧ Below base u w') := fun ds v u h hb => by have := takeIn_any base R nx xs o (rs.drop 1) ds v u h hb; rw [hT] at this; exact this
    generalize rs[0] = s at c0 OT ⊢
    have h1l : (1 : Int) ≤ (rs.length : Int) := by omega
    have hne0 : ¬ ((rs.length : Int) = 0) := by omega
    have hcl : (rs.length : Int) ≤ (cap : Int) := by omega
    clear hT
    rcases Nat.lt_or_ge 1 cap with h1 | h1
    · have h1c : (1 : Int) < (cap : Int) := by omega
      have J0 : Hid (It5 base R nx xs o (rs.drop 1) (ds.set 19 (.slice (some ⟨g, 1, none⟩) (rs.length - 1) (cap - 1))) (.slice (some ⟨g, 1, none⟩) (rs.length - 1) (cap - 1)) (w.setCell ⟨R, 19, none⟩ (.slice (some ⟨g, 1, none⟩) (rs.length - 1) (cap - 1)))) := ⟨h.ring.put 19 _, h.hold.setReady _, by rw [List.length_drop]; exact OT.tail.other (Ne.symm hneR) _, h.win, h.small, h.opn, by rw [List.length_drop]; have := h.many; omega, h.le⟩
      have B1 : Hid (Below base w (w.setCell ⟨R, 19, none⟩ (.slice (some ⟨g, 1, none⟩) (rs.length - 1) (cap - 1)))) := (Below.refl _ _).setCell (p := ⟨R, 19, none⟩) hlt.1 _
      clear h
      go_enter Try.func19, Try.ntmps19
      go_wp2_with (go_at_call 22; refine (HTI.out _ _ _ J0.out (by simpa using hbs)).mono ?_; rintro e w4 ⟨⟨u4, ds4, v4, rfl, hI4⟩, hb4⟩)
      go_ret2
      exact ⟨⟨ds4, v4, rfl, hI4⟩, B1.out.trans hb4⟩
    · obtain rfl : cap = 1 := by omega
      have h1c : Hid (rs.length = 1) := (by omega : rs.length = 1)
      have hd : rs.drop 1 = [] := List.drop_eq_nil_of_le (by omega)
      have J0 : Hid (It5 base R nx xs o (rs.drop 1) (ds.set 19 (.slice (some ⟨g, 0, none⟩) 0 0)) (.slice (some ⟨g, 0, none⟩) 0 0) (w.setCell ⟨R, 19, none⟩ (.slice (some ⟨g, 0, none⟩) 0 0))) := ⟨h.ring.put 19 _, h.hold.setReady _, (by have q := OT; rw [hd, h1c.out] at q; rw [hd]; exact (Orw.last q).other (Ne.symm hneR) _), h.win, h.small, h.opn, by rw [List.length_drop]; have := h.many; omega, h.le⟩
      have B1 : Hid (Below base w (w.setCell ⟨R, 19, none⟩ (.slice (some ⟨g, 0, none⟩) 0 0))) := (Below.refl _ _).setCell (p := ⟨R, 19, none⟩) hlt.1 _
      clear h
      go_enter Try.func19, Try.ntmps19
      go_wp2_with (go_at_call 22; refine (HTI.out _ _ _ J0.out (by simpa using hbs)).mono ?_; rintro e w4 ⟨⟨u4, ds4, v4, rfl, hI4⟩, hb4⟩)
      go_ret2
      exact ⟨⟨ds4, v4, rfl, hI4⟩, B1.out.trans hb4⟩
theorem it5_of {base R nx : Nat} {xs : List Hd} {o : ByteArray} {rs : List ByteArray} {ds : List Value} {v : Value} {w : World} (hv : TkOk (nx : Int) xs o rs) (h1 : Tn base R ds w) (h2 : HoldT (nx : Int) xs o v ds) (h3 : w.ownsRow base 9 1 v rs.length (ss rs)) : mk.It5 base R nx xs o rs ds v w := by
  have hd := hv.1
  unfold TkHd at hd
  exact ⟨h1, h2, h3, HsOk.win hv.2.2, fun i hi => ⟨(hv.2.2 i hi).2.2.1, (hv.2.2 i hi).2.2.2.1⟩, hd.2.2.1, hd.2.2.2, by omega⟩
set_option maxHeartbeats 1000000 in
theorem implPull_no (nx : Int) (ao so : Option Addr) (ca cs : Nat) (xs : List Hd) (o : ByteArray) (rs : List ByteArray) (w : World) (hn : xs.length ≤ 1048576) (ht : ∀ i (h : i < xs.length), xs[i].text.size ≤ 1048576) (ho : o.size ≤ 1048576) (hk : rs.length ≤ 1048576) (hz : ∀ i (h : i < rs.length), rs[i].size ≤ 1048576) (hr : Rt w ao so xs rs) (hv : tkOk nx xs o rs = false) :
    Calls Try.prog 7 #[.agg #[.int .i64 nx, .slice ao xs.length ca, .string o, .slice so rs.length cs]] w fun e w' => PullPost w (0, [], ⟨#[]⟩, []) ⟨#[]⟩ false e w' := by
  have HC : Hid (∀ u : World, Rt u ao so xs rs → Calls Try.prog 9 #[.agg #[.int .i64 nx, .slice ao xs.length ca, .string o, .slice so rs.length cs]] u fun e w' => e = .returned (.bool false) ∧ Below u.heap.size u w') := fun u h => by have := implValidTake_any nx ao so ca cs xs o rs u hn ht ho hk hz h; rw [hv] at this; exact this
  have B0 : Hid (Below w.heap.size w ((w.alloc (.cells #[.int .i64 nx, .slice ao xs.length ca, .string o, .slice so rs.length cs] 30)).alloc (.cells #[.int .i64 0, .slice none 0 0, .string ⟨#[]⟩, .slice none 0 0] 30))) := ((Below.refl _ _).alloc (Nat.le_refl _) _).alloc (by simp) _
  have R0 : Hid (Rt ((w.alloc (.cells #[.int .i64 nx, .slice ao xs.length ca, .string o, .slice so rs.length cs] 30)).alloc (.cells #[.int .i64 0, .slice none 0 0, .string ⟨#[]⟩, .slice none 0 0] 30)) ao so xs rs) := hr.keep B0.out
  have A0 : Hid (Bx ((w.alloc (.cells #[.int .i64 nx, .slice ao xs.length ca, .string o, .slice so rs.length cs] 30)).alloc (.cells #[.int .i64 0, .slice none 0 0, .string ⟨#[]⟩, .slice none 0 0] 30)) w.heap.size 30 #[.int .i64 nx, .slice ao xs.length ca, .string o, .slice so rs.length cs]) := (Bx.new w _ _).alloc _
  have X0 : Hid (Bx ((w.alloc (.cells #[.int .i64 nx, .slice ao xs.length ca, .string o, .slice so rs.length cs] 30)).alloc (.cells #[.int .i64 0, .slice none 0 0, .string ⟨#[]⟩, .slice none 0 0] 30)) (w.heap.size + 1) 30 #[.int .i64 0, .slice none 0 0, .string ⟨#[]⟩, .slice none 0 0]) := (by have := Bx.new (w.alloc (.cells #[.int .i64 nx, .slice ao xs.length ca, .string o, .slice so rs.length cs] 30)) 30 #[.int .i64 0, .slice none 0 0, .string ⟨#[]⟩, .slice none 0 0]; rw [World.size_alloc] at this; exact this : Bx ((w.alloc (.cells #[.int .i64 nx, .slice ao xs.length ca, .string o, .slice so rs.length cs] 30)).alloc (.cells #[.int .i64 0, .slice none 0 0, .string ⟨#[]⟩, .slice none 0 0] 30)) (w.heap.size + 1) 30 #[.int .i64 0, .slice none 0 0, .string ⟨#[]⟩, .slice none 0 0])
  clear ht hz hr hv A0
  go_enter Try.func7, Try.ntmps7
  go_wp2_with (go_at_call 9; refine (HC.out _ R0.out).mono ?_; rintro e w1 ⟨rfl, hb1⟩; (have ZV := X0.out.keep hb1); (have z0 := ZV.cell 0); (have z1 := ZV.cell 1); (have z2 := ZV.cell 2); (have z3 := ZV.cell 3); simp at z0 z1 z2 z3; (have f0 := ZV.frozen 0); (have f1 := ZV.frozen 1); (have f2 := ZV.frozen 2); (have f3 := ZV.frozen 3))
  have B1 := kb B0.out hb1 (Nat.le_refl _)
  refine bodyPost_ret (v := .tuple #[.agg #[.int .i64 0, .slice none 0 0, .string ⟨#[]⟩, .slice none 0 0], .string ⟨#[]⟩, .bool false]) (by simp [results, Try.results7, go_sem, z0, z1, z2, z3]) rfl ?_
  exact ⟨⟨_, _, rfl, World.ownsRow_nil _ _ _ _, .inl ⟨rfl, rfl, rfl⟩⟩, ((((B1.setCell (p := ⟨w.heap.size + 1, 0, none⟩) (by show w.heap.size ≤ w.heap.size + 1; omega) (.int .i64 0)).setCell (p := ⟨w.heap.size + 1, 1, none⟩) (by show w.heap.size ≤ w.heap.size + 1; omega) (.slice none 0 0)).setCell (p := ⟨w.heap.size + 1, 2, none⟩) (by show w.heap.size ≤ w.heap.size + 1; omega) (.string ⟨#[]⟩)).setCell (p := ⟨w.heap.size + 1, 3, none⟩) (by show w.heap.size ≤ w.heap.size + 1; omega) (.slice none 0 0))⟩
set_option maxRecDepth 100000 in
set_option maxHeartbeats 2000000 in
theorem implPull_yes (nx : Nat) (ao so : Option Addr) (ca cs : Nat) (xs : List Hd) (o : ByteArray) (rs : List ByteArray) (w : World) (hn : xs.length ≤ 1048576) (ht : ∀ i (h : i < xs.length), xs[i].text.size ≤ 1048576) (ho : o.size ≤ 1048576) (hk : rs.length ≤ 1048576) (hz : ∀ i (h : i < rs.length), rs[i].size ≤ 1048576) (hr : Rt w ao so xs rs) (hv : tkOk (nx : Int) xs o rs = true) :
    Calls Try.prog 7 #[.agg #[.int .i64 (nx : Int), .slice ao xs.length ca, .string o, .slice so rs.length cs]] w fun e w' => PullPost w (pullT nx xs o rs) (pullS rs) (pullB rs) e w' := by
  have hok := tkOk_of hv
  have HC : Hid (∀ u : World, Rt u ao so xs rs → Calls Try.prog 9 #[.agg #[.int .i64 (nx : Int), .slice ao xs.length ca, .string o, .slice so rs.length cs]] u fun e w' => e = .returned (.bool true) ∧ Below u.heap.size u w') := fun u h => by have := implValidTake_any (nx : Int) ao so ca cs xs o rs u hn ht ho hk hz h; rw [hv] at this; exact this
  have B0 : Hid (Below w.heap.size w ((w.alloc (.cells #[.int .i64 (nx : Int), .slice ao xs.length ca, .string o, .slice so rs.length cs] 30)).alloc (.cells #[.int .i64 0, .slice none 0 0, .string ⟨#[]⟩, .slice none 0 0] 30))) := ((Below.refl _ _).alloc (Nat.le_refl _) _).alloc (by simp) _
  have R0 : Hid (Rt ((w.alloc (.cells #[.int .i64 (nx : Int), .slice ao xs.length ca, .string o, .slice so rs.length cs] 30)).alloc (.cells #[.int .i64 0, .slice none 0 0, .string ⟨#[]⟩, .slice none 0 0] 30)) ao so xs rs) := hr.keep B0.out
  have A0 : Hid (Bx ((w.alloc (.cells #[.int .i64 (nx : Int), .slice ao xs.length ca, .string o, .slice so rs.length cs] 30)).alloc (.cells #[.int .i64 0, .slice none 0 0, .string ⟨#[]⟩, .slice none 0 0] 30)) w.heap.size 30 #[.int .i64 (nx : Int), .slice ao xs.length ca, .string o, .slice so rs.length cs]) := (Bx.new w _ _).alloc _
  have X0 : Hid (Bx ((w.alloc (.cells #[.int .i64 (nx : Int), .slice ao xs.length ca, .string o, .slice so rs.length cs] 30)).alloc (.cells #[.int .i64 0, .slice none 0 0, .string ⟨#[]⟩, .slice none 0 0] 30)) (w.heap.size + 1) 30 #[.int .i64 0, .slice none 0 0, .string ⟨#[]⟩, .slice none 0 0]) := (by have := Bx.new (w.alloc (.cells #[.int .i64 (nx : Int), .slice ao xs.length ca, .string o, .slice so rs.length cs] 30)) 30 #[.int .i64 0, .slice none 0 0, .string ⟨#[]⟩, .slice none 0 0]; rw [World.size_alloc] at this; exact this : Bx ((w.alloc (.cells #[.int .i64 (nx : Int), .slice ao xs.length ca, .string o, .slice so rs.length cs] 30)).alloc (.cells #[.int .i64 0, .slice none 0 0, .string ⟨#[]⟩, .slice none 0 0] 30)) (w.heap.size + 1) 30 #[.int .i64 0, .slice none 0 0, .string ⟨#[]⟩, .slice none 0 0])
  have HI : Hid (∀ u : World, Rt u ao so xs rs → Calls Try.prog 18 #[.agg #[.int .i64 (nx : Int), .slice ao xs.length ca, .string o, .slice so rs.length cs]] u fun e w' => (∃ R ds v, e = .returned (.pointer (some ⟨R, 0, none⟩)) ∧ mk.It5 u.heap.size R nx xs o rs ds v w') ∧ Below u.heap.size u w') := fun u h => (intakeOf_any nx ao so ca cs xs o rs u hok h).mono fun e w' hp => by
    obtain ⟨⟨R, ds, v, he, h1, h2, h3⟩, hb⟩ := hp
    exact ⟨⟨R, ds, v, he, it5_of hok h1 h2 h3⟩, hb⟩
  obtain ⟨m, zs, p, ts, hT⟩ : ∃ m zs p ts, pullT nx xs o rs = (m, zs, p, ts) := ⟨_, _, _, _, rfl⟩
  have HPU : Hid (∀ (base R : Nat) (ds : List Value) (v : Value) (u : World), mk.It5 base R nx xs o rs ds v u → base ≤ u.heap.size → Calls Try.prog 19 #[.pointer (some ⟨R, 0, none⟩)] u fun x w' => (∃ ds' v', x = .returned (.tuple #[.string (pullS rs), .bool (pullB rs)]) ∧ It5 base R m zs p ts ds' v' w') ∧ Below base u w') := fun base R ds v u h hb => by have := pull_any base R nx xs o rs ds v u h hb; rw [hT] at this; exact this
  rw [hT]
  generalize pullS rs = s at HPU ⊢
  generalize pullB rs = b at HPU ⊢
  clear ht hz hr hv hok hT
  go_enter Try.func7, Try.ntmps7
  go_wp2_with (first
    | (go_at_call 9; refine (HC.out _ R0.out).mono ?_; rintro e w1 ⟨rfl, hb1⟩; (have a1 := A0.out.keep hb1); (have d0 := a1.cell 0); (have d1 := a1.cell 1); (have d2 := a1.cell 2); (have d3 := a1.cell 3); simp at d0 d1 d2 d3)
    | (go_at_call 18; refine (HI.out _ (R0.out.keep hb1)).mono ?_; rintro e w2 ⟨⟨R, ds, v, rfl, hI2⟩, hb2⟩; (have hR2 := hI2.ring.lt))
    | (go_at_call 19; refine (HPU.out _ R ds v _ hI2 hb2.size).mono ?_; rintro e w4 ⟨⟨ds4, v4, rfl, hI4⟩, hb4⟩)
    | (go_at_call 20; refine (take_any _ R m zs p ts ds4 v4 _ hI4 (Nat.le_trans hb2.size hb4.size)).mono ?_; rintro e w5 ⟨⟨hv5, rfl, ho5⟩, hb5⟩; (obtain ⟨ao5, c5, rfl, -, -, -⟩ := rs_of_owns ho5); (obtain ⟨ao4, c4, rfl, -, -, -⟩ := hI4.row.slice); (have s1 := hb1.size); (simp only [World.size_alloc] at s1); (have X2 := (X0.out.keep hb1).keep hb2); (have X4 : Bx w4 (w.heap.size + 1) 30 #[.int .i64 0, .slice none 0 0, .string ⟨#[]⟩, .slice none 0 0] := (hb4.block (w.heap.size + 1) (by omega)).trans X2); (have X5 := X4.keep hb5); (have z0 := X5.cell 0); (have z1 := X5.cell 1); (have z2 := X5.cell 2); (have z3 := X5.cell 3); simp at z0 z1 z2 z3; (have f0 := X5.frozen 0); (have f1 := X5.frozen 1); (have f2 := X5.frozen 2); (have f3 := X5.frozen 3))
    | fail)
  have B2 := kb (kb B0.out hb1 (Nat.le_refl _)) hb2 (Nat.le_refl _)
  have B4 := B2.trans (hb4.mono (by omega))
  have B5 := kb B4 hb5 (Nat.le_refl _)
  have s4 := hb4.size
  have s2 := hb2.size
  have P4 := (ownsRow_setCell_below (ownsRow_setCell_below (ownsRow_setCell_below (ownsRow_setCell_below ho5 (a := ⟨w.heap.size + 1, 0, none⟩) (by show w.heap.size + 1 < _; omega) (.int .i64 (m : Int))) (a := ⟨w.heap.size + 1, 1, none⟩) (by show w.heap.size + 1 < _; omega) (.slice ao5 zs.length c5)) (a := ⟨w.heap.size + 1, 2, none⟩) (by show w.heap.size + 1 < _; omega) (.string p)) (a := ⟨w.heap.size + 1, 3, none⟩) (by show w.heap.size + 1 < _; omega) (.slice ao4 ts.length c4))
  have Q4 := (Orw.below (Orw.below (Orw.below (Orw.below (hI4.row.keep hb5) (a := ⟨w.heap.size + 1, 0, none⟩) (by show w.heap.size + 1 < _; omega) (.int .i64 (m : Int))) (a := ⟨w.heap.size + 1, 1, none⟩) (by show w.heap.size + 1 < _; omega) (.slice ao5 zs.length c5)) (a := ⟨w.heap.size + 1, 2, none⟩) (by show w.heap.size + 1 < _; omega) (.string p)) (a := ⟨w.heap.size + 1, 3, none⟩) (by show w.heap.size + 1 < _; omega) (.slice ao4 ts.length c4))
  refine bodyPost_ret (v := .tuple #[.agg #[.int .i64 (m : Int), .slice ao5 zs.length c5, .string p, .slice ao4 ts.length c4], .string s, .bool b]) (by simp [results, Try.results7, go_sem, z0, z1, z2, z3]) rfl ?_
  exact ⟨⟨_, _, rfl, owns_mono3 P4 (by omega), Q4.mono (by omega)⟩, ((((B5.setCell (p := ⟨w.heap.size + 1, 0, none⟩) (by show w.heap.size ≤ w.heap.size + 1; omega) (.int .i64 (m : Int))).setCell (p := ⟨w.heap.size + 1, 1, none⟩) (by show w.heap.size ≤ w.heap.size + 1; omega) (.slice ao5 zs.length c5)).setCell (p := ⟨w.heap.size + 1, 2, none⟩) (by show w.heap.size ≤ w.heap.size + 1; omega) (.string p)).setCell (p := ⟨w.heap.size + 1, 3, none⟩) (by show w.heap.size ≤ w.heap.size + 1; omega) (.slice ao4 ts.length c4))⟩
theorem implPull_any (nx : Int) (ao so : Option Addr) (ca cs : Nat) (xs : List Hd) (o : ByteArray) (rs : List ByteArray) (w : World) (hn : xs.length ≤ 1048576) (ht : ∀ i (h : i < xs.length), xs[i].text.size ≤ 1048576) (ho : o.size ≤ 1048576) (hk : rs.length ≤ 1048576) (hz : ∀ i (h : i < rs.length), rs[i].size ≤ 1048576) (hr : Rt w ao so xs rs) :
    Calls Try.prog 7 #[.agg #[.int .i64 nx, .slice ao xs.length ca, .string o, .slice so rs.length cs]] w fun e w' => PullPost w (pullOf nx xs o rs) (pulledS nx xs o rs) (pulledB nx xs o rs) e w' := by
  cases hv : tkOk nx xs o rs
  · rw [show pullOf nx xs o rs = (0, [], ⟨#[]⟩, []) by simp [pullOf, hv], show pulledS nx xs o rs = ⟨#[]⟩ by simp [pulledS, hv], show pulledB nx xs o rs = false by simp [pulledB, hv]]
    exact implPull_no nx ao so ca cs xs o rs w hn ht ho hk hz hr hv
  · obtain ⟨n, rfl⟩ : ∃ n : Nat, nx = (n : Int) := ⟨nx.toNat, by have := (tkOk_of hv).1; unfold TkHd at this; omega⟩
    rw [show pullOf (n : Int) xs o rs = pullT n xs o rs by simp [pullOf, hv], show pulledS (n : Int) xs o rs = pullS rs by simp [pulledS, hv], show pulledB (n : Int) xs o rs = pullB rs by simp [pulledB, hv]]
    exact implPull_yes n ao so ca cs xs o rs w hn ht ho hk hz hr hv
end Go.Proofs.Ytldlpohkpmapcaa.mp

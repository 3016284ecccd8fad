/-
  VALID WORLDS: spec.ValidWorld.
-/
import Derived.Test.YtmliinglojmojabValX
namespace Go.Proofs.Ytmliinglojmojab.mk
open Go.RowKit
set_option linter.unusedVariables false

theorem endsOk_yes {es : List Ev} (h2 : es.length = 2) (h : ∀ j (hj : j < es.length), enOkE es[j].e = true ∧ es[j].e.num = (j : Int) + 1) : endsOk es = true := by
  obtain ⟨x, y, rfl⟩ := list2 h2
  have h0 := h 0 (by simp)
  have h1 := h 1 (by simp)
  simp only [List.getElem_cons_zero, List.getElem_cons_succ] at h0 h1
  rw [endsOk_two, h0.1, h1.1, decide_eq_true (by rw [h0.2]; rfl), decide_eq_true (by rw [h1.2]; rfl)]
  rfl
theorem endsOk_no {es : List Ev} (h2 : es.length = 2) {j : Nat} (hj : j < es.length) (h : ¬ (enOkE es[j].e = true ∧ es[j].e.num = (j : Int) + 1)) : endsOk es = false := by
  obtain ⟨x, y, rfl⟩ := list2 h2
  rcases (show j = 0 ∨ j = 1 by simp at hj; omega) with rfl | rfl
  · simp only [List.getElem_cons_zero] at h
    rw [endsOk_two]
    cases e : enOkE x.e
    · simp
    · have : ¬ x.e.num = 1 := fun q => h ⟨e, by rw [q]; rfl⟩
      rw [decide_eq_false this]
      simp
  · simp only [List.getElem_cons_zero, List.getElem_cons_succ] at h
    rw [endsOk_two]
    cases e : enOkE y.e
    · simp
    · have : ¬ y.e.num = 2 := fun q => h ⟨e, by rw [q]; rfl⟩
      rw [decide_eq_false this]
      simp
theorem woOk_no {key : ByteArray} {width : Int} {es : List Ev} {fl : List Pc} {gv tk : List Rc} (h : tag.sealOk key.size width = false ∨ ¬ fl.length ≤ 1000 ∨ ¬ gv.length + tk.length ≤ 400 ∨ endsOk es = false ∨ pcsOk fl = false ∨ rcsOk gv = false ∨ rcsOk tk = false) : woOk key width es fl gv tk = false := by
  unfold woOk
  rcases h with h | h | h | h | h | h | h
  · simp [h]
  · rw [decide_eq_false h]; simp
  · rw [decide_eq_false h]; simp
  · simp [h]
  · simp [h]
  · simp [h]
  · simp [h]
set_option maxHeartbeats 4000000 in
theorem specValidWorld_any (key : ByteArray) (width : Int) (eo : Option Addr) (ce : Nat) (es : List Ev) (fo : Option Addr) (cf : Nat) (fl : List Pc) (fg : ByteArray) (go : Option Addr) (cg : Nat) (gv : List Rc) (ko : Option Addr) (ck : Nat) (tk : List Rc) (w : World) (hm : Sw 1048576 key es fl fg gv tk) (hr : Rwo w eo es fo fl go gv ko tk) :
    Calls Try.prog 12 #[.agg #[.string key, .int .i64 width, .slice eo es.length ce, .slice fo fl.length cf, .string fg, .slice go gv.length cg, .slice ko tk.length ck]] w fun e w' => e = .returned (.bool (woOk key width es fl gv tk)) ∧ Below w.heap.size w w' := by
  have B0 : Hid (Below w.heap.size w (w.alloc (.cells #[.string key, .int .i64 width, .slice eo es.length ce, .slice fo fl.length cf, .string fg, .slice go gv.length cg, .slice ko tk.length ck] 33))) := (Below.refl _ _).alloc (Nat.le_refl _) _
  have hkz := hm.key
  have hez := hm.n
  have hfz := hm.f
  have hgz := hm.g
  have htz := hm.t
  by_cases s1 : 1 ≤ width ∧ width ≤ 8
  case neg =>
    clear hr hm
    go_enter Try.func12, Try.ntmps12
    go_wp2_with (first | (go_at_call 24; first | (refine (l1In_true _ _ _ _ (by omega) (by omega)).mono ?_; rintro e w' ⟨rfl, rfl⟩) | (refine (l1In_false _ _ _ _ (by omega)).mono ?_; rintro e w' ⟨rfl, rfl⟩)) | fail)
    go_ret
    exact ⟨ret_b (by rw [woOk_no (.inl (tag.sealOk_no (by omega)))]), B0.out⟩
  by_cases s2 : key.size ≤ 30
  case neg =>
    clear hr hm
    go_enter Try.func12, Try.ntmps12
    go_wp2_with (first | (go_at_call 24; first | (refine (l1In_true _ _ _ _ (by omega) (by omega)).mono ?_; rintro e w' ⟨rfl, rfl⟩) | (refine (l1In_false _ _ _ _ (by omega)).mono ?_; rintro e w' ⟨rfl, rfl⟩)) | fail)
    go_ret
    exact ⟨ret_b (by rw [woOk_no (.inl (tag.sealOk_no (by omega)))]), B0.out⟩
  by_cases s3 : es.length = 2
  case neg =>
    clear hr hm
    go_enter Try.func12, Try.ntmps12
    go_wp2_with (first | (go_at_call 24; first | (refine (l1In_true _ _ _ _ (by omega) (by omega)).mono ?_; rintro e w' ⟨rfl, rfl⟩) | (refine (l1In_false _ _ _ _ (by omega)).mono ?_; rintro e w' ⟨rfl, rfl⟩)) | fail)
    go_ret
    exact ⟨ret_b (by rw [woOk_no (.inr (.inr (.inr (.inl (endsOk_len s3)))))]), B0.out⟩
  have H2 : Hid (es.length = 2) := s3
  rw [s3] at B0
  rw [s3]
  clear s3 hez
  by_cases s4 : fl.length ≤ 1000
  case neg =>
    clear hr hm
    go_enter Try.func12, Try.ntmps12
    go_wp2_with (first | (go_at_call 24; first | (refine (l1In_true _ _ _ _ (by omega) (by omega)).mono ?_; rintro e w' ⟨rfl, rfl⟩) | (refine (l1In_false _ _ _ _ (by omega)).mono ?_; rintro e w' ⟨rfl, rfl⟩)) | fail)
    go_ret
    exact ⟨ret_b (by rw [woOk_no (.inr (.inl s4))]), B0.out⟩
  by_cases s5 : gv.length + tk.length ≤ 400
  case neg =>
    clear hr hm
    go_enter Try.func12, Try.ntmps12
    go_wp2_with (first | (go_at_call 24; first | (refine (l1In_true _ _ _ _ (by omega) (by omega)).mono ?_; rintro e w' ⟨rfl, rfl⟩) | (refine (l1In_false _ _ _ _ (by omega)).mono ?_; rintro e w' ⟨rfl, rfl⟩)) | fail)
    go_ret
    exact ⟨ret_b (by rw [woOk_no (.inr (.inr (.inl s5)))]), B0.out⟩
  have S1 : Hid (tag.sealOk key.size width = true) := tag.sealOk_mk ⟨s2, s1.1, s1.2⟩
  have X0 : Hid (Bx (w.alloc (.cells #[.string key, .int .i64 width, .slice eo 2 ce, .slice fo fl.length cf, .string fg, .slice go gv.length cg, .slice ko tk.length ck] 33)) w.heap.size 33 #[.string key, .int .i64 width, .slice eo 2 ce, .slice fo fl.length cf, .string fg, .slice go gv.length cg, .slice ko tk.length ck]) := Bx.new w _ _
  have HR : Hid (Rwo w eo es fo fl go gv ko tk) := hr
  have HM : Hid (Sw 1048576 key es fl fg gv tk) := hm
  clear hr hm
  go_enter Try.func12, Try.ntmps12
  go_wp2_with (first | (go_at_call 24; first | (refine (l1In_true _ _ _ _ (by omega) (by omega)).mono ?_; rintro e w' ⟨rfl, rfl⟩) | (refine (l1In_false _ _ _ _ (by omega)).mono ?_; rintro e w' ⟨rfl, rfl⟩)) | fail)
  go_loopw [3] (fun i wr => ∃ k : Nat, k ≤ 2 ∧ i = .int .i64 k ∧ (∀ j (h : j < es.length), j < k → enOkE es[j].e = true ∧ es[j].e.num = (j : Int) + 1) ∧ Below (w.heap.size + 1) (w.alloc (.cells #[.string key, .int .i64 width, .slice eo 2 ce, .slice fo fl.length cf, .string fg, .slice go gv.length cg, .slice ko tk.length ck] 33)) wr) (fun i _ => 2 - (intOf i).toNat)
  case atStart => exact ⟨0, Nat.zero_le _, rfl, fun j _ h => absurd h (by omega), Below.refl _ _⟩
  case round =>
    obtain ⟨k, hk, rfl, hall, hbel⟩ := hrel
    have X1 : Bx wr w.heap.size 33 #[.string key, .int .i64 width, .slice eo 2 ce, .slice fo fl.length cf, .string fg, .slice go gv.length cg, .slice ko tk.length ck] := X0.out.keep (by simpa using hbel)
    have hbel0 : Below w.heap.size w wr := B0.out.trans (hbel.mono (by omega))
    have HB : Hid (Below w.heap.size w wr) := hbel0
    have HL : Hid (∀ j (h : j < es.length), j < k → enOkE es[j].e = true ∧ es[j].e.num = (j : Int) + 1) := hall
    clear hall
    have hws : w.heap.size < wr.heap.size := X1.lt
    have x0 := X1.cell 0; have x1 := X1.cell 1; have x2 := X1.cell 2; have x3 := X1.cell 3; have x4 := X1.cell 4; have x5 := X1.cell 5; have x6 := X1.cell 6
    simp at x0 x1 x2 x3 x4 x5 x6
    rcases Nat.lt_or_ge k 2 with hlt | hge
    · have hke : k < es.length := by have := H2.out; omega
      have hs2 : es.length = 2 := H2.out
      rcases HR.out.ends.row.ex with h | ⟨g, rfl, hg, hgc⟩
      · omega
      obtain ⟨a0, a1, a2, a3, a4, a5, a6, a7, a8, a9, a10, a11⟩ := Rs.evs (n := 0) hg hgc hbel0 k hke
      have E1 := (HR.out.ends.each k hke).keep hbel0
      have hS_e := HM.out.ends k hke
      have HI : Hid ((enOkE es[k].e = true ∧ es[k].e.num = (k : Int) + 1) ↔ (enOkE es[k].e = true ∧ es[k].e.num = (k : Int) + 1)) := Iff.rfl
      have hgr : g < wr.heap.size := Nat.lt_of_lt_of_le hg hbel0.size
      clear hgc
      revert HI E1 hS_e a0 a1 a2 a3 a4 a5 a6 a7 a8 a9 a10 a11
      generalize hx : es[k] = x
      have HX : Hid (es[k] = x) := hx
      clear hx
      obtain ⟨e, p0, p1, p2, p3, p4, p5⟩ := x
      dsimp only
      intro a0 a1 a2 a3 a4 a5 a6 a7 a8 a9 a10 a11 E1 hS_e HI
      clear HI
      obtain ⟨V, hV⟩ : ∃ V, V = enOkE e := ⟨_, rfl⟩
      have KE : Hid (∀ u : World, Re u e p0 p2 p4 → Calls Try.prog 25 #[.agg #[.int .i64 e.num, .bool e.up, .int .i64 e.life, .int .i64 e.peer, .int .i64 e.since, .bool e.owes, .int .i64 e.b, .slice p0 e.xs.length p1, .int .i64 e.nx, .slice p2 e.hs.length p3, .string e.o, .slice p4 e.rs.length p5]] u fun x u' => x = .returned (.bool (enOkE e)) ∧ Below u.heap.size u u') := fun u h => specValidEnd_any e.num e.up e.life e.peer e.since e.owes e.b e.xs e.nx e.hs e.o e.rs p0 p2 p4 p1 p3 p5 u hS_e.n hS_e.t hS_e.tk.n hS_e.tk.t hS_e.tk.o hS_e.tk.k hS_e.tk.r h.send h.take
      rw [← hV] at KE
      have HR1 : Hid (Re wr e p0 p2 p4) := E1
      have HVV : Hid (V = enOkE e) := hV
      clear hV E1 hS_e
      by_cases hn : e.num = (k : Int) + 1
      · cases V with
        | true =>
          have HN : Hid (∀ j (h : j < es.length), j < k + 1 → enOkE es[j].e = true ∧ es[j].e.num = (j : Int) + 1) := fun j h hj => by
            rcases Nat.lt_or_ge j k with h1 | h1
            · exact HL.out j h h1
            · obtain rfl : j = k := by omega
              rw [HX.out]
              exact ⟨HVV.out.symm, hn⟩
          rw [hn] at KE a0
          clear hn
          go_wp2_with (first
            | (go_at_call 25; refine (KE.out _ HR1.out).mono ?_; rintro x w1 ⟨rfl, hb1⟩; (have k0 := (hb1.cell (p := ⟨g, k * 12, none⟩) hgr).trans a0); (have k2 := (hb1.cell (p := ⟨w.heap.size, 2, none⟩) hws).trans x2))
            | fail)
          go_roundw
          case rel => exact ⟨k + 1, by omega, by go_num, HN.out, hbel.trans (hb1.mono (by omega))⟩
          case measure => simp [intOf]; omega
        | false =>
          have HF : Hid (woOk key width es fl gv tk = false) := woOk_no (.inr (.inr (.inr (.inl (endsOk_no H2.out (j := k) (by have := H2.out; omega) (by rw [HX.out]; rw [← HVV.out]; simp))))))
          rw [hn] at KE a0
          clear hn
          go_wp2_with (first
            | (go_at_call 25; refine (KE.out _ HR1.out).mono ?_; rintro x w1 ⟨rfl, hb1⟩; (have k0 := (hb1.cell (p := ⟨g, k * 12, none⟩) hgr).trans a0); (have k2 := (hb1.cell (p := ⟨w.heap.size, 2, none⟩) hws).trans x2))
            | fail)
          go_ret
          exact ⟨ret_b (by rw [HF.out]), kb HB.out hb1 (by omega)⟩
      · have HF : Hid (woOk key width es fl gv tk = false) := woOk_no (.inr (.inr (.inr (.inl (endsOk_no H2.out (j := k) (by have := H2.out; omega) (by rw [HX.out]; simp [hn]))))))
        have hn' : ¬ ((k : Int) + 1) = e.num := fun h => hn h.symm
        cases V with
        | true =>
          go_wp2_with (first
            | (go_at_call 25; refine (KE.out _ HR1.out).mono ?_; rintro x w1 ⟨rfl, hb1⟩; (have k0 := (hb1.cell (p := ⟨g, k * 12, none⟩) hgr).trans a0); (have k2 := (hb1.cell (p := ⟨w.heap.size, 2, none⟩) hws).trans x2))
            | fail)
          go_ret
          exact ⟨ret_b (by rw [HF.out]), kb HB.out hb1 (by omega)⟩
        | false =>
          go_wp2_with (first
            | (go_at_call 25; refine (KE.out _ HR1.out).mono ?_; rintro x w1 ⟨rfl, hb1⟩; (have k0 := (hb1.cell (p := ⟨g, k * 12, none⟩) hgr).trans a0); (have k2 := (hb1.cell (p := ⟨w.heap.size, 2, none⟩) hws).trans x2))
            | fail)
          go_ret
          exact ⟨ret_b (by rw [HF.out]), kb HB.out hb1 (by omega)⟩
    · have hk2 : ((k : Nat) : Int) = 2 := by omega
      have HE : Hid (endsOk es = true) := endsOk_yes H2.out (fun j hj => HL.out j hj (by have := H2.out; omega))
      rw [hk2]
      clear HL X1 x0 x1 x2 x3 x4 x5 x6 hk2 hge hk
      clear k
      go_wp2
      go_loopw [4] (fun i wr => ∃ k : Nat, k ≤ fl.length ∧ i = .int .i64 k ∧ (∀ j (h : j < fl.length), j < k → PcOk fl[j]) ∧ Below (w.heap.size + 1) (w.alloc (.cells #[.string key, .int .i64 width, .slice eo 2 ce, .slice fo fl.length cf, .string fg, .slice go gv.length cg, .slice ko tk.length ck] 33)) wr) (fun i _ => fl.length - (intOf i).toNat)
      case atStart => exact ⟨0, Nat.zero_le _, rfl, fun j _ h => absurd h (by omega), hbel⟩
      case round =>
        clear hbel0 hbel HB hws
        obtain ⟨k, hk, rfl, hall, hbel⟩ := hrel
        have X1 : Bx wr w.heap.size 33 #[.string key, .int .i64 width, .slice eo 2 ce, .slice fo fl.length cf, .string fg, .slice go gv.length cg, .slice ko tk.length ck] := X0.out.keep (by simpa using hbel)
        have hbel0 : Below w.heap.size w wr := B0.out.trans (hbel.mono (by omega))
        have HB : Hid (Below w.heap.size w wr) := hbel0
        have HL : Hid (∀ j (h : j < fl.length), j < k → PcOk fl[j]) := hall
        clear hall
        have hws : w.heap.size < wr.heap.size := X1.lt
        have x0 := X1.cell 0; have x1 := X1.cell 1; have x2 := X1.cell 2; have x3 := X1.cell 3; have x4 := X1.cell 4; have x5 := X1.cell 5; have x6 := X1.cell 6
        simp at x0 x1 x2 x3 x4 x5 x6
        by_cases hlt : k < fl.length
        · rcases HR.out.flight.ex with h | ⟨g, rfl, hg, hgc⟩
          · omega
          obtain ⟨a0, a1, a2⟩ := Rs.pcs (n := 0) hg hgc hbel0 k hlt
          have hsz : fl[k].sent.size ≤ 1048576 ∧ fl[k].bytes.size ≤ 1048576 := HM.out.flight k hlt
          have HI : Hid (PcOk fl[k] ↔ PcOk ⟨fl[k].to, fl[k].sent, fl[k].bytes⟩) := Iff.rfl
          clear hgc
          generalize fl[k].to = vt at *
          generalize fl[k].sent = vs at *
          generalize fl[k].bytes = vb at *
          have B1 : Hid (∀ o : Obj, Below (w.heap.size + 1) (w.alloc (.cells #[.string key, .int .i64 width, .slice eo 2 ce, .slice (some ⟨g, 0, none⟩) fl.length cf, .string fg, .slice go gv.length cg, .slice ko tk.length ck] 33)) (wr.alloc o)) := fun o => hbel.alloc (by omega) _
          have B2 : Hid (∀ o : Obj, Below w.heap.size w (wr.alloc o)) := fun o => hbel0.alloc (by omega) _
          by_cases hok : PcOk ⟨vt, vs, vb⟩
          · have HN : Hid (∀ j (h : j < fl.length), j < k + 1 → PcOk fl[j]) := fun j h hj => by
              rcases Nat.lt_or_ge j k with h1 | h1
              · exact HL.out j h h1
              · obtain rfl : j = k := by omega
                exact HI.out.2 hok
            obtain ⟨⟨q1, q2⟩, q3, q4⟩ := hok
            dsimp only at q1 q2 q3 q4
            go_wp2_with (first | (go_at_call 24; first | (refine (l1In_true _ _ _ _ (by omega) (by omega)).mono ?_; rintro e w' ⟨rfl, rfl⟩) | (refine (l1In_false _ _ _ _ (by omega)).mono ?_; rintro e w' ⟨rfl, rfl⟩)) | fail)
            go_roundw
            case rel => exact ⟨k + 1, by omega, by go_num, HN.out, B1.out _⟩
            case measure => simp [intOf]; omega
          · have HF : Hid (woOk key width es fl gv tk = false) := woOk_no (.inr (.inr (.inr (.inr (.inl (pcsOk_no hlt (fun h => hok (HI.out.1 h))))))))
            have hcase : ¬ (1 ≤ vt ∧ vt ≤ 2) ∨ ((1 ≤ vt ∧ vt ≤ 2) ∧ 100 < vs.size) ∨ ((1 ≤ vt ∧ vt ≤ 2) ∧ vs.size ≤ 100 ∧ 100 < vb.size) := by
              unfold PcOk at hok
              dsimp only at hok
              omega
            clear hok HI HL
            rcases hcase with e | ⟨e0, e⟩ | ⟨e0, e1, e⟩
            all_goals go_wp2_with (first | (go_at_call 24; first | (refine (l1In_true _ _ _ _ (by omega) (by omega)).mono ?_; rintro e w' ⟨rfl, rfl⟩) | (refine (l1In_false _ _ _ _ (by omega)).mono ?_; rintro e w' ⟨rfl, rfl⟩)) | fail)
            all_goals go_ret
            all_goals exact ⟨ret_b (by rw [HF.out]), B2.out _⟩
        · obtain rfl : k = fl.length := by omega
          have HP : Hid (pcsOk fl = true) := pcsOk_yes (fun i h => HL.out i h h)
          obtain ⟨V1, hV1⟩ : ∃ V, V = rcsOk gv := ⟨_, rfl⟩
          obtain ⟨V2, hV2⟩ : ∃ V, V = rcsOk tk := ⟨_, rfl⟩
          have R1 : Hid (Rs wr go gv.length (rcs gv)) := HR.out.given.keep hbel0
          have R2 : Hid (Rs wr ko tk.length (rcs tk)) := HR.out.taken.keep hbel0
          have K1 : Hid (∀ u : World, Rs u go gv.length (rcs gv) → Calls Try.prog 26 #[.slice go gv.length cg] u fun x u' => x = .returned (.bool V1) ∧ Below u.heap.size u u') := fun u h => by rw [hV1]; exact recordsOk_any go cg gv u hgz HM.out.given h
          have K2 : Hid (∀ u : World, Rs u ko tk.length (rcs tk) → Calls Try.prog 26 #[.slice ko tk.length ck] u fun x u' => x = .returned (.bool V2) ∧ Below u.heap.size u u') := fun u h => by rw [hV2]; exact recordsOk_any ko ck tk u htz HM.out.taken h
          have HO : Hid (woOk key width es fl gv tk = (V1 && V2)) := (by unfold woOk; rw [S1.out, decide_eq_true s4, decide_eq_true s5, HE.out, HP.out, hV1, hV2]; simp : woOk key width es fl gv tk = (V1 && V2))
          clear hV1 hV2 HL
          cases V1 with
          | true =>
            go_wp2_with (first | (go_at_call_of 26 (Value.slice go gv.length cg); refine (K1.out _ R1.out).mono ?_; rintro x w1 ⟨rfl, hb1⟩; (have k6 := (hb1.cell (p := ⟨w.heap.size, 6, none⟩) hws).trans x6)) | (go_at_call_of 26 (Value.slice ko tk.length ck); refine (K2.out _ (R2.out.keep hb1)).mono ?_; rintro x w2 ⟨rfl, hb2⟩) | fail)
            go_ret
            exact ⟨ret_b (by rw [HO.out]; simp), kb (kb HB.out hb1 (by omega)) hb2 (by omega)⟩
          | false =>
            go_wp2_with (first | (go_at_call_of 26 (Value.slice go gv.length cg); refine (K1.out _ R1.out).mono ?_; rintro x w1 ⟨rfl, hb1⟩) | fail)
            go_ret
            exact ⟨ret_b (by rw [HO.out]; simp), kb HB.out hb1 (by omega)⟩
end Go.Proofs.Ytmliinglojmojab.mk

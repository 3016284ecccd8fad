/-
  A TAKE whose messages may be the tail of a row: eq, mark, held.
-/
import Derived.Test.YthjncmgjkejikaaOsA
import Derived.Test.YthjncmgjkejikaaMarks
namespace Go.Proofs.Ythjncmgjkejikaa.mp
open Go.RowKit mk
set_option linter.unusedVariables false

theorem eqStringS_same (ao bo : Option Addr) (ca cb : Nat) (xs : List ByteArray) (w : World) (hl : xs.length ≤ 1000000000) (ha : Rr w ao xs.length (ss xs)) (hb : Rr w bo xs.length (ss xs)) :
    Calls Try.prog 40 #[.slice ao xs.length ca, .slice bo xs.length cb] w fun e w' => e = .returned (.bool true) ∧ Below w.heap.size w w' := by
  have HA : Hid (Rr w ao xs.length (ss xs)) := ha
  have HB : Hid (Rr w bo xs.length (ss xs)) := hb
  clear ha hb
  go_enter Try.func40, Try.ntmps40
  go_wp2
  go_loopw [5] (fun i wr => ∃ k : Nat, k ≤ xs.length ∧ i = .int .i64 k ∧ Below w.heap.size w wr) (fun i _ => xs.length - (intOf i).toNat)
  case atStart => exact ⟨0, Nat.zero_le _, rfl, Below.refl _ _⟩
  case round =>
    obtain ⟨k, hk, rfl, hbel⟩ := hrel
    by_cases hlt : k < xs.length
    · rcases HA.out.ex with h | ⟨g, o0, rfl, hg, hgc⟩
      · omega
      rcases HB.out.ex with h | ⟨g', o1, rfl, hg', hgc'⟩
      · omega
      have hx := ss_at xs k hlt
      have hpl := ss_length xs
      have a0 : wr.cell? ⟨g, o0 + k, none⟩ = some (.string xs[k]) := (hbel.cell (p := ⟨g, o0 + k, none⟩) hg).trans ((hgc _ (by omega)).trans hx)
      have b0 : wr.cell? ⟨g', o1 + k, none⟩ = some (.string xs[k]) := (hbel.cell (p := ⟨g', o1 + k, none⟩) hg').trans ((hgc' _ (by omega)).trans hx)
      clear hx hgc hgc'
      generalize xs[k] = s at *
      go_wp2
      go_region_held3 (fun w' => w'.cell? ⟨g, o0 + k, none⟩ = some (.string s) ∧ w'.cell? ⟨g', o1 + k, none⟩ = some (.string s) ∧ Below wr.heap.size wr w')
        (first | assumption | exact ⟨a0, b0, (Below.refl _ _).drew⟩)
        (fail)
      go_wp2
      go_roundw
      case rel => exact ⟨k + 1, by omega, by go_num, hbel.drew⟩
      case measure => simp [intOf]; omega
    · obtain rfl : k = xs.length := by omega
      go_wp2
      go_ret
      exact ⟨rfl, hbel⟩
theorem markStringS_any (base : Nat) (v : Value) (n k : Nat) (xs : List Value) (w : World) (hn : n ≤ 1000000000) (hk0 : 0 < k) (hk1 : k ≤ 1000000000) (hown : Orw base v n xs w) :
    Calls Try.prog 42 #[v, .int .i64 (k : Int)] w fun e w' => e = .returned (.int .i64 ((k + n : Nat) : Int)) ∧ (∃ cs, Orw base v n cs w' ∧ Ms k n cs) ∧ w.grownBy w' v.ownBlock := by
  obtain ⟨ao, cap, rfl, hcap, hmax, hrs⟩ := hown.slice
  have HO : Hid (Orw base (.slice ao n cap) n xs w) := hown
  clear hown
  go_enter Try.func42, Try.ntmps42
  go_wp2
  go_loopw [1, 5] (fun q i wr => ∃ j : Nat, j ≤ n ∧ i = .int .i64 j ∧ q = .int .i64 ((k + j : Nat) : Int) ∧ (∃ cs, Orw base (.slice ao n cap) n cs wr ∧ Ms k j cs) ∧ w.grownBy wr (Value.slice ao n cap).ownBlock) (fun _ i _ => n - (intOf i).toNat)
  case atStart => exact ⟨0, Nat.zero_le _, rfl, rfl, ⟨xs, HO.out, fun i hi => absurd hi (by omega)⟩, grow_below _ (Below.refl _ _)⟩
  case round =>
    obtain ⟨j, hj, rfl, rfl, ⟨cs, hown, hM⟩, hgr⟩ := hrel
    by_cases hlt : j < n
    · rcases hrs.ex with h | ⟨g, o0, rfl, hg, hgc⟩
      · omega
      have hcl := hown.length
      have HK : Hid (∀ u : World, Calls Try.prog 72 #[.int .i64 ((k + j : Nat) : Int)] u fun e u' => e = .returned (.string (mkt (k + j))) ∧ Below u.heap.size u u') := fun u => markText_any _ u (by omega) (by omega)
      clear hgc
      obtain ⟨q, hq⟩ : ∃ q, q = k + j := ⟨_, rfl⟩
      rw [← hq] at HK ⊢
      have hqb : q ≤ 4000000000 := by omega
      have HQ : Hid (q = k + j) := hq
      clear hq
      have HW : Hid (Orw base (.slice (some ⟨g, o0, none⟩) n cap) n cs wr) := hown
      clear hown
      go_wp2_with (go_at_call 72; refine (HK.out _).mono ?_; rintro e w2 ⟨rfl, hb2⟩; (have ho2 := HW.out.kept (grow_below none hb2) (.inr (by simp [Value.ownBlock]))); (have c0 := ho2.cell j (by omega)); (rw [List.getElem?_eq_getElem (by omega)] at c0); (have f0 := ho2.frozen (o0 + j)))
      go_roundw
      case rel =>
        have hq := HQ.out
        refine ⟨j + 1, by omega, by go_num, by go_num, ⟨_, ho2.stored j (.string (mkt q)), ?_⟩, grow1 (n := n) (cap := cap) _ hgr hb2⟩
        rw [hq]
        exact hM.step (by omega)
      case measure => simp [intOf]; omega
    · obtain rfl : j = n := by omega
      go_wp2
      go_ret
      exact ⟨rfl, ⟨cs, hown, hM⟩, hgr⟩
theorem heldStringS_any (base : Nat) (v : Value) (n k : Nat) (cs : List Value) (w : World) (hn : n ≤ 1000000000) (hk0 : 0 < k) (hk1 : k ≤ 1000000000) (hown : Orw base v n cs w) (hM : Ms k n cs) :
    Calls Try.prog 44 #[v, .int .i64 (k : Int)] w fun e w' => e = .returned (.int .i64 ((k + n : Nat) : Int)) ∧ Below w.heap.size w w' := by
  obtain ⟨ao, cap, rfl, hcap, hmax, hrs⟩ := hown.slice
  have hcl := hown.length
  clear hown
  have HM : Hid (Ms k n cs) := hM
  clear hM
  go_enter Try.func44, Try.ntmps44
  go_wp2
  go_loopw [1, 5] (fun q i wr => ∃ j : Nat, j ≤ n ∧ i = .int .i64 j ∧ q = .int .i64 ((k + j : Nat) : Int) ∧ Below w.heap.size w wr) (fun _ i _ => n - (intOf i).toNat)
  case atStart => exact ⟨0, Nat.zero_le _, rfl, rfl, Below.refl _ _⟩
  case round =>
    obtain ⟨j, hj, rfl, rfl, hbel⟩ := hrel
    by_cases hlt : j < n
    · rcases hrs.ex with h | ⟨g, o0, rfl, hg, hgc⟩
      · omega
      have hm := HM.out j hlt
      have a0 : wr.cell? ⟨g, o0 + j, none⟩ = some (.string (mkt (k + j))) := (hbel.cell (p := ⟨g, o0 + j, none⟩) hg).trans ((hgc _ (by omega)).trans hm)
      have hgr : g < wr.heap.size := Nat.lt_of_lt_of_le hg hbel.size
      have HK : Hid (∀ u : World, Calls Try.prog 72 #[.int .i64 ((k + j : Nat) : Int)] u fun e u' => e = .returned (.string (mkt (k + j))) ∧ Below u.heap.size u u') := fun u => markText_any _ u (by omega) (by omega)
      clear hm hgc
      obtain ⟨q, hq⟩ : ∃ q, q = k + j := ⟨_, rfl⟩
      rw [← hq] at a0 HK ⊢
      have hqb : q ≤ 4000000000 := by omega
      have HQ : Hid (q = k + j) := hq
      clear hq
      go_wp2
      go_region_held3 (fun w' => w'.cell? ⟨g, o0 + j, none⟩ = some (.string (mkt q)) ∧ Below wr.heap.size wr w')
        (first | assumption | exact ⟨a0, (Below.refl _ _).drew⟩ | (go_split_ands; refine ⟨kp (by assumption) (by assumption) hb2 hgr, kb (by assumption) hb2 (Nat.le_refl _)⟩))
        (first | (go_at_call 72; refine (HK.out _).mono ?_; rintro e w2 ⟨rfl, hb2⟩))
      have hbl : Below wr.heap.size wr w2 := by go_split_ands; assumption
      go_wp2
      go_roundw
      case rel => exact ⟨j + 1, by omega, by go_num, by have := HQ.out; go_num, hbel.trans (hbl.mono hbel.size)⟩
      case measure => simp [intOf]; omega
    · obtain rfl : j = n := by omega
      go_wp2
      go_ret
      exact ⟨rfl, hbel⟩
structure Rt (w : World) (ao so : Option Addr) (xs : List Hd) (rs : List ByteArray) : Prop where
  held : Rs w ao xs.length (hs xs)
  ready : Rr w so rs.length (ss rs)
theorem Rt.keep {w w' : World} {ao so : Option Addr} {xs : List Hd} {rs : List ByteArray} (h : Rt w ao so xs rs) (hb : Below w.heap.size w w') : Rt w' ao so xs rs := ⟨h.held.keep hb, h.ready.keep hb⟩
theorem eqTake_same (z : Int) (ao so bo to : Option Addr) (ca cs cb ct : Nat) (xs : List Hd) (o : ByteArray) (rs : List ByteArray) (w : World) (hl : xs.length ≤ 1000000000) (hl2 : rs.length ≤ 1000000000) (ha : Rt w ao so xs rs) (hb : Rt w bo to xs rs) :
    Calls Try.prog 11 #[.agg #[.int .i64 z, .slice ao xs.length ca, .string o, .slice so rs.length cs], .agg #[.int .i64 z, .slice bo xs.length cb, .string o, .slice to rs.length ct]] w fun e w' => e = .returned (.bool true) ∧ Below w.heap.size w w' := by
  have HA : Hid (Rt w ao so xs rs) := ha
  have HB : Hid (Rt w bo to xs rs) := hb
  clear ha hb
  have b0 : ∀ (o p : Obj), Below w.heap.size w ((w.alloc o).alloc p) := fun o p => ((Below.refl _ _).alloc (Nat.le_refl _) _).alloc (by simp) _
  have HB0 : Hid (∀ (o p : Obj), Below w.heap.size w ((w.alloc o).alloc p)) := b0
  clear b0
  go_enter Try.func11, Try.ntmps11
  go_wp2_with (first
    | (go_at_call 39; refine (eqHeldS_same _ _ _ _ xs _ hl (HA.out.held.keep (HB0.out _ _)) (HB.out.held.keep (HB0.out _ _))).mono ?_; rintro e w1 ⟨rfl, hb1⟩; (have c2 := hb1.cell (p := ⟨w.heap.size, 2, none⟩) (by simp; omega)); (have c3 := hb1.cell (p := ⟨w.heap.size, 3, none⟩) (by simp; omega)); (have d2 := hb1.cell (p := ⟨w.heap.size + 1, 2, none⟩) (by simp)); (have d3 := hb1.cell (p := ⟨w.heap.size + 1, 3, none⟩) (by simp)); simp [go_sem] at c2 c3 d2 d3)
    | (go_at_call 40; refine (eqStringS_same _ _ _ _ rs _ hl2 ((HA.out.ready.keep (HB0.out _ _)).keep hb1) ((HB.out.ready.keep (HB0.out _ _)).keep hb1)).mono ?_; rintro e w2 ⟨rfl, hb2⟩))
  go_ret
  exact ⟨rfl, kb (kb (HB0.out _ _) hb1 (Nat.le_refl _)) hb2 (Nat.le_refl _)⟩
theorem Rt.of {w : World} {ao so : Option Addr} {xs : List Hd} {rs : List ByteArray} (h : mk.Rt w ao so xs rs) : Rt w ao so xs rs := ⟨h.held, h.ready.rr⟩
theorem markTake_any (base base' : Nat) (z : Int) (hv v : Value) (o : ByteArray) (n m k : Nat) (xs ys : List Value) (w : World) (hk : 0 < k) (hk2 : k ≤ 100000000) (hn : n ≤ 2000000) (hm : m ≤ 2000000) (h1 : w.ownsRow base 107 3 hv n xs) (h2 : Orw base' v m ys w) :
    Calls Try.prog 12 #[.agg #[.int .i64 z, hv, .string o, v], .int .i64 (k : Int)] w fun e w' => e = .returned (.int .i64 ((k + n * 3 + m : Nat) : Int)) ∧ (∃ cs, w'.ownsRow base 107 3 hv n cs ∧ Mh k n cs) ∧ (∃ ts, Orw base' v m ts w' ∧ Ms (k + n * 3) m ts) ∧ ∃ wm, w.grownBy wm hv.ownBlock ∧ wm.grownBy w' v.ownBlock := by
  obtain ⟨ao, ca, rfl, -, -, -⟩ := rs_of_owns h1
  obtain ⟨so, cs, rfl, -, -, -⟩ := h2.slice
  have H1 : Hid (w.ownsRow base 107 3 (.slice ao n ca) n xs) := h1
  have H2 : Hid (Orw base' (.slice so m cs) m ys w) := h2
  have HC : Hid (∀ u : World, u.ownsRow base 107 3 (.slice ao n ca) n xs → Calls Try.prog 41 #[.slice ao n ca, .int .i64 (k : Int)] u fun e w' => e = .returned (.int .i64 ((k + n * 3 : Nat) : Int)) ∧ (∃ cs, w'.ownsRow base 107 3 (.slice ao n ca) n cs ∧ Mh k n cs) ∧ u.grownBy w' (Value.slice ao n ca).ownBlock) := fun u h => markHeldS_any base _ n k xs u (by omega) hk (by omega) h
  obtain ⟨K, hK⟩ : ∃ K : Nat, K = k + n * 3 := ⟨_, rfl⟩
  have hKb : 0 < K ∧ K ≤ 1000000000 := by omega
  rw [← hK] at HC
  have HKe : Hid (K = k + n * 3) := hK
  have HD : Hid (∀ u : World, Orw base' (.slice so m cs) m ys u → Calls Try.prog 42 #[.slice so m cs, .int .i64 (K : Int)] u fun e w' => e = .returned (.int .i64 ((K + m : Nat) : Int)) ∧ (∃ ts, Orw base' (.slice so m cs) m ts w' ∧ Ms K m ts) ∧ u.grownBy w' (Value.slice so m cs).ownBlock) := fun u h => markStringS_any base' _ m K ys u (by omega) hKb.1 hKb.2 h
  have hbx : ∀ o' : Obj, Below w.heap.size w (w.alloc o') := fun o' => (Below.refl _ _).alloc (Nat.le_refl _) _
  have HBX : Hid (∀ o' : Obj, Below w.heap.size w (w.alloc o')) := hbx
  have X0 : Hid ((w.alloc (.cells #[.int .i64 z, .slice ao n ca, .string o, .slice so m cs] 29)).heap[w.heap.size]? = some (.cells #[.int .i64 z, .slice ao n ca, .string o, .slice so m cs] 29 (0, 0))) := heap_alloc_new w _
  have hnb : some w.heap.size ≠ (Value.slice ao n ca).ownBlock := fun e => by have := (h1.lt _ e.symm).2; omega
  have HNB : Hid (some w.heap.size ≠ (Value.slice ao n ca).ownBlock) := hnb
  clear h1 h2 hK hbx hnb
  go_enter Try.func12, Try.ntmps12
  go_wp2_with (first
    | (go_at_call 41; refine (HC.out _ (H1.out.alloc _)).mono ?_; rintro e w1 ⟨rfl, ⟨cs1, ho1, hM1⟩, hg1⟩; (have X1 := (hg1.block w.heap.size (by simp) HNB.out).trans X0.out); (have c3 : w1.cell? ⟨w.heap.size, 3, none⟩ = some (.slice so m cs) := by simp [World.cell?, X1]); (have ho2 := (H2.out.alloc (.cells #[.int .i64 z, .slice ao n ca, .string o, .slice so m cs] 29)).kept hg1 (Orw.ne2 (H1.out.alloc _) (H2.out.alloc (.cells #[.int .i64 z, .slice ao n ca, .string o, .slice so m cs] 29)) (by decide))))
    | (go_at_call 42; refine (HD.out _ ho2).mono ?_; rintro e w2 ⟨rfl, ⟨ts, ho3, hM3⟩, hg2⟩)
    | fail)
  go_ret
  refine ⟨by rw [HKe.out]; exact congrArg (fun z => Ending.returned (Value.int .i64 z)) (by omega), ⟨cs1, ho1.kept hg2 (Orw.ne ho1 ho2 (by decide)), hM1⟩, ⟨ts, ho3, by rw [← HKe.out]; exact hM3⟩, w1, (World.grownBy_alloc w _ _).trans hg1, hg2⟩
theorem heldTake_any (base base' : Nat) (z : Int) (hv v : Value) (o : ByteArray) (n m k : Nat) (xs ys : List Value) (w : World) (hk : 0 < k) (hk2 : k ≤ 100000000) (hn : n ≤ 2000000) (hm : m ≤ 2000000) (h1 : w.ownsRow base 107 3 hv n xs) (h2 : Orw base' v m ys w) (hM1 : Mh k n xs) (hM2 : Ms (k + n * 3) m ys) :
    Calls Try.prog 13 #[.agg #[.int .i64 z, hv, .string o, v], .int .i64 (k : Int)] w fun e w' => e = .returned (.int .i64 ((k + n * 3 + m : Nat) : Int)) ∧ Below w.heap.size w w' := by
  obtain ⟨ao, ca, rfl, -, -, -⟩ := rs_of_owns h1
  obtain ⟨so, cs, rfl, -, -, -⟩ := h2.slice
  have H1 : Hid (w.ownsRow base 107 3 (.slice ao n ca) n xs) := h1
  have H2 : Hid (Orw base' (.slice so m cs) m ys w) := h2
  have HC : Hid (∀ u : World, u.ownsRow base 107 3 (.slice ao n ca) n xs → Calls Try.prog 43 #[.slice ao n ca, .int .i64 (k : Int)] u fun e w' => e = .returned (.int .i64 ((k + n * 3 : Nat) : Int)) ∧ Below u.heap.size u w') := fun u h => heldHeldS_any base _ n k xs u (by omega) hk (by omega) h hM1
  obtain ⟨K, hK⟩ : ∃ K : Nat, K = k + n * 3 := ⟨_, rfl⟩
  have hKb : 0 < K ∧ K ≤ 1000000000 := by omega
  rw [← hK] at HC hM2
  have HKe : Hid (K = k + n * 3) := hK
  have HD : Hid (∀ u : World, Orw base' (.slice so m cs) m ys u → Calls Try.prog 44 #[.slice so m cs, .int .i64 (K : Int)] u fun e w' => e = .returned (.int .i64 ((K + m : Nat) : Int)) ∧ Below u.heap.size u w') := fun u h => heldStringS_any base' _ m K ys u (by omega) hKb.1 hKb.2 h hM2
  have HB0 : Hid (∀ o' : Obj, Below w.heap.size w (w.alloc o')) := fun o' => (Below.refl _ _).alloc (Nat.le_refl _) _
  clear h1 h2 hK hM1 hM2
  go_enter Try.func13, Try.ntmps13
  go_wp2_with (first
    | (go_at_call 43; refine (HC.out _ (H1.out.alloc _)).mono ?_; rintro e w1 ⟨rfl, hb1⟩; (have c3 := hb1.cell (p := ⟨w.heap.size, 3, none⟩) (by simp)); simp [go_sem] at c3)
    | (go_at_call 44; refine (HD.out _ ((H2.out.alloc _).keep hb1)).mono ?_; rintro e w2 ⟨rfl, hb2⟩)
    | fail)
  go_ret
  exact ⟨by rw [HKe.out]; exact congrArg (fun z => Ending.returned (Value.int .i64 z)) (by omega), kb (kb (HB0.out _) hb1 (Nat.le_refl _)) hb2 (Nat.le_refl _)⟩
end Go.Proofs.Ythjncmgjkejikaa.mp

/-
  MARKS: what the laws' mark and held functions do to a Take.
-/
import Derived.Test.YtfjedpnagnnobaaMkH
namespace Go.Proofs.Ytfjedpnagnnobaa.mk
open Go.RowKit
set_option linter.unusedVariables false

theorem markStringS_any (base : Nat) (v : Value) (n k : Nat) (xs : List Value) (w : World) (hn : n ≤ 1000000000) (hk0 : 0 < k) (hk1 : k ≤ 1000000000) (hown : w.ownsRow base 9 1 v n xs) :
    Calls Try.prog 65 #[v, .int .i64 (k : Int)] w fun e w' => e = .returned (.int .i64 ((k + n : Nat) : Int)) ∧ (∃ cs, w'.ownsRow base 9 1 v n cs ∧ Ms k n cs) ∧ w.grownBy w' v.ownBlock := by
  obtain ⟨ao, cap, rfl, hcap, hmax, hrs⟩ := rs_of_owns hown
  have HO : Hid (w.ownsRow base 9 1 (.slice ao n cap) n xs) := hown
  clear hown
  go_enter Try.func65, Try.ntmps65
  go_wp2
  go_loopw [1, 5] (fun q i wr => ∃ j : Nat, j ≤ n ∧ i = .int .i64 j ∧ q = .int .i64 ((k + j : Nat) : Int) ∧ (∃ cs, wr.ownsRow base 9 1 (.slice ao n cap) n cs ∧ Ms k j cs) ∧ w.grownBy wr (Value.slice ao n cap).ownBlock) (fun _ i _ => n - (intOf i).toNat)
  case atStart => exact ⟨0, Nat.zero_le _, rfl, rfl, ⟨xs, HO.out, fun i hi => absurd hi (by omega)⟩, grow_below _ (Below.refl _ _)⟩
  case round =>
    obtain ⟨j, hj, rfl, rfl, ⟨cs, hown, hM⟩, hgr⟩ := hrel
    by_cases hlt : j < n
    · rcases hrs.ex with h | ⟨g, rfl, hg, hgc⟩
      · omega
      have hcl := hown.1
      have HK : Hid (∀ u : World, Calls Try.prog 74 #[.int .i64 ((k + j : Nat) : Int)] u fun e u' => e = .returned (.string (mkt (k + j))) ∧ Below u.heap.size u u') := fun u => markText_any _ u (by omega) (by omega)
      clear hgc
      obtain ⟨q, hq⟩ : ∃ q, q = k + j := ⟨_, rfl⟩
      rw [← hq] at HK ⊢
      have hqb : q ≤ 4000000000 := by omega
      have HQ : Hid (q = k + j) := hq
      clear hq
      have HW : Hid (wr.ownsRow base 9 1 (.slice (some ⟨g, 0, none⟩) n cap) n cs) := hown
      clear hown
      go_wp2_with (go_at_call 74; refine (HK.out _).mono ?_; rintro e w2 ⟨rfl, hb2⟩; (have ho2 := HW.out.kept (grow_below none hb2) (.inr (by simp [Value.ownBlock]))); (have c0 := ho2.cellAt j (by omega)); (rw [List.getElem?_eq_getElem (by omega)] at c0); (have f0 := ho2.frozenAt j))
      go_roundw
      case rel =>
        have hq := HQ.out
        refine ⟨j + 1, by omega, by go_num, by go_num, ⟨_, (ho2.stored j (.string (mkt q))).1, ?_⟩, grow1 _ hgr hb2⟩
        rw [hq]
        exact hM.step (by omega)
      case measure => simp [intOf]; omega
    · obtain rfl : j = n := by omega
      go_wp2
      go_ret
      exact ⟨rfl, ⟨cs, hown, hM⟩, hgr⟩
theorem heldStringS_any (base : Nat) (v : Value) (n k : Nat) (cs : List Value) (w : World) (hn : n ≤ 1000000000) (hk0 : 0 < k) (hk1 : k ≤ 1000000000) (hown : w.ownsRow base 9 1 v n cs) (hM : Ms k n cs) :
    Calls Try.prog 68 #[v, .int .i64 (k : Int)] w fun e w' => e = .returned (.int .i64 ((k + n : Nat) : Int)) ∧ Below w.heap.size w w' := by
  obtain ⟨ao, cap, rfl, hcap, hmax, hrs⟩ := rs_of_owns hown
  have hcl := hown.1
  clear hown
  have HM : Hid (Ms k n cs) := hM
  clear hM
  go_enter Try.func68, Try.ntmps68
  go_wp2
  go_loopw [1, 5] (fun q i wr => ∃ j : Nat, j ≤ n ∧ i = .int .i64 j ∧ q = .int .i64 ((k + j : Nat) : Int) ∧ Below w.heap.size w wr) (fun _ i _ => n - (intOf i).toNat)
  case atStart => exact ⟨0, Nat.zero_le _, rfl, rfl, Below.refl _ _⟩
  case round =>
    obtain ⟨j, hj, rfl, rfl, hbel⟩ := hrel
    by_cases hlt : j < n
    · rcases hrs.ex with h | ⟨g, rfl, hg, hgc⟩
      · omega
      have hm := HM.out j hlt
      have a0 : wr.cell? ⟨g, j, none⟩ = some (.string (mkt (k + j))) := (hbel.cell (p := ⟨g, j, none⟩) hg).trans ((hgc _ (by omega)).trans hm)
      have hgr : g < wr.heap.size := Nat.lt_of_lt_of_le hg hbel.size
      have HK : Hid (∀ u : World, Calls Try.prog 74 #[.int .i64 ((k + j : Nat) : Int)] u fun e u' => e = .returned (.string (mkt (k + j))) ∧ Below u.heap.size u u') := fun u => markText_any _ u (by omega) (by omega)
      clear hm hgc
      obtain ⟨q, hq⟩ : ∃ q, q = k + j := ⟨_, rfl⟩
      rw [← hq] at a0 HK ⊢
      have hqb : q ≤ 4000000000 := by omega
      have HQ : Hid (q = k + j) := hq
      clear hq
      go_wp2
      go_region_held3 (fun w' => w'.cell? ⟨g, j, none⟩ = some (.string (mkt q)) ∧ Below wr.heap.size wr w')
        (first | assumption | exact ⟨a0, (Below.refl _ _).drew⟩ | (go_split_ands; refine ⟨kp (by assumption) (by assumption) hb2 hgr, kb (by assumption) hb2 (Nat.le_refl _)⟩))
        (first | (go_at_call 74; refine (HK.out _).mono ?_; rintro e w2 ⟨rfl, hb2⟩))
      have hbl : Below wr.heap.size wr w2 := by go_split_ands; assumption
      go_wp2
      go_roundw
      case rel => exact ⟨j + 1, by omega, by go_num, by have := HQ.out; go_num, hbel.trans (hbl.mono hbel.size)⟩
      case measure => simp [intOf]; omega
    · obtain rfl : j = n := by omega
      go_wp2
      go_ret
      exact ⟨rfl, hbel⟩
theorem rows_ne6 {w : World} {b b' : Nat} {e e' : TypeId} {sz sz' n n' : Nat} {v v' : Value} {xs xs' : List Value} (h : w.ownsRow b e sz v n xs) (h' : w.ownsRow b' e' sz' v' n' xs') (hne : e ≠ e') : v.ownBlock = none ∨ v.ownBlock ≠ v'.ownBlock := by
  rcases h.2 with ⟨rfl, _⟩ | ⟨g, cap, cur, rfl, _, hg, _⟩
  · exact .inl rfl
  right
  rcases h'.2 with ⟨rfl, _⟩ | ⟨g', cap', cur', rfl, _, hg', _⟩
  · simp [Value.ownBlock]
  · intro e2
    simp only [Value.ownBlock, Option.some.injEq] at e2
    subst e2
    rw [hg] at hg'
    simp at hg'
    exact hne hg'.2
theorem markTake_any (base base' : Nat) (z : Int) (hv v : Value) (o : ByteArray) (n m k : Nat) (xs ys : List Value) (w : World) (hk : 0 < k) (hk2 : k ≤ 100000000) (hn : n ≤ 2000000) (hm : m ≤ 2000000) (h1 : w.ownsRow base 125 3 hv n xs) (h2 : w.ownsRow base' 9 1 v m ys) :
    Calls Try.prog 29 #[.agg #[.int .i64 z, hv, .string o, v], .int .i64 (k : Int)] w fun e w' => e = .returned (.int .i64 ((k + n * 3 + m : Nat) : Int)) ∧ (∃ cs, w'.ownsRow base 125 3 hv n cs ∧ Mh k n cs) ∧ (∃ ts, w'.ownsRow base' 9 1 v m ts ∧ Ms (k + n * 3) m ts) ∧ ∃ wm, w.grownBy wm hv.ownBlock ∧ wm.grownBy w' v.ownBlock := by
  obtain ⟨ao, ca, rfl, -, -, -⟩ := rs_of_owns h1
  obtain ⟨so, cs, rfl, -, -, -⟩ := rs_of_owns h2
  have H1 : Hid (w.ownsRow base 125 3 (.slice ao n ca) n xs) := h1
  have H2 : Hid (w.ownsRow base' 9 1 (.slice so m cs) m ys) := h2
  have HC : Hid (∀ u : World, u.ownsRow base 125 3 (.slice ao n ca) n xs → Calls Try.prog 64 #[.slice ao n ca, .int .i64 (k : Int)] u fun e w' => e = .returned (.int .i64 ((k + n * 3 : Nat) : Int)) ∧ (∃ cs, w'.ownsRow base 125 3 (.slice ao n ca) n cs ∧ Mh k n cs) ∧ u.grownBy w' (Value.slice ao n ca).ownBlock) := fun u h => markHeldS_any base _ n k xs u (by omega) hk (by omega) h
  obtain ⟨K, hK⟩ : ∃ K : Nat, K = k + n * 3 := ⟨_, rfl⟩
  have hKb : 0 < K ∧ K ≤ 1000000000 := by omega
  rw [← hK] at HC
  have HKe : Hid (K = k + n * 3) := hK
  have HD : Hid (∀ u : World, u.ownsRow base' 9 1 (.slice so m cs) m ys → Calls Try.prog 65 #[.slice so m cs, .int .i64 (K : Int)] u fun e w' => e = .returned (.int .i64 ((K + m : Nat) : Int)) ∧ (∃ ts, w'.ownsRow base' 9 1 (.slice so m cs) m ts ∧ Ms K m ts) ∧ u.grownBy w' (Value.slice so m cs).ownBlock) := fun u h => markStringS_any base' _ m K ys u (by omega) hKb.1 hKb.2 h
  have hbx : ∀ o' : Obj, Below w.heap.size w (w.alloc o') := fun o' => (Below.refl _ _).alloc (Nat.le_refl _) _
  have HBX : Hid (∀ o' : Obj, Below w.heap.size w (w.alloc o')) := hbx
  have X0 : Hid ((w.alloc (.cells #[.int .i64 z, .slice ao n ca, .string o, .slice so m cs] 37)).heap[w.heap.size]? = some (.cells #[.int .i64 z, .slice ao n ca, .string o, .slice so m cs] 37 (0, 0))) := heap_alloc_new w _
  have hnb : some w.heap.size ≠ (Value.slice ao n ca).ownBlock := fun e => by have := (h1.lt _ e.symm).2; omega
  have HNB : Hid (some w.heap.size ≠ (Value.slice ao n ca).ownBlock) := hnb
  clear h1 h2 hK hbx hnb
  go_enter Try.func29, Try.ntmps29
  go_wp2_with (first
    | (go_at_call 64; refine (HC.out _ (H1.out.alloc _)).mono ?_; rintro e w1 ⟨rfl, ⟨cs1, ho1, hM1⟩, hg1⟩; (have X1 := (hg1.block w.heap.size (by simp) HNB.out).trans X0.out); (have c3 : w1.cell? ⟨w.heap.size, 3, none⟩ = some (.slice so m cs) := by simp [World.cell?, X1]); (have ho2 := (H2.out.alloc (.cells #[.int .i64 z, .slice ao n ca, .string o, .slice so m cs] 37)).kept hg1 (rows_ne6 (H2.out.alloc (.cells #[.int .i64 z, .slice ao n ca, .string o, .slice so m cs] 37)) (H1.out.alloc _) (by decide))))
    | (go_at_call 65; refine (HD.out _ ho2).mono ?_; rintro e w2 ⟨rfl, ⟨ts, ho3, hM3⟩, hg2⟩)
    | fail)
  go_ret
  refine ⟨by rw [HKe.out]; exact congrArg (fun z => Ending.returned (Value.int .i64 z)) (by omega), ⟨cs1, ho1.kept hg2 (rows_ne6 ho1 ho2 (by decide)), hM1⟩, ⟨ts, ho3, by rw [← HKe.out]; exact hM3⟩, w1, (World.grownBy_alloc w _ _).trans hg1, hg2⟩
theorem heldTake_any (base base' : Nat) (z : Int) (hv v : Value) (o : ByteArray) (n m k : Nat) (xs ys : List Value) (w : World) (hk : 0 < k) (hk2 : k ≤ 100000000) (hn : n ≤ 2000000) (hm : m ≤ 2000000) (h1 : w.ownsRow base 125 3 hv n xs) (h2 : w.ownsRow base' 9 1 v m ys) (hM1 : Mh k n xs) (hM2 : Ms (k + n * 3) m ys) :
    Calls Try.prog 31 #[.agg #[.int .i64 z, hv, .string o, v], .int .i64 (k : Int)] w fun e w' => e = .returned (.int .i64 ((k + n * 3 + m : Nat) : Int)) ∧ Below w.heap.size w w' := by
  obtain ⟨ao, ca, rfl, -, -, -⟩ := rs_of_owns h1
  obtain ⟨so, cs, rfl, -, -, -⟩ := rs_of_owns h2
  have H1 : Hid (w.ownsRow base 125 3 (.slice ao n ca) n xs) := h1
  have H2 : Hid (w.ownsRow base' 9 1 (.slice so m cs) m ys) := h2
  have HC : Hid (∀ u : World, u.ownsRow base 125 3 (.slice ao n ca) n xs → Calls Try.prog 67 #[.slice ao n ca, .int .i64 (k : Int)] u fun e w' => e = .returned (.int .i64 ((k + n * 3 : Nat) : Int)) ∧ Below u.heap.size u w') := fun u h => heldHeldS_any base _ n k xs u (by omega) hk (by omega) h hM1
  obtain ⟨K, hK⟩ : ∃ K : Nat, K = k + n * 3 := ⟨_, rfl⟩
  have hKb : 0 < K ∧ K ≤ 1000000000 := by omega
  rw [← hK] at HC hM2
  have HKe : Hid (K = k + n * 3) := hK
  have HD : Hid (∀ u : World, u.ownsRow base' 9 1 (.slice so m cs) m ys → Calls Try.prog 68 #[.slice so m cs, .int .i64 (K : Int)] u fun e w' => e = .returned (.int .i64 ((K + m : Nat) : Int)) ∧ Below u.heap.size u w') := fun u h => heldStringS_any base' _ m K ys u (by omega) hKb.1 hKb.2 h hM2
  have HB0 : Hid (∀ o' : Obj, Below w.heap.size w (w.alloc o')) := fun o' => (Below.refl _ _).alloc (Nat.le_refl _) _
  clear h1 h2 hK hM1 hM2
  go_enter Try.func31, Try.ntmps31
  go_wp2_with (first
    | (go_at_call 67; refine (HC.out _ (H1.out.alloc _)).mono ?_; rintro e w1 ⟨rfl, hb1⟩; (have c3 := hb1.cell (p := ⟨w.heap.size, 3, none⟩) (by simp)); simp [go_sem] at c3)
    | (go_at_call 68; refine (HD.out _ (owns_keep (H2.out.alloc _) hb1)).mono ?_; rintro e w2 ⟨rfl, hb2⟩)
    | fail)
  go_ret
  exact ⟨by rw [HKe.out]; exact congrArg (fun z => Ending.returned (Value.int .i64 z)) (by omega), kb (kb (HB0.out _) hb1 (Nat.le_refl _)) hb2 (Nat.le_refl _)⟩
end Go.Proofs.Ytfjedpnagnnobaa.mk

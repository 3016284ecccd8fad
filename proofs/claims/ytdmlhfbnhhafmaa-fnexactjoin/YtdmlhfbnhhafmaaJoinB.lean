/-
  JOINING: impl.Join.
-/
import Derived.Test.YtdmlhfbnhhafmaaJoinA
import Derived.Deep.AppendLies
namespace Go.Proofs.Ytdmlhfbnhhafmaa.mk
open Go.RowKit
set_option linter.unusedVariables false

theorem info_u8 : (Try.prog.info? 5).map (fun i => (i.zero, i.size, i.bytes)) = some (some (.int .u8 0), 1, 1) := by kernel_rfl
theorem strCells_at (s : ByteArray) (i : Nat) (h : i < s.size) : (Lib.strCells s)[i]? = some (.int .u8 ((tag.nums s.data.toList).getD i 0)) := by
  have h' : i < s.data.toList.length := by simpa using h
  have h2 : i < s.data.size := h
  simp [Lib.strCells, tag.nums, List.getD, Array.getElem?_eq_getElem h2]
theorem conv_own {w : World} {base n c : Nat} {ao : Option Addr} (s : ByteArray) (h : w.ownsRow base 5 1 (.slice ao n c) n (Lib.strCells s)) :
    (convert 29 9 (.slice ao n c)).run Try.prog w = .ok (.string s) w := by
  have hn : s.size = n := by have := h.1; rw [Lib.strCells_length] at this; omega
  rcases h.2 with ⟨e, h0⟩ | ⟨g, cap, cur, e, h1, h2, h3, h4, h5, h6⟩
  · have hs : s = ByteArray.empty := by
      apply ByteArray.ext
      exact Array.eq_empty_of_size_eq_zero (show s.size = 0 by omega)
    cases e
    rw [hs]
    exact run_convert_bytes_nil (P := Try.prog) w 29 5 Try.underlying29 Try.underlying5 0 0 9 Try.underlying9
  · cases e
    have hcv := run_convert_bytes_arg (P := Try.prog) w 29 5 Try.underlying29 Try.underlying5 g 0 n c (tag.nums s.data.toList) (by rw [tag.nums_length, Array.length_toList]; exact hn)
      (fun i hi => by
        rw [Nat.zero_add, h.cellAt _ (by omega)]
        exact strCells_at s i (by omega)) 9 Try.underlying9
    rw [hcv, tag.strOfNums_nums]
theorem rows_ne {w : World} {b b' : Nat} {e e' : TypeId} {sz sz' n n' : Nat} {v v' : Value} {xs xs' : List Value} (h : w.ownsRow b e sz v n xs) (h' : w.ownsRow b' e' sz' v' n' xs') (hne : e ≠ e') : v.ownBlock = none ∨ v.ownBlock ≠ v'.ownBlock := by
  rcases h.2 with ⟨rfl, _⟩ | ⟨g, cap, cur, rfl, _, hg, _⟩
  · exact .inl rfl
  right
  rcases h'.2 with ⟨rfl, _⟩ | ⟨g', cap', cur', rfl, _, hg', _⟩
  · simp [Value.ownBlock]
  · intro e2
    simp only [Value.ownBlock, Option.some.injEq] at e2
    subst e2
    rw [hg] at hg'
    simp at hg'
    exact hne hg'.2
theorem owns_cut {w : World} {b n c : Nat} {e : TypeId} {sz : Nat} {ao : Option Addr} {xs : List Value} (h : w.ownsRow b e sz (.slice ao n c) n xs) : w.ownsRow b e sz (.slice ao 0 c) 0 [] := by
  rcases h.2 with ⟨e1, _⟩ | ⟨g, cap, cur, e1, h1, h2, h3, h4, h5, h6⟩
  · cases e1; exact World.ownsRow_nil _ _ _ _
  · cases e1; exact ⟨by simp, .inr ⟨g, c, cur, rfl, h1, h2, Nat.zero_le _, h4, h5, by simp⟩⟩
theorem grow_new {w w1 : World} {o : Obj} {row : Option Nat} (hg : (w.alloc o).grownBy w1 row) (hr : ∀ k, row = some k → k < w.heap.size) (j : Nat) : w1.cell? ⟨w.heap.size, j, none⟩ = (w.alloc o).cell? ⟨w.heap.size, j, none⟩ :=
  World.cell?_of_block (w := w.alloc o) (a := ⟨w.heap.size, j, none⟩) (hg.block _ (by simp) (fun e => by have := hr _ e.symm; exact absurd this (Nat.lt_irrefl _)))
theorem strCells_app (o s : ByteArray) : Lib.strCells (o ++ s) = Lib.strCells o ++ Lib.strCells s := by simp [Lib.strCells, ByteArray.data_append]
theorem box_one (w : World) (s : ByteArray) (t : Bool) : (w.alloc (.cells #[.string s, .bool t] 66)).cell? ⟨w.heap.size, 1, none⟩ = some (.bool t) := by simp [go_sem]
set_option maxRecDepth 100000 in
set_option maxHeartbeats 2000000 in
theorem implJoin_yes (ao : Option Addr) (cap : Nat) (xs : List (ByteArray × Bool)) (w : World) (hl : xs.length ≤ 1000000) (hz : ∀ i (h : i < xs.length), xs[i].1.size ≤ 1048576) (hr : Rs w ao xs.length (ps xs)) (J : List ByteArray × ByteArray × Bool) (hJ : J = jn xs [] ⟨#[]⟩) :
    Calls Try.prog 17 #[.slice ao xs.length cap] w fun e w' => (∃ v, e = .returned (.tuple #[v, .string J.2.1, .bool J.2.2]) ∧ w'.ownsRow w.heap.size 9 1 v J.1.length (ss J.1)) ∧ Below w.heap.size w w' := by
  obtain ⟨i0, hi, hz0, hz1, hz2⟩ := info_parts info_string
  obtain ⟨j0, hj, hy0, hy1, hy2⟩ := info_parts info_u8
  have HR : Hid (Rs w ao xs.length (ps xs)) := hr
  have HZ : Hid (∀ i (h : i < xs.length), xs[i].1.size ≤ 1048576) := hz
  have HJ : Hid (J = jn xs [] ⟨#[]⟩) := hJ
  clear hr hz hJ
  go_enter Try.func17, Try.ntmps17
  go_wp2
  go_loopw [5, 6, 14] (fun m y i wr => ∃ (k : Nat) (ms : List ByteArray) (o : ByteArray) (yo : Option Addr) (yc : Nat), k ≤ xs.length ∧ i = .int .i64 k ∧ y = .slice yo o.size yc ∧ o.size ≤ 200 ∧ ms.length ≤ k ∧ jn (xs.drop k) ms o = J ∧ wr.ownsRow w.heap.size 5 1 (.slice yo o.size yc) o.size (Lib.strCells o) ∧ wr.ownsRow w.heap.size 9 1 m ms.length (ss ms) ∧ Below w.heap.size w wr) (fun _ _ i _ => xs.length - (intOf i).toNat)
  case atStart => exact ⟨0, [], ⟨#[]⟩, none, 0, Nat.zero_le _, rfl, rfl, by decide, by simp, HJ.out.symm, World.ownsRow_nil _ _ _ _, World.ownsRow_nil _ _ _ _, Below.refl _ _⟩
  case round =>
    obtain ⟨k, ms, o, yo, yc, hk, rfl, rfl, ho, hms, hjn, hopen, hown, hbel⟩ := hrel
    by_cases hlt : k < xs.length
    · rcases HR.out.ex with h | ⟨g, rfl, hg, hgc⟩
      · omega
      have hx := ps_at xs k hlt
      have hpl := ps_length xs
      have a0 : wr.cell? ⟨g, k * 2, none⟩ = some (.string xs[k].1) := (hbel.cell (p := ⟨g, k * 2, none⟩) hg).trans ((hgc _ (by omega)).trans hx.1)
      have a1 : wr.cell? ⟨g, k * 2 + 1, none⟩ = some (.bool xs[k].2) := (hbel.cell (p := ⟨g, k * 2 + 1, none⟩) hg).trans ((hgc _ (by omega)).trans hx.2)
      have hsz := HZ.out k hlt
      rw [jn_at xs k ms o hlt] at hjn
      clear hx hgc
      generalize xs[k].1 = s at *
      generalize xs[k].2 = t at *
      have HN : Hid ((if 20 < s.size ∨ 200 < o.size + s.size then ([], ⟨#[]⟩, false) else if t then jn (xs.drop (k + 1)) (ms ++ [o ++ s]) ⟨#[]⟩ else jn (xs.drop (k + 1)) ms (o ++ s)) = J) := hjn
      clear hjn
      by_cases hb1 : 20 < s.size
      · have hJ : J = ([], ⟨#[]⟩, false) := by rw [← HN.out, if_pos (.inl hb1)]
        subst hJ
        go_wp2
        exact bodyPost_ret (v := .tuple #[_, .string ⟨#[]⟩, .bool false]) (by simp [results, Try.results17, go_sem]) rfl ⟨⟨_, rfl, World.ownsRow_nil _ _ _ _⟩, hbel.alloc hbel.size _⟩
      · by_cases hb2 : 200 < o.size + s.size
        · have hJ : J = ([], ⟨#[]⟩, false) := by rw [← HN.out, if_pos (.inr hb2)]
          subst hJ
          go_wp2
          exact bodyPost_ret (v := .tuple #[_, .string ⟨#[]⟩, .bool false]) (by simp [results, Try.results17, go_sem]) rfl ⟨⟨_, rfl, World.ownsRow_nil _ _ _ _⟩, hbel.alloc hbel.size _⟩
        · have hN : (if t then jn (xs.drop (k + 1)) (ms ++ [o ++ s]) ⟨#[]⟩ else jn (xs.drop (k + 1)) ms (o ++ s)) = J := by have q := HN.out; rw [if_neg (by omega)] at q; exact q
          have hos : (o ++ s).size = o.size + s.size := ByteArray.size_append
          clear HN
          cases t with
          | true =>
            have HN : Hid (jn (xs.drop (k + 1)) (ms ++ [o ++ s]) ⟨#[]⟩ = J) := (by simpa using hN : _ = J)
            clear hN
            go_wp2_with (first | (at_builtin; refine Lib.wpList_append_own_string _ rfl _ _ 29 9 rfl w.heap.size 5 j0 Try.underlying29 Try.underlying9 hj hy0 hy1 hy2 _ _ _ rfl (hopen.alloc _) s rfl (by unfold maxLen; omega) (by omega) (by have := hbel.size; simp; omega) ?_; intro v' w1 hown' hgrow _; (obtain ⟨bo, bc, rfl, bk, bm, br⟩ := rs_of_owns hown'); (rw [← strCells_app] at hown'); (have cvt := conv_own (o ++ s) hown'); (have d1 := (grow_new hgrow (fun k hk => (hopen.lt k hk).2) 1).trans (box_one _ _ _)); (have hm1 := (hown.alloc _).kept hgrow (rows_ne hown hopen (by decide)))) | (at_builtin; refine wpList_append_own _ rfl _ _ 31 rfl w.heap.size 9 i0 (.string ⟨#[]⟩) 1 16 Try.underlying31 hi hz0 hz1 hz2 rfl (by decide) _ _ _ rfl (hm1.alloc _) ⟨w1.heap.size, 0, none⟩ 1 1 [.string (o ++ s)] rfl rfl (cell_one_new _ _ _) (by simp [Value.oneCell']) (by unfold maxLen; omega) (by omega) (by have := hbel.size; have := hgrow.size; simp at this ⊢; omega) ?_; intro v2 w2 hown2 hgrow2 _))
            have B1 := below_app hbel hopen hgrow
            have B2 := below_app B1 hm1 hgrow2
            go_roundw
            case rel => exact ⟨k + 1, ms ++ [o ++ s], ⟨#[]⟩, bo, bc, by omega, by go_num, rfl, by decide, by simp; omega, HN.out, owns_cut ((hown'.alloc _).kept hgrow2 (rows_ne hown' hm1 (by decide))), by rw [ss_append]; simpa [ss] using hown2, B2⟩
            case measure => simp [intOf]; omega
          | false =>
            have HN : Hid (jn (xs.drop (k + 1)) ms (o ++ s) = J) := (by simpa using hN : _ = J)
            clear hN
            go_wp2_with (at_builtin; refine Lib.wpList_append_own_string _ rfl _ _ 29 9 rfl w.heap.size 5 j0 Try.underlying29 Try.underlying9 hj hy0 hy1 hy2 _ _ _ rfl (hopen.alloc _) s rfl (by unfold maxLen; omega) (by omega) (by have := hbel.size; simp; omega) ?_; intro v' w1 hown' hgrow _; (obtain ⟨bo, bc, rfl, bk, bm, br⟩ := rs_of_owns hown'); (rw [← strCells_app] at hown'); (have cvt := conv_own (o ++ s) hown'); (have d1 := (grow_new hgrow (fun k hk => (hopen.lt k hk).2) 1).trans (box_one _ _ _)); (have hm1 := (hown.alloc _).kept hgrow (rows_ne hown hopen (by decide))))
            have B1 := below_app hbel hopen hgrow
            go_roundw
            case rel => exact ⟨k + 1, ms, o ++ s, bo, bc, by omega, by go_num, by rw [hos], by omega, by omega, HN.out, by rw [hos]; exact hown', hm1, B1⟩
            case measure => simp [intOf]; omega
    · obtain rfl : k = xs.length := by omega
      rw [jn_end] at hjn
      subst hjn
      have cv := conv_own o hopen
      go_wp2
      go_region_held3 (fun w' => (convert 29 9 (.slice yo o.size yc)).run Try.prog w' = .ok (.string o) w' ∧ w' = wr.drew)
        (first | assumption | exact ⟨conv_own o hopen.drew, rfl⟩)
        (fail)
      go_wp2
      exact bodyPost_ret (v := .tuple #[_, .string o, .bool true]) (by simp [results, Try.results17, go_sem]) rfl ⟨⟨_, rfl, hown.drew⟩, hbel.drew⟩
theorem implJoin_any (ao : Option Addr) (cap : Nat) (xs : List (ByteArray × Bool)) (w : World) (hl : xs.length ≤ 1048576) (hz : ∀ i (h : i < xs.length), xs[i].1.size ≤ 1048576) (hr : Rs w ao xs.length (ps xs)) :
    Calls Try.prog 17 #[.slice ao xs.length cap] w fun e w' => (∃ v, e = .returned (.tuple #[v, .string (join xs).2.1, .bool (join xs).2.2]) ∧ w'.ownsRow w.heap.size 9 1 v (join xs).1.length (ss (join xs).1)) ∧ Below w.heap.size w w' := by
  by_cases h : 1000000 < xs.length
  · have hj : join xs = ([], ⟨#[]⟩, false) := by rw [join, if_pos h]
    rw [hj]
    clear hr hz
    go_enter Try.func17, Try.ntmps17
    go_wp2
    exact bodyPost_ret (v := .tuple #[_, .string ⟨#[]⟩, .bool false]) (by simp [results, Try.results17, go_sem]) rfl ⟨⟨_, rfl, World.ownsRow_nil _ _ _ _⟩, Below.refl _ _⟩
  · have hj : join xs = jn xs [] ⟨#[]⟩ := by rw [join, if_neg h]
    rw [hj]
    exact implJoin_yes ao cap xs w (by omega) hz hr _ rfl
end Go.Proofs.Ytdmlhfbnhhafmaa.mk

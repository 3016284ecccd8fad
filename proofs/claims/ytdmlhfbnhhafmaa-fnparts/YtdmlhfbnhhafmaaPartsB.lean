/-
  PARTS: the drawing of parts.
-/
import Derived.Test.YtdmlhfbnhhafmaaPartsA
namespace Go.Proofs.Ytdmlhfbnhhafmaa.mk
open Go.RowKit
open Go.Proofs.Ytdmlhfbnhhafmaa.draw
set_option linter.unusedVariables false

theorem grow_but {B : Nat} {w w' : World} (h : But B w w') : w.grownBy w' (some B) := ⟨h.os, h.tape, h.output, h.size, fun k hk hn => h.block k hk (fun e => hn (by rw [e]))⟩
theorem owns_but {B base : Nat} {w w' : World} {e : TypeId} {size : Nat} {v : Value} {n : Nat} {xs : List Value} (h : w.ownsRow base e size v n xs) (hb : But B w w') (hB : B < base) : w'.ownsRow base e size v n xs :=
  h.kept (grow_but hb) (.inr (fun e => by have := (h.lt B e).1; omega))
theorem but_grown {B base n : Nat} {w wr w1 : World} {e : TypeId} {size : Nat} {v : Value} {xs : List Value} (h : But B w wr) (hown : wr.ownsRow base e size v n xs) (hg : wr.grownBy w1 v.ownBlock) (hB : w.heap.size ≤ base) : But B w w1 :=
  ⟨hg.os.trans h.os, hg.tape.trans h.tape, hg.output.trans h.output, Nat.le_trans h.size hg.size, fun k hk hn => (hg.block k (Nat.lt_of_lt_of_le hk h.size) (fun e => by have := (hown.lt k e.symm).1; omega)).trans (h.block k hk hn)⟩
theorem rd_grown {B : Nat} {k : Int} {wr w1 : World} {row : Option Nat} (h : Rd B k wr) (hg : wr.grownBy w1 row) (hB : ∀ q, row = some q → B < q) : Rd B k w1 := by
  have hc : ∀ (C i : Nat), C ≤ B → w1.cell? ⟨C, i, none⟩ = wr.cell? ⟨C, i, none⟩ := fun C i hC => World.cell?_of_block (w := wr) (a := ⟨C, i, none⟩) (hg.block C (Nat.lt_of_le_of_lt hC h.lt) (fun e => by have := hB C e.symm; omega))
  have hf : w1.frozen? ⟨B, 1, none⟩ = wr.frozen? ⟨B, 1, none⟩ := World.frozen?_of_block (w := wr) (a := ⟨B, 1, none⟩) (hg.block B h.lt (fun e => by have := hB B e.symm; omega))
  obtain ⟨v, len, cap, b0, b1, b2⟩ := h.buf
  refine ⟨Nat.lt_of_lt_of_le h.lt hg.size, hf.trans h.frozen, (hc B 1 (Nat.le_refl _)).trans h.pos, h.nonneg, v, len, cap, (hc B 0 (Nat.le_refl _)).trans b0, b1, ?_⟩
  rcases b2 with b2 | ⟨C, o, b3, b4, b5, b6⟩
  · exact .inl b2
  · exact .inr ⟨C, o, b3, b4, Nat.lt_of_lt_of_le b5 hg.size, fun i hi => by obtain ⟨c, c0, c1⟩ := b6 i hi; exact ⟨c, (hc C (o + i) (Nat.le_of_lt b4)).trans c0, c1⟩⟩
/-- every text is short -/
def Sh (xs : List (ByteArray × Bool)) : Prop := ∀ x ∈ xs, x.1.size ≤ 5000
theorem Sh.app {xs ys : List (ByteArray × Bool)} (h : Sh xs) (k : Sh ys) : Sh (xs ++ ys) := fun x hx => by
  rcases List.mem_append.1 hx with q | q
  · exact h x q
  · exact k x q
theorem Sh_cut (s : ByteArray) : Sh (cut s) := by
  induction h : s.size using Nat.strongRecOn generalizing s with
  | _ m ih =>
    by_cases hlt : 20 < s.size
    · rw [cut_step s hlt]
      have hz := ext_size s hlt
      have h0 := ext0_size s hlt
      intro x hx
      rcases List.mem_cons.1 hx with rfl | q
      · dsimp only; omega
      · exact ih (s.size - 20) (by omega) (s.extract 20 s.size) hz x q
    · rw [cut_last s hlt]
      intro x hx
      simp at hx
      subst hx
      dsimp only
      omega
theorem Sh_cutOf (s : ByteArray) : Sh (cutOf s) := by
  unfold cutOf
  split
  · exact Sh_cut s
  · intro x hx; simp at hx
theorem ps_one (xs : List (ByteArray × Bool)) : ∀ u ∈ ps xs, u.oneCell' = true := by
  intro u hu
  obtain ⟨x, _, hx⟩ := List.mem_flatMap.1 hu
  simp at hx
  rcases hx with rfl | rfl <;> rfl
theorem ps_cons (x : ByteArray × Bool) (xs : List (ByteArray × Bool)) : ps (x :: xs) = .string x.1 :: .bool x.2 :: ps xs := by simp [ps]
theorem ps_set_last (xs : List (ByteArray × Bool)) (j : Nat) (h : j < xs.length) (b : Bool) : (ps xs).set (j * 2 + 1) (.bool b) = ps (xs.set j (xs[j].1, b)) := by
  induction xs generalizing j with
  | nil => simp at h
  | cons x xs ih =>
    cases j with
    | zero => simp [ps]
    | succ j =>
      have := ih j (by simpa using h)
      have e : (j + 1) * 2 + 1 = (j * 2 + 1) + 1 + 1 := by omega
      rw [e, ps_cons, List.set_cons_succ, List.set_cons_succ, this, List.set_cons_succ, ps_cons]
      simp
theorem ps_set_text (xs : List (ByteArray × Bool)) (j : Nat) (h : j < xs.length) (t : ByteArray) : (ps xs).set (j * 2) (.string t) = ps (xs.set j (t, xs[j].2)) := by
  induction xs generalizing j with
  | nil => simp at h
  | cons x xs ih =>
    cases j with
    | zero => simp [ps]
    | succ j =>
      have := ih j (by simpa using h)
      have e : (j + 1) * 2 = (j * 2) + 1 + 1 := by omega
      rw [e, ps_cons, List.set_cons_succ, List.set_cons_succ, this, List.set_cons_succ, ps_cons]
      simp
theorem ps_take (xs : List (ByteArray × Bool)) (j : Nat) : (ps xs).take (j * 2) = ps (xs.take j) := by
  induction xs generalizing j with
  | nil => simp [ps]
  | cons x xs ih =>
    cases j with
    | zero => simp [ps]
    | succ j =>
      have e : (j + 1) * 2 = (j * 2) + 1 + 1 := by omega
      rw [e, ps_cons, List.take_succ_cons, List.take_succ_cons, ih j, List.take_succ_cons, ps_cons]
theorem Sh.set {xs : List (ByteArray × Bool)} (h : Sh xs) (j : Nat) (b : ByteArray × Bool) (hb : b.1.size ≤ 5000) : Sh (xs.set j b) := fun x hx => by
  rcases List.mem_or_eq_of_mem_set hx with q | rfl
  · exact h x q
  · exact hb
theorem Sh.at {xs : List (ByteArray × Bool)} (h : Sh xs) (j : Nat) (hj : j < xs.length) : xs[j].1.size ≤ 5000 := h _ (List.getElem_mem hj)
theorem owns_take {w : World} {b n c g j sz : Nat} {e : TypeId} {xs : List Value} (h : w.ownsRow b e sz (.slice (some ⟨g, 0, none⟩) n c) n xs) (hj : j ≤ n) : w.ownsRow b e sz (.slice (some ⟨g, 0, none⟩) j c) j (xs.take (j * sz)) := by
  have hle : j * sz ≤ n * sz := Nat.mul_le_mul_right _ hj
  refine ⟨by rw [List.length_take, h.1]; omega, ?_⟩
  rcases h.2 with ⟨e1, _⟩ | ⟨g', cap, cur, e1, h1, h2, h3, h4, h5, h6⟩
  · cases e1
  · cases e1
    exact .inr ⟨g, c, cur, rfl, h1, h2, by omega, h4, h5, by rw [← h6, List.take_take, Nat.min_eq_left hle]⟩
theorem mul_prod {a d : Int} (ha : 0 ≤ a ∧ a < 2) (hd : 0 ≤ d ∧ d ≤ 1) : wrap64 (20 - wrap64 (a * d)) ≤ 500 := by
  have h : a * d = 0 ∨ a * d = 1 := by
    rcases (show a = 0 ∨ a = 1 by omega) with rfl | rfl
    · simp
    · rw [Int.one_mul]; omega
  rcases h with h | h
  · rw [h, wrap_in 0 (by omega), wrap_in _ (by omega)]; omega
  · rw [h, wrap_in 1 (by omega), wrap_in _ (by omega)]; omega
def JPost (w : World) (e : Ending) (w' : World) : Prop := (∃ (xs : List (ByteArray × Bool)) (ao : Option Addr) (c : Nat), e = .returned (.slice ao xs.length c) ∧ Rs w' ao xs.length (ps xs) ∧ xs.length ≤ 1000 ∧ Sh xs) ∧ Below w.heap.size w w'
theorem jfin' {w w' : World} {n : Nat} {ys : List (ByteArray × Bool)} {ao : Option Addr} {c : Nat} (hn : ys.length = n) (h1 : w'.ownsRow (w.heap.size + 1) 66 2 (.slice ao n c) n (ps ys)) (h2 : n ≤ 1000) (h3 : Sh ys) (h4 : But w.heap.size w w') : JPost w (.returned (.slice ao n c)) w' := by
  subst hn
  exact ⟨⟨ys, ao, c, rfl, owns_rs h1, h2, h3⟩, h4.below (Nat.le_refl _)⟩
theorem jfin {w w' : World} {ys : List (ByteArray × Bool)} {ao : Option Addr} {c : Nat} (h1 : w'.ownsRow (w.heap.size + 1) 66 2 (.slice ao ys.length c) ys.length (ps ys)) (h2 : ys.length ≤ 1000) (h3 : Sh ys) (h4 : But w.heap.size w w') : JPost w (.returned (.slice ao ys.length c)) w' :=
  ⟨⟨ys, ao, c, rfl, owns_rs h1, h2, h3⟩, h4.below (Nat.le_refl _)⟩
set_option maxRecDepth 100000 in
set_option maxHeartbeats 1000000 in
theorem joinIn_any (v : Option Addr) (len cap : Nat) (w : World) (h : draw.Code v len w) (hc : len ≤ cap) (hm : cap ≤ 9223372036854775807) :
    Calls Try.prog 19 #[.slice v len cap] w fun e w' => JPost w e w' := by
  obtain ⟨i0, hi, hz0, hz1, hz2⟩ := info_parts info_part
  go_enter Try.func19, Try.ntmps19
  go_wp2_with (first | (go_at_call 42; refine (open_any v len cap _ h hc hm).mono ?_; rintro e w1 ⟨rfl, hr, hbel⟩; (have hb : But w.heap.size w w1 := But.ofBelow hbel)))
  go_wp2_with (go_at_call 43; refine (pick_any _ _ _ _ (hr.made _) (by omega) (by omega)).mono ?_; rintro e w2 ⟨⟨z, rfl, z0, z1⟩, hr1, hb1⟩)
  have hb2 : But w.heap.size w w2 := (hb.alloc _).trans hb1
  have ho : w2.ownsRow (w.heap.size + 1) 66 2 (.slice (some ⟨w1.heap.size, 0, none⟩) 0 0) 0 [] := owns_but (World.ownsRow_lit w1 #[] 0 (by have := hr.lt; omega) (Nat.zero_le _) rfl) hb1 (by omega)
  clear hb hbel hr hb1
  go_loopw [4, 5] (fun o i wr => ∃ (m : Nat) (xs : List (ByteArray × Bool)) (ao : Option Addr) (c : Nat) (kk : Int), i = .int .i64 m ∧ o = .slice ao xs.length c ∧ wr.ownsRow (w.heap.size + 1) 66 2 (.slice ao xs.length c) xs.length (ps xs) ∧ m ≤ 4 ∧ xs.length + 11 * m ≤ 44 ∧ Sh xs ∧ Rd w.heap.size kk wr ∧ kk + 50 * m ≤ 300 ∧ But w.heap.size w wr) (fun _ i _ => (intOf i).toNat)
  case atStart => exact ⟨z.toNat, [], some ⟨w1.heap.size, 0, none⟩, 0, 1, by congr 1; omega, rfl, ho, by omega, by simp; omega, fun x hx => by simp at hx, hr1, by omega, hb2⟩
  case round =>
    clear ho hr1 hb2
    obtain ⟨m, xs, ao, c, kk, rfl, rfl, hown, hm4, hxs, hsh, hr, hkk, hb⟩ := hrel
    by_cases hlt : (m : Int) > 0
    · go_wp2_with (go_at_call 45; refine (msg_any _ _ _ hr (by omega)).mono ?_; rintro e w3 ⟨⟨t, rfl, ht⟩, ⟨k3, hr3, hk3⟩, hb3⟩)
      go_wp2_with (first
        | (go_at_call 11; refine (specCut_some t _ (by omega)).mono ?_; rintro e w4 ⟨⟨g4, c4, rfl, ho4⟩, hb4⟩)
        | (at_builtin; refine wpList_append_own _ rfl _ _ 24 rfl (w.heap.size + 1) 66 i0 (.agg #[.string ⟨#[]⟩, .bool false]) 2 24 Try.underlying24 hi hz0 hz1 hz2 rfl (by decide) _ _ _ rfl (owns_keep (owns_but hown hb3 (by omega)) hb4) ⟨g4, 0, none⟩ (cutOf t).length c4 (ps (cutOf t)) rfl (ps_length _) (ho4.cells (g := g4) rfl) (ps_one _) (by have := cutOf_len t; unfold maxLen; omega) (by have := cutOf_len t; omega) (by have := hr3.lt; have := hb4.size; omega) ?_; intro v5 w5 ho5 hg5 _; obtain ⟨ao5, c5, rfl, _, _, _⟩ := rs_of_owns ho5))
      have hl := cutOf_len t
      have how := owns_keep (owns_but hown hb3 (by omega)) hb4
      refine ⟨⟨m - 1, xs ++ cutOf t, ao5, c5, k3, by congr 1; omega, by rw [List.length_append], ?_, by omega, by rw [List.length_append]; omega, hsh.app (Sh_cutOf t), rd_grown (hr3.keep hb4) hg5 (fun q hq => (how.lt q hq).1), by omega, but_grown ((hb.trans hb3).trans (But.ofBelow hb4)) how hg5 (by omega)⟩, by simp only [intOf]; omega⟩
      rw [ps_append, List.length_append]
      exact ho5
    · obtain rfl : m = 0 := by omega
      by_cases h0 : xs.length = 0
      · obtain rfl : xs = [] := List.eq_nil_of_length_eq_zero h0
        clear h0
        go_wp2
        go_ret
        exact jfin (ys := []) hown (by simp) hsh hb
      obtain ⟨g, c', he⟩ := owns_some hown (by omega)
      cases he
      have hcl := ps_length xs
      have hcc : xs.length ≤ c := by obtain ⟨_, _, e, q, _, _⟩ := rs_of_owns hown; cases e; exact q
      go_wp2_with (go_at_call_of 43 (Value.int IntKind.i64 3); refine (pick_any _ _ _ _ hr (by omega) (by omega)).mono ?_; rintro e w3 ⟨⟨y, rfl, y0, y1⟩, hr3, hb3⟩)
      rotate_left
      · go_ret
        exact jfin (owns_but hown hb3 (by omega)) (by omega) hsh (hb.trans hb3)
      go_wp2_with (go_at_call 43; refine (pick_any _ _ _ _ hr3 (by omega) (by omega)).mono ?_; rintro e w4 ⟨⟨q, rfl, q0, q1⟩, hr4, hb4⟩)
      have ho4 := owns_but (owns_but hown hb3 (by omega)) hb4 (by omega)
      have b4 := (hb.trans hb3).trans hb4
      clear hown hb hb3 hb4 hr hr3
      obtain ⟨j, rfl⟩ : ∃ j : Nat, q = (j : Int) := ⟨q.toNat, by omega⟩
      have hj : j < xs.length := by omega
      clear q0 q1
      go_wp2_with (go_at_call_of 43 (Value.int IntKind.i64 4); refine (pick_any _ _ _ _ hr4 (by omega) (by omega)).mono ?_; rintro e w5 ⟨⟨p, rfl, p0, p1⟩, hr5, hb5⟩; (have ho5 := owns_but ho4 hb5 (by omega)); (have b5 := b4.trans hb5); (have d0 := ho5.cellAt (j * 2) (by omega)); (have d1 := ho5.cellAt (j * 2 + 1) (by omega)); (rw [(ps_at xs j hj).1] at d0); (rw [(ps_at xs j hj).2] at d1); (have f0 := ho5.frozenAt (j * 2)); (have f1 := ho5.frozenAt (j * 2 + 1)))
      · go_ret
        refine jfin' (ys := xs.set j (xs[j].1, !xs[j].2)) (by simp) ?_ (by omega) (hsh.set _ _ (hsh.at j hj)) (b5.setCell (p := ⟨g, j * 2 + 1, none⟩) (.inr (by have := (ho5.lt g rfl).1; show _ ≤ g; omega)) _)
        rw [← ps_set_last xs j hj]
        exact (ho5.stored (j * 2 + 1) _).1
      · go_wp2_with (first
          | (go_at_call_of 43 (Value.int IntKind.i64 2); refine (pick_any _ _ _ _ hr5 (by omega) (by omega)).mono ?_; rintro e w6 ⟨⟨y6, rfl, y60, y61⟩, hr6, hb6⟩)
          | (go_at_call 44; refine (many_le _ _ _ (by decide) (by omega)).mono ?_; rintro e w7 ⟨⟨t, rfl, ht⟩, hb7⟩; (have ho7 := owns_keep (owns_but ho5 hb6 (by omega)) hb7); (have e0 := ho7.cellAt (j * 2) (by omega)); (rw [(ps_at xs j hj).1] at e0); (have k0 := ho7.frozenAt (j * 2))))
        go_ret
        refine jfin' (ys := xs.set j (t, xs[j].2)) (by simp) ?_ (by omega) (hsh.set _ _ ht) (((b5.trans hb6).trans (But.ofBelow hb7)).setCell (p := ⟨g, j * 2, none⟩) (.inr (by have := (ho5.lt g rfl).1; show _ ≤ g; omega)) _)
        rw [← ps_set_text xs j hj]
        exact (ho7.stored (j * 2) _).1
      · go_ret
        refine jfin' (ys := xs.take j) (by simp; omega) ?_ (by omega) (fun x hx => hsh x (List.mem_of_mem_take hx)) b5
        rw [← ps_take]
        exact owns_take ho5 (by omega)
      · clear d0 d1 f0 f1 ho4 hr4 b4 hb5
        go_loopw [4, 7] (fun o i wr => ∃ (m : Nat) (ys : List (ByteArray × Bool)) (ao : Option Addr) (c : Nat) (kk : Int), i = .int .i64 m ∧ o = .slice ao ys.length c ∧ wr.ownsRow (w.heap.size + 1) 66 2 (.slice ao ys.length c) ys.length (ps ys) ∧ m ≤ 11 ∧ ys.length ≤ 44 + m ∧ Sh ys ∧ Rd w.heap.size kk wr ∧ kk ≤ 303 + m ∧ But w.heap.size w wr) (fun _ i _ => 11 - (intOf i).toNat)
        case atStart => exact ⟨0, xs, some ⟨g, 0, none⟩, c, _, rfl, rfl, ho5, by omega, by omega, hsh, hr5, by omega, b5⟩
        case round =>
          clear ho5 hr5 b5
          obtain ⟨m, ys, ao, c, kk, rfl, rfl, hown, hm4, hys, hsh, hr, hkk, hb⟩ := hrel
          by_cases hlt : m < 11
          · have hd : 0 ≤ (m : Int) / 9 ∧ (m : Int) / 9 ≤ 1 := by omega
            go_wp2_with (first
              | (go_at_call_of 43 (Value.int IntKind.i64 2); refine (pick_any _ _ _ _ hr (by omega) (by omega)).mono ?_; rintro e w6 ⟨⟨y6, rfl, y60, y61⟩, hr6, hb6⟩)
              | (go_at_call 44; refine (many_le _ _ _ (by decide) (mul_prod (by omega) hd)).mono ?_; rintro e w7 ⟨⟨t, rfl, ht⟩, hb7⟩; (have ho7 := owns_keep (owns_but hown hb6 (by omega)) hb7))
              | (at_builtin; refine wpList_append_own _ rfl _ _ 24 rfl (w.heap.size + 1) 66 i0 (.agg #[.string ⟨#[]⟩, .bool false]) 2 24 Try.underlying24 hi hz0 hz1 hz2 rfl (by decide) _ _ _ rfl (ho7.alloc _) ⟨w7.heap.size, 0, none⟩ 1 1 [.string t, .bool false] rfl rfl (part_news _ _ _) (part_one _ _) (by unfold maxLen; omega) (by omega) (by have := hr6.lt; have := hb7.size; simp; omega) ?_; intro v8 w8 ho8 hg8 _; obtain ⟨ao8, c8, rfl, _, _, _⟩ := rs_of_owns ho8))
            have hN : w8.ownsRow (w.heap.size + 1) 66 2 (.slice ao8 (ys ++ [(t, false)]).length c8) (ys ++ [(t, false)]).length (ps (ys ++ [(t, false)])) := by
              rw [ps_append, List.length_append]
              simpa [ps] using ho8
            refine ⟨⟨.slice ao8 (ys.length + 1) c8, .int .i64 ((m : Int) + 1), .int .i64 (m : Int), .bool true, .int .i64 (m : Int), .int .i64 ((m : Int) + 1), .slice ao ys.length c, .pointer (some ⟨w.heap.size, 0, none⟩), .int .i64 y6, .int .i64 (m : Int), .int .i64 ((m : Int) / 9), .int .i64 (wrap64 (y6 * ((m : Int) / 9))), .int .i64 (wrap64 (20 - wrap64 (y6 * ((m : Int) / 9)))), .string t, .agg #[.string t, .bool false], .slice (some ⟨w7.heap.size, 0, none⟩) 1 1, .slice ao8 (ys.length + 1) c8, ⟨m + 1, ys ++ [(t, false)], ao8, c8, kk + 1, by go_num, by simp, hN, by omega, by simp; omega, hsh.app (fun x hx => by simp at hx; subst hx; exact ht), rd_grown ((hr6.keep hb7).made _) hg8 (fun q hq => (ho7.lt q hq).1), by omega, but_grown (((hb.trans hb6).trans (But.ofBelow hb7)).alloc _) (ho7.alloc _) hg8 (by omega)⟩, by simp [*]⟩, ?_⟩
            show 11 - (intOf (Value.int IntKind.i64 ((m : Int) + 1))).toNat < 11 - (intOf (Value.int IntKind.i64 (m : Int))).toNat
            simp only [intOf]
            omega
          · go_wp2
            go_ret
            exact jfin hown (by omega) hsh hb
end Go.Proofs.Ytdmlhfbnhhafmaa.mk

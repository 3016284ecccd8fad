/-
  A ROW OF STRINGS that may stand behind others: a row's tail is one too.
-/
import Derived.Test.YtldlpohkpmapcaaRgC
import Derived.Test.YtldlpohkpmapcaaBase
import Derived.Deep.AppendSrc
import Derived.Deep.AppendLies
namespace Go.Proofs.Ytldlpohkpmapcaa.mk
open Go.RowKit
set_option linter.unusedVariables false

/-- a slice of strings, to be read, wherever it begins -/
structure Rr (w : World) (ao : Option Addr) (n : Nat) (xs : List Value) : Prop where
  ex : n = 0 ∨ ∃ g k, ao = some ⟨g, k, none⟩ ∧ g < w.heap.size ∧ ∀ j, j < xs.length → w.cell? ⟨g, k + j, none⟩ = xs[j]?
theorem Rr.keep {w w' : World} {ao : Option Addr} {n : Nat} {xs : List Value} (h : Rr w ao n xs) (hb : Below w.heap.size w w') : Rr w' ao n xs := by
  rcases h.ex with h | ⟨g, k, h1, h2, h3⟩
  · exact ⟨.inl h⟩
  · exact ⟨.inr ⟨g, k, h1, Nat.lt_of_lt_of_le h2 hb.size, fun j hj => (hb.cell (p := ⟨g, k + j, none⟩) h2).trans (h3 j hj)⟩⟩
theorem Rs.rr {w : World} {ao : Option Addr} {n : Nat} {xs : List Value} (h : Rs w ao n xs) : Rr w ao n xs := by
  rcases h.ex with h | ⟨g, h1, h2, h3⟩
  · exact ⟨.inl h⟩
  · exact ⟨.inr ⟨g, 0, h1, h2, fun j hj => by rw [Nat.zero_add]; exact h3 j hj⟩⟩
/-- strings xs that a slice v shows of a row that is owned from base on -/
def Orw (base : Nat) (v : Value) (n : Nat) (xs : List Value) (w : World) : Prop :=
  (v = .slice none 0 0 ∧ n = 0 ∧ xs = []) ∨ ∃ g k cap pre tot, pre.length = k ∧ (n ≤ cap ∧ k + cap ≤ tot) ∧ v = .slice (some ⟨g, k, none⟩) n cap ∧ w.ownsRow base 9 1 (.slice (some ⟨g, 0, none⟩) (k + n) tot) (k + n) (pre ++ xs)
theorem Orw.of_owns {base : Nat} {v : Value} {n : Nat} {xs : List Value} {w : World} (h : w.ownsRow base 9 1 v n xs) : Orw base v n xs w := by
  have h1 := h.1
  rcases h.2 with ⟨rfl, rfl⟩ | ⟨g, cap, cur, rfl, h2⟩
  · exact .inl ⟨rfl, rfl, List.eq_nil_of_length_eq_zero (by omega)⟩
  · exact .inr ⟨g, 0, cap, [], cap, rfl, ⟨h2.2.2.1, by omega⟩, rfl, by simpa using h⟩
theorem Orw.lift {base : Nat} {v : Value} {n : Nat} {xs : List Value} {w w' : World} (h : Orw base v n xs w)
    (f : ∀ g m c cs, v.ownBlock = some g → w.ownsRow base 9 1 (.slice (some ⟨g, 0, none⟩) m c) m cs → w'.ownsRow base 9 1 (.slice (some ⟨g, 0, none⟩) m c) m cs) : Orw base v n xs w' := by
  rcases h with h | ⟨g, k, cap, pre, tot, h1, h2, rfl, h3⟩
  · exact .inl h
  · exact .inr ⟨g, k, cap, pre, tot, h1, h2, rfl, f _ _ _ _ rfl h3⟩
theorem Orw.length {base : Nat} {v : Value} {n : Nat} {xs : List Value} {w : World} (h : Orw base v n xs w) : xs.length = n := by
  rcases h with ⟨_, rfl, rfl⟩ | ⟨g, k, cap, pre, tot, h1, h2, rfl, h3⟩
  · rfl
  · have := h3.1
    rw [List.length_append] at this
    omega
theorem Orw.keep {base : Nat} {v : Value} {n : Nat} {xs : List Value} {w w' : World} (h : Orw base v n xs w) (hb : Below w.heap.size w w') : Orw base v n xs w' := h.lift fun _ _ _ _ _ q => owns_keep q hb
theorem Orw.drew {base : Nat} {v : Value} {n : Nat} {xs : List Value} {w : World} (h : Orw base v n xs w) : Orw base v n xs w.drew := h.lift fun _ _ _ _ _ q => World.ownsRow.drew q
theorem Orw.alloc {base : Nat} {v : Value} {n : Nat} {xs : List Value} {w : World} (h : Orw base v n xs w) (o : Obj) : Orw base v n xs (w.alloc o) := h.lift fun _ _ _ _ _ q => q.alloc o
theorem Orw.kept {base : Nat} {v : Value} {n : Nat} {xs : List Value} {w w' : World} {row : Option Nat} (h : Orw base v n xs w) (hg : w.grownBy w' row) (hne : v.ownBlock = none ∨ v.ownBlock ≠ row) : Orw base v n xs w' :=
  h.lift fun g _ _ _ e q => q.kept hg (.inr (by rcases hne with c | c; rw [e] at c; cases c; rw [e] at c; exact c))
theorem Orw.other {base : Nat} {v : Value} {n : Nat} {xs : List Value} {w : World} (h : Orw base v n xs w) {a : Addr} (ha : v.ownBlock ≠ some a.block) (u : Value) : Orw base v n xs (w.setCell a u) :=
  h.lift fun g _ _ _ e q => ownsRow_setCell_other q (by rw [e] at ha; exact ha) u
theorem Orw.lt {base : Nat} {v : Value} {n : Nat} {xs : List Value} {w : World} (h : Orw base v n xs w) : ∀ j, v.ownBlock = some j → base ≤ j ∧ j < w.heap.size := by
  rcases h with ⟨rfl, _⟩ | ⟨g, k, cap, pre, tot, h1, h2, rfl, h3⟩
  · intro j hj; simp [Value.ownBlock] at hj
  · exact fun j hj => h3.lt j hj
theorem Orw.mono {base base' : Nat} {v : Value} {n : Nat} {xs : List Value} {w : World} (h : Orw base v n xs w) (hb : base' ≤ base) : Orw base' v n xs w := by
  rcases h with h | ⟨g, k, cap, pre, tot, h1, h2, rfl, h3⟩
  · exact .inl h
  · exact .inr ⟨g, k, cap, pre, tot, h1, h2, rfl, owns_mono3 h3 hb⟩
theorem Orw.ne {b b' : Nat} {e : TypeId} {sz n m : Nat} {u v : Value} {xs ys : List Value} {w : World} (h : w.ownsRow b e sz u m ys) (h' : Orw b' v n xs w) (hne : e ≠ 9) : u.ownBlock = none ∨ u.ownBlock ≠ v.ownBlock := by
  rcases h' with ⟨rfl, _⟩ | ⟨g, k, cap, pre, tot, h1, h2, rfl, h3⟩
  · cases hu : u.ownBlock with
    | none => exact .inl rfl
    | some g => exact .inr (by simp [Value.ownBlock])
  · have q := rows_ne5 h h3 hne
    simpa [Value.ownBlock] using q
theorem Orw.tail {base g k n cap : Nat} {x : Value} {xs : List Value} {w : World} (h : Orw base (.slice (some ⟨g, k, none⟩) (n + 1) cap) (n + 1) (x :: xs) w) : Orw base (.slice (some ⟨g, k + 1, none⟩) n (cap - 1)) n xs w := by
  rcases h with ⟨h, _⟩ | ⟨g', k', cap', pre, tot, h1, h2, e, h3⟩
  · cases h
  · cases e
    refine .inr ⟨g, k + 1, cap - 1, pre ++ [x], tot, by simp [h1], by omega, rfl, ?_⟩
    rw [show k + 1 + n = k + (n + 1) by omega, List.append_assoc]
    exact h3
theorem Orw.last {base g k : Nat} {x : Value} {w : World} (h : Orw base (.slice (some ⟨g, k, none⟩) 1 1) 1 [x] w) : Orw base (.slice (some ⟨g, k, none⟩) 0 0) 0 [] w := by
  rcases h with ⟨h, _⟩ | ⟨g', k', cap', pre, tot, h1, h2, e, h3⟩
  · cases h
  · cases e
    refine .inr ⟨g, k, 0, pre, tot, h1, ⟨Nat.le_refl _, by omega⟩, rfl, by simp [h1], ?_⟩
    rcases h3.2 with ⟨e, _⟩ | ⟨g', cap', cur, e, hb, hg, hnc, hcm, hcs, htake⟩
    · cases e
    · cases e
      refine .inr ⟨g, tot, cur, rfl, hb, hg, by omega, hcm, hcs, ?_⟩
      have q := congrArg (List.take k) htake
      have e : List.take k (pre ++ [x]) = pre := by rw [List.take_append_of_le_length (by omega), List.take_of_length_le (by omega)]
      rw [e, List.take_take, Nat.min_eq_left (by omega)] at q
      rw [List.append_nil, Nat.add_zero, Nat.mul_one]
      exact q
theorem Orw.cell {base g k n cap : Nat} {xs : List Value} {w : World} (h : Orw base (.slice (some ⟨g, k, none⟩) n cap) n xs w) (j : Nat) (hj : j < n) : w.cell? ⟨g, k + j, none⟩ = xs[j]? := by
  have hl := h.length
  rcases h with ⟨h, _⟩ | ⟨g', k', cap', pre, tot, h1, h2, e, h3⟩
  · cases h
  · cases e
    rw [h3.cellAt (k + j) (by omega), List.getElem?_append_right (by omega)]
    congr 1
    omega
theorem Orw.frozen {base g k n cap : Nat} {xs : List Value} {w : World} (h : Orw base (.slice (some ⟨g, k, none⟩) n cap) n xs w) (j : Nat) : w.frozen? ⟨g, j, none⟩ = false := by
  rcases h with ⟨h, _⟩ | ⟨g', k', cap', pre, tot, h1, h2, e, h3⟩
  · cases h
  · cases e
    exact h3.frozenAt j
theorem Orw.stored {base g k n cap : Nat} {xs : List Value} {w : World} (h : Orw base (.slice (some ⟨g, k, none⟩) n cap) n xs w) (j : Nat) (u : Value) : Orw base (.slice (some ⟨g, k, none⟩) n cap) n (xs.set j u) (w.setCell ⟨g, k + j, none⟩ u) := by
  rcases h with ⟨h, _⟩ | ⟨g', k', cap', pre, tot, h1, h2, e, h3⟩
  · cases h
  · cases e
    refine .inr ⟨g, k, cap, pre, tot, h1, h2, rfl, ?_⟩
    have := (h3.stored (k + j) u).1
    rw [List.set_append_right _ _ (by omega), show k + j - pre.length = j by omega] at this
    exact this
theorem Orw.rr {base : Nat} {ao : Option Addr} {n cap : Nat} {xs : List Value} {w : World} (h : Orw base (.slice ao n cap) n xs w) : Rr w ao n xs := by
  have hl := h.length
  have h0 := h
  rcases h with ⟨e, rfl, _⟩ | ⟨g, k, cap', pre, tot, h1, h2, e, h3⟩
  · exact ⟨.inl rfl⟩
  · cases e
    exact ⟨.inr ⟨g, k, rfl, (h3.lt g rfl).2, fun j hj => h0.cell j (by omega)⟩⟩
theorem Orw.slice {base : Nat} {v : Value} {n : Nat} {xs : List Value} {w : World} (h : Orw base v n xs w) : ∃ ao cap, v = .slice ao n cap ∧ n ≤ cap ∧ cap ≤ maxLen ∧ Rr w ao n xs := by
  have h0 := h
  rcases h with ⟨rfl, rfl, rfl⟩ | ⟨g, k, cap, pre, tot, h1, h2, rfl, h3⟩
  · exact ⟨none, 0, rfl, Nat.le_refl _, Nat.zero_le _, ⟨.inl rfl⟩⟩
  · obtain ⟨_, c, e, _, h4, _⟩ := rs_of_owns h3
    cases e
    exact ⟨_, cap, rfl, h2.1, by omega, h0.rr⟩
theorem Orw.ne2 {b b' : Nat} {e : TypeId} {sz n m : Nat} {u v : Value} {xs ys : List Value} {w : World} (h : w.ownsRow b e sz u m ys) (h' : Orw b' v n xs w) (hne : e ≠ 9) : v.ownBlock = none ∨ v.ownBlock ≠ u.ownBlock := by
  rcases h' with ⟨rfl, _⟩ | ⟨g, k, cap, pre, tot, h1, h2, rfl, h3⟩
  · exact .inl rfl
  · have q := rows_ne5 h3 h (Ne.symm hne)
    simpa [Value.ownBlock] using q
/-- one more at its end -/
theorem run_append_os {P : Program} (w : World) (t ty : TypeId) (base : Nat) (i : TypeInfo) (z : Value) (ht : P.underlying t = some (.slice 9)) (hi : P.info? 9 = some i) (hz : i.zero = some z) (hsize : i.size = 1) (hby : i.bytes = 16) (hzs : z.cells.size = 1)
    (v : Value) (n : Nat) (xs : List Value) (hown : Orw base v n xs w) (ad : Addr) (c : Nat) (news : List Value) (hl : news.length = 1 * 1) (hnews : ∀ j u, news[j]? = some u → w.cell? (ad.add j) = some u) (h1 : ∀ u ∈ news, u.oneCell' = true)
    (h63 : n + 1 ≤ maxLen) (hbytes : (n + 1) * 16 ≤ 140737488355328) (hbase : base ≤ w.heap.size) (H : Nat) (hH : w.heap.size = H) :
    ∃ g k cap w', (Builtin.append_ #[t, t] ty #[v, .slice (some ad) 1 c]).run P w = .ok (.slice (some ⟨g, k, none⟩) (n + 1) cap) w' ∧
      Orw base (.slice (some ⟨g, k, none⟩) (n + 1) cap) (n + 1) (xs ++ news) w' ∧ w.grownBy w' v.ownBlock ∧ (v.ownBlock = some g ∨ g = H) ∧ g < w'.heap.size := by
  have hxl := hown.length
  rcases hown with ⟨rfl, rfl, rfl⟩ | ⟨g, k, cap, pre, tot, hk, hn, rfl, hrow⟩
  · obtain ⟨g, cap, w', hr, h2, h3, h4, h5⟩ := run_append_lies (P := P) w t ty base 9 i z 1 16 ht hi hz hsize hby hzs (by omega) (.slice none 0 0) 0 [] (World.ownsRow_nil _ _ _ _) ad 1 c news hl hnews h1 (by omega) h63 hbytes hbase H hH
    exact ⟨g, 0, cap, w', hr, .of_owns h2, h3, h4, h5⟩
  · obtain ⟨x, rfl⟩ : ∃ x, news = [x] := by
      match news, hl with
      | [x], _ => exact ⟨x, rfl⟩
    have hsrc : Src P i.size t (.slice (some ad) 1 c) 1 [x] w := Src.ofSlice w ht ad 1 c [x] (by rw [hsize]; rfl) hnews h1
    rcases hrow.2 with ⟨e, _⟩ | ⟨g', cap', cur, e, hb, hg, hnc, hcm, hcs, htake⟩
    · cases e
    · cases e
      have hgl : g < w.heap.size := (Array.getElem?_eq_some_iff.1 hg).1
      by_cases hroom : n + 1 ≤ cap
      · have hc : (w.cell? ⟨g, k + n * i.size + 0, none⟩).isSome = true := by
          rw [cell_of_row w g _ cur _ _ hg, Array.getElem?_eq_getElem (by rw [hsize]; omega)]
          rfl
        have hf : w.frozen? ⟨g, k + n * i.size + 0, none⟩ = false := hrow.frozenAt _
        have hr := run_append_room_src (P := P) w t t ty 9 i ht hi g k n cap (.slice (some ad) 1 c) 1 [x] hsrc hroom (fun j hj => by obtain rfl : j = 0 := (by simp at hj; omega); exact hc) (fun j hj => by obtain rfl : j = 0 := (by simp at hj; omega); exact hf)
        rw [hsize, Nat.mul_one] at hr
        refine ⟨g, k, cap, w.setCell ⟨g, k + n, none⟩ x, hr, .inr ⟨g, k, cap, pre, tot, hk, ⟨hroom, hn.2⟩, rfl, ?_, .inr ⟨g, tot, cur.setIfInBounds (k + n) x, rfl, hb, Bx.put (B := g) hg (k + n) x, by omega, hcm, by simpa using hcs, ?_⟩⟩, ?_, .inl rfl, by simpa using hgl⟩
        · simp; omega
        · rw [Nat.mul_one] at htake ⊢
          have hcl : k + n < cur.toList.length := by rw [Array.length_toList]; omega
          rw [Array.toList_setIfInBounds, ← List.append_assoc, ← htake, show k + (n + 1) = k + n + 1 by omega, List.take_add_one]
          rw [List.take_set_of_le (Nat.le_refl _), List.getElem?_set_self hcl]
          rfl
        · refine ⟨rfl, rfl, rfl, by simp, fun j hj hne => ?_⟩
          exact Below.heap_setCell _ _ _ _ (fun e => hne (by simp [Value.ownBlock, e]))
      · have hold : (Builtin.firstCells i.size n (.slice (some ⟨g, k, none⟩) n cap)).run P w.drew = .ok xs.toArray w.drew := run_firstCells_some w.drew i.size n ⟨g, k, none⟩ n cap xs (by rw [hsize]; omega) (fun j u hj => by
          have hjl : j < n := by rcases Nat.lt_or_ge j n with q | q; exact q; rw [List.getElem?_eq_none (by omega)] at hj; cases hj
          have ea : (⟨g, k, none⟩ : Addr).add j = ⟨g, k + j, none⟩ := by unfold Addr.add; split <;> simp_all
          have := hrow.cellAt (k + j) (by omega)
          rw [List.getElem?_append_right (by omega), show k + j - pre.length = j by omega, hj] at this
          rw [ea]
          simpa using this)
        have hr := run_append_grow_src (P := P) w t t ty 9 i z ht hi hz (some ⟨g, k, none⟩) n cap xs hold (.slice (some ad) 1 c) 1 [x] hsrc (by omega) (by simp only [maxLen] at h63; omega) (growslice_fits (by omega) (by rw [hby]; exact hbytes))
        refine ⟨w.heap.size, 0, _, _, hr, .of_owns ⟨by simp; omega, .inr ⟨w.heap.size, _, _, rfl, hbase, heap_alloc_new w.drew _, grownCap_ge w (n + 1) cap _, grownCap_le_maxLen w (n + 1) cap _ h63, ?_, ?_⟩⟩, ⟨rfl, rfl, rfl, by simp, fun j hj _ => heap_alloc_old w.drew _ (by simpa using hj)⟩, .inr hH, by simp⟩
        · have := grownCap_ge w (n + 1) cap 9
          simp only [Array.size_append, List.size_toArray, size_zeroCells, hzs, List.length_append, hxl, List.length_singleton]
          omega
        · rw [Array.toList_append, show (n + 1) * 1 = (xs ++ [x]).toArray.toList.length by simp [hxl]]
          exact List.take_left
theorem step_append_os {P : Program} (w : World) {ops : Array Oper} {o : Oper} {a : Act} {K : Act → World → Prop} {Q : Exit → Act → World → Prop} {E : Prop} (hgd : o.guard = none) (s x : Operand) (t : TypeId)
    (ho : o.op = .call { callee := .builtin .append, args := #[s, x], argTypes := #[t, t] })
    (base : Nat) (e : TypeId) (i : TypeInfo) (z : Value) (size bytes : Nat) (ht : P.underlying t = some (.slice 9)) (hi : P.info? 9 = some i) (hz : i.zero = some z)
    (hsize : i.size = 1) (hby : i.bytes = 16) (hzs : z.cells.size = 1) (hsz : 0 < 1)
    (v : Value) (n : Nat) (xs : List Value) (hs : a.eval s = v) (hown : Orw base v n xs w)
    (ad : Addr) (m c : Nat) (news : List Value) (hx : a.eval x = .slice (some ad) 1 c) (hl : news.length = 1 * 1) (hnews : ∀ j u, news[j]? = some u → w.cell? (ad.add j) = some u) (h1 : ∀ u ∈ news, u.oneCell' = true)
    (hm : 0 < 1) (h63 : n + 1 ≤ maxLen) (hbytes : (n + 1) * 16 ≤ 140737488355328) (hbase : base ≤ w.heap.size) (H : Nat) (hH : w.heap.size = H)
    (h : ∀ g k cap w', Orw base (.slice (some ⟨g, k, none⟩) (n + 1) cap) (n + 1) (xs ++ news) w' → w.grownBy w' v.ownBlock → (v.ownBlock = some g ∨ g = H) → g < w'.heap.size → K (a.put o.dst (.slice (some ⟨g, k, none⟩) (n + 1) cap)) w') :
    if Region.wanted o (yielded ops a.tmps) = true then Oper.wp P o a w K Q else E := by
  have hw : Region.wanted o (yielded ops a.tmps) = true := by simp [Region.wanted, hgd]
  rw [if_pos hw]
  obtain ⟨g, k, cap, w', hr, h2, h3, h4, h5⟩ := run_append_os (P := P) w t o.type base i z ht hi hz hsize hby hzs v n xs hown ad c news hl hnews h1 h63 hbytes hbase H hH
  unfold Oper.wp execOp
  simp only [ho, resolve, invoke, builtin, Sem.run_bind, Sem.run_pure, Result.andThen_ok, List.map_toArray, List.map_cons, List.map_nil, hs, hx, hr]
  exact h g k cap w' h2 h3 h4 h5
end Go.Proofs.Ytldlpohkpmapcaa.mk

/-
  THE RING of a Send's items.
-/
import Derived.Test.YtmliinglojmojaaBase
import Derived.Test.YtmliinglojmojaaCloneW
import Derived.Deep.RegionWith
import Derived.BigRegion
import Derived.Deep.QuietTactic
import Derived.BigQuiet
namespace Go.Proofs.Ytmliinglojmojaa.mk
open Go.RowKit
set_option linter.unusedVariables false

/-- where a ring lies: a block, which may hold more behind it -/
structure Rl where
  blk : Nat
  t : TypeId
  n : Nat
  tl : List Value
instance : Coe Rl Nat := ⟨Rl.blk⟩
structure Ring (base : Nat) (R : Rl) (cs : List Value) (w : World) : Prop where
  length : cs.length = 242
  other : R.t ≠ 3 ∧ R.t ≠ 9
  row : w.ownsRow base R.t R.n (.slice (some ⟨R.blk, 0, none⟩) 1 1) 1 (cs ++ R.tl)
theorem Ring.of {base R : Nat} {cs : List Value} {w : World} (h : w.ownsRow base 130 242 (.slice (some ⟨R, 0, none⟩) 1 1) 1 cs) : Ring base ⟨R, 130, 242, []⟩ cs w := ⟨by have := h.1; omega, by constructor <;> show (130 : TypeId) ≠ _ <;> decide, by simpa using h⟩
theorem Ring.cell {base : Nat} {R : Rl} {cs : List Value} {w : World} (h : Ring base R cs w) (j : Nat) (hj : j < 242) : w.cell? ⟨R, j, none⟩ = cs[j]? := by
  obtain ⟨hl, -, h⟩ := h
  have h1 := h.1
  rw [List.length_append] at h1
  rw [h.cellAt j (by omega), List.getElem?_append_left (by omega)]
theorem Ring.frozen {base : Nat} {R : Rl} {cs : List Value} {w : World} (h : Ring base R cs w) (j : Nat) : w.frozen? ⟨R, j, none⟩ = false := h.row.frozenAt j
theorem Ring.put {base : Nat} {R : Rl} {cs : List Value} {w : World} (h : Ring base R cs w) (j : Nat) (u : Value) (hj : j < 242 := by omega) : Ring base R (cs.set j u) (w.setCell ⟨R, j, none⟩ u) := by
  obtain ⟨hl, ht, h⟩ := h
  have h1 := (h.stored j u).1
  rw [List.set_append_left _ _ (by omega)] at h1
  exact ⟨by simp [hl], ht, h1⟩
theorem Ring.keep {base : Nat} {R : Rl} {cs : List Value} {w w' : World} (h : Ring base R cs w) (hb : Below w.heap.size w w') : Ring base R cs w' := ⟨h.length, h.other, owns_keep h.row hb⟩
theorem Ring.alloc {base : Nat} {R : Rl} {cs : List Value} {w : World} (h : Ring base R cs w) (o : Obj) : Ring base R cs (w.alloc o) := h.keep ((Below.refl _ _).alloc (Nat.le_refl _) _)
theorem Ring.drew {base : Nat} {R : Rl} {cs : List Value} {w : World} (h : Ring base R cs w) : Ring base R cs w.drew := h.keep (Below.refl _ _).drew
theorem Ring.kept {base : Nat} {R : Rl} {cs : List Value} {w w' : World} {row : Option Nat} (h : Ring base R cs w) (hg : w.grownBy w' row) (hne : some (R : Nat) ≠ row) : Ring base R cs w' := ⟨h.length, h.other, h.row.kept hg (.inr hne)⟩
theorem Ring.lt {base : Nat} {R : Rl} {cs : List Value} {w : World} (h : Ring base R cs w) : base ≤ R.blk ∧ R.blk < w.heap.size := h.row.lt R.blk rfl
theorem Ring.neInt {base b : Nat} {R : Rl} {cs : List Value} {w : World} {sz n : Nat} {v : Value} {xs : List Value} (h : Ring base R cs w) (h' : w.ownsRow b 3 sz v n xs) : some (R : Nat) ≠ v.ownBlock := by
  obtain ⟨hl, ht, h⟩ := h
  rcases h.2 with ⟨e1, _⟩ | ⟨g, cap, cur, e1, _, hgb, _⟩
  · cases e1
  · cases e1
    rcases h'.2 with ⟨rfl, _⟩ | ⟨g', cap', cur', rfl, _, hg', _⟩
    · simp [Value.ownBlock]
    · intro e2
      simp only [Value.ownBlock, Option.some.injEq] at e2
      subst e2
      rw [hgb] at hg'
      simp at hg'
      exact ht.1 hg'.2
theorem Ring.neStr {base b : Nat} {R : Rl} {cs : List Value} {w : World} {sz n : Nat} {v : Value} {xs : List Value} (h : Ring base R cs w) (h' : w.ownsRow b 9 sz v n xs) : some (R : Nat) ≠ v.ownBlock := by
  obtain ⟨hl, ht, h⟩ := h
  rcases h.2 with ⟨e1, _⟩ | ⟨g, cap, cur, e1, _, hgb, _⟩
  · cases e1
  · cases e1
    rcases h'.2 with ⟨rfl, _⟩ | ⟨g', cap', cur', rfl, _, hg', _⟩
    · simp [Value.ownBlock]
    · intro e2
      simp only [Value.ownBlock, Option.some.injEq] at e2
      subst e2
      rw [hgb] at hg'
      simp at hg'
      exact ht.2 hg'.2
theorem grow_drew {w w' : World} {row : Option Nat} (h : w.grownBy w' row) : w.grownBy w'.drew row := ⟨h.os, h.tape, h.output, h.size, h.block⟩
theorem ring_put5 {base : Nat} {R : Rl} {cs : List Value} {w : World} (hr : Ring base R cs w) (k : Nat) (hk : k < 60) (a b c d e : Value) (o : Obj) :
    Ring base R ((put4 cs k a b c d).set 241 e) ((((((w.setCell ⟨R, k * 4, none⟩ a).setCell ⟨R, k * 4 + 1, none⟩ b).setCell ⟨R, k * 4 + 2, none⟩ c).setCell ⟨R, k * 4 + 3, none⟩ d).setCell ⟨R, 241, none⟩ e).alloc o).drew ∧
    w.grownBy ((((((w.setCell ⟨R, k * 4, none⟩ a).setCell ⟨R, k * 4 + 1, none⟩ b).setCell ⟨R, k * 4 + 2, none⟩ c).setCell ⟨R, k * 4 + 3, none⟩ d).setCell ⟨R, 241, none⟩ e).alloc o).drew (some R) := by
  refine ⟨((((((hr.put (k * 4) a).put (k * 4 + 1) b).put (k * 4 + 2) c).put (k * 4 + 3) d).put 241 e).alloc o).drew, grow_drew ?_⟩
  exact (((((grow_set w ⟨R, k * 4, none⟩ a).trans (grow_set _ ⟨R, k * 4 + 1, none⟩ b)).trans (grow_set _ ⟨R, k * 4 + 2, none⟩ c)).trans (grow_set _ ⟨R, k * 4 + 3, none⟩ d)).trans (grow_set _ ⟨R, 241, none⟩ e)).trans (World.grownBy_alloc _ _ _)
theorem at_any (R : Nat) (m : Nat) (w : World) (hm : m ≤ 2000000) :
    Calls Try.prog 128 #[.pointer (some ⟨R, 0, none⟩), .int .i64 m] w fun e w' => e = .returned (.pointer (some ⟨R, m % 60 * 4, none⟩)) ∧ w = w' := by
  go_enter Try.func128, Try.ntmps128
  go_wp2
  go_ret
  exact ⟨rfl, rfl⟩
set_option maxHeartbeats 1000000 in
theorem put_any (base : Nat) (R : Rl) (cs : List Value) (e : Nat) (s : ByteArray) (l h : Bool) (n : Int) (w : World) (hr : Ring base R cs w) (he : e ≤ 1000100) (hc : cs[241]? = some (.int .i64 (e : Int))) :
    Calls Try.prog 126 #[.pointer (some ⟨R, 0, none⟩), .agg #[.string s, .bool l, .bool h, .int .i64 n]] w fun x w' => (∃ v, x = .returned v) ∧ Ring base R ((put4 cs (e % 60) (.string s) (.bool l) (.bool h) (.int .i64 n)).set 241 (.int .i64 ((e : Int) + 1))) w' ∧ w.grownBy w' (some R) := by
  have hl := hr.length
  have hlt := hr.lt
  have hE := (hr.cell 241 (by omega)).trans hc
  have hE' : (w.alloc (.cells #[.string s, .bool l, .bool h, .int .i64 n] 115)).cell? ⟨R, 241, none⟩ = some (.int .i64 (e : Int)) := (World.cell?_alloc_past (hn := hlt.2) ..).trans hE
  have c0 := hr.cell (e % 60 * 4) (by omega)
  have c1 := hr.cell (e % 60 * 4 + 1) (by omega)
  have c2 := hr.cell (e % 60 * 4 + 2) (by omega)
  have c3 := hr.cell (e % 60 * 4 + 3) (by omega)
  rw [List.getElem?_eq_getElem (by omega)] at c0 c1 c2 c3
  have f0 := hr.frozen (e % 60 * 4)
  have f1 := hr.frozen (e % 60 * 4 + 1)
  have f2 := hr.frozen (e % 60 * 4 + 2)
  have f3 := hr.frozen (e % 60 * 4 + 3)
  have f4 := hr.frozen 241
  go_enter Try.func126, Try.ntmps126
  go_wp2
  go_region_with (go_at_call 128; refine (at_any R e _ (by omega)).mono ?_; rintro x w' ⟨rfl, rfl⟩)
  all_goals go_wp2
  all_goals go_end0
  all_goals exact ⟨⟨_, rfl⟩, ring_put5 hr (e % 60) (by omega) _ _ _ _ _ _⟩
theorem ring_zero : ∃ Z : Array Value, Z.size = 242 ∧ ∀ w : World, (zeroValue 130).run Try.prog w = .ok (.agg Z) w := by
  have h : (Try.prog.info? 130).map (fun i => match i.zero with | some (.agg Z) => Z.size | _ => 0) = some 242 := by kernel_rfl
  cases e : Try.prog.info? 130 with
  | none => rw [e] at h; simp at h
  | some i =>
    rw [e] at h
    simp only [Option.map_some, Option.some.injEq] at h
    split at h
    · rename_i Z hz
      exact ⟨Z, h, fun w => by simp [zeroValue, typeInfo, e, hz]⟩
    · simp at h
/-- the ring of a Send whose items are xs: number b + i lies at place (b + i) % 60 -/
def Holds (b : Nat) (xs : List It) (cs : List Value) : Prop := cs.length = 242 ∧ cs[240]? = some (.int .i64 (b : Int)) ∧ cs[241]? = some (.int .i64 ((b + xs.length : Nat) : Int)) ∧ ∀ i (h : i < xs.length), cs[(b + i) % 60 * 4]? = some (.string xs[i].text) ∧ cs[(b + i) % 60 * 4 + 1]? = some (.bool xs[i].last) ∧ cs[(b + i) % 60 * 4 + 2]? = some (.bool xs[i].has) ∧ cs[(b + i) % 60 * 4 + 3]? = some (.int .i64 xs[i].since)
theorem Holds.push {b : Nat} {xs : List It} {cs : List Value} (h : Holds b xs cs) (hn : xs.length < 60) (x : It) :
    Holds b (xs ++ [x]) ((put4 cs ((b + xs.length) % 60) (.string x.text) (.bool x.last) (.bool x.has) (.int .i64 x.since)).set 241 (.int .i64 (((b + xs.length : Nat) : Int) + 1))) := by
  obtain ⟨hl, h0, h1, h2⟩ := h
  refine ⟨by rw [List.length_set, put4_length, hl], ?_, ?_, fun i hi => ?_⟩
  · rw [List.getElem?_set_ne (by omega), put4_other (by omega), h0]
  · rw [List.getElem?_set_self (by rw [put4_length]; omega)]
    simp only [List.length_append, List.length_cons, List.length_nil]
    congr 2
  · rw [List.getElem?_set_ne (by omega), List.getElem?_set_ne (by omega), List.getElem?_set_ne (by omega), List.getElem?_set_ne (by omega)]
    rcases Nat.lt_or_ge i xs.length with q | q
    · have hne : (b + i) % 60 ≠ (b + xs.length) % 60 := by omega
      rw [put4_other (by omega), put4_other (by omega), put4_other (by omega), put4_other (by omega)]
      have e : (xs ++ [x])[i] = xs[i] := by simp [List.getElem_append_left q]
      rw [e]
      exact h2 i q
    · have hi' : i = xs.length := by simp at hi; omega
      subst hi'
      have e : (xs ++ [x])[xs.length] = x := by simp
      rw [e]
      exact put4_at (by omega)
theorem ring_kept {base : Nat} {R : Rl} {cs : List Value} {w w2 : World} {o : Obj} (h : Ring base R cs w) (hb : Below (w.alloc o).heap.size (w.alloc o) w2) : Ring base R cs w2 := (h.alloc o).keep hb
theorem ring_aside {base : Nat} {R : Rl} {cs : List Value} {w : World} (h : Ring base R cs w) (p : Addr) (hp : R ≠ p.block) (u : Value) : Ring base R cs (w.setCell p u) := h.kept (grow_set w p u) (fun e => hp (by injection e))
set_option maxRecDepth 100000 in
set_option maxHeartbeats 1000000 in
theorem ringOf_any (b : Nat) (ao : Option Addr) (cap : Nat) (xs : List It) (w : World) (hb : b ≤ 1000000) (hn : xs.length ≤ 60) (hz : ∀ i (h : i < xs.length), xs[i].text.size ≤ 1048576) (hr : Rs w ao xs.length (is xs)) :
    Calls Try.prog 105 #[.agg #[.int .i64 (b : Int), .slice ao xs.length cap]] w fun e w' => (∃ (R : Rl) (cs : List Value), e = .returned (.pointer (some ⟨R, 0, none⟩)) ∧ Ring w.heap.size R cs w' ∧ Holds b xs cs) ∧ Below w.heap.size w w' := by
  obtain ⟨Z, hZs, hzv⟩ := ring_zero
  have HR : Hid (Rs w ao xs.length (is xs)) := hr
  have HZ : Hid (∀ i (h : i < xs.length), xs[i].text.size ≤ 1048576) := hz
  clear hr hz
  have hR0 : Ring w.heap.size ⟨w.heap.size + 1, 130, 242, []⟩ ((Z.setIfInBounds 240 (.int .i64 (b : Int))).setIfInBounds 241 (.int .i64 (b : Int))).toList ((w.alloc (.cells #[.int .i64 (b : Int), .slice ao xs.length cap] 44)).alloc (.cells ((Z.setIfInBounds 240 (.int .i64 (b : Int))).setIfInBounds 241 (.int .i64 (b : Int))) 130)) := by
    have := World.ownsRow_lit (base := w.heap.size) (e := 130) (size := 242) (w.alloc (.cells #[.int .i64 (b : Int), .slice ao xs.length cap] 44)) ((Z.setIfInBounds 240 (.int .i64 (b : Int))).setIfInBounds 241 (.int .i64 (b : Int))) 1 (by simp) (by unfold maxLen; omega) (by simp [hZs])
    rw [World.size_alloc] at this
    exact Ring.of this
  have hH0 : Holds b [] ((Z.setIfInBounds 240 (.int .i64 (b : Int))).setIfInBounds 241 (.int .i64 (b : Int))).toList := by
    refine ⟨by simp [hZs], ?_, ?_, fun i h => absurd h (by simp)⟩
    · rw [Array.getElem?_toList, Array.getElem?_setIfInBounds_ne (by omega), Array.getElem?_setIfInBounds_self_of_lt (by omega)]
    · rw [Array.getElem?_toList, Array.getElem?_setIfInBounds_self_of_lt (by simp [hZs])]
      simp
  have RR : Hid (Ring w.heap.size ⟨w.heap.size + 1, 130, 242, []⟩ ((Z.setIfInBounds 240 (.int .i64 (b : Int))).setIfInBounds 241 (.int .i64 (b : Int))).toList ((w.alloc (.cells #[.int .i64 (b : Int), .slice ao xs.length cap] 44)).alloc (.cells ((Z.setIfInBounds 240 (.int .i64 (b : Int))).setIfInBounds 241 (.int .i64 (b : Int))) 130))) := hR0
  have HH : Hid (Holds b [] ((Z.setIfInBounds 240 (.int .i64 (b : Int))).setIfInBounds 241 (.int .i64 (b : Int))).toList) := hH0
  clear hR0 hH0
  go_enter Try.func105, Try.ntmps105
  go_wp2
  go_loopw [15] (fun i wr => ∃ (k : Nat) (cs : List Value), k ≤ xs.length ∧ i = .int .i64 k ∧ Ring w.heap.size ⟨w.heap.size + 1, 130, 242, []⟩ cs wr ∧ Holds b (xs.take k) cs ∧ Below w.heap.size w wr) (fun i _ => xs.length - (intOf i).toNat)
  case atStart => exact ⟨0, _, Nat.zero_le _, rfl, RR.out, HH.out, ((Below.refl _ _).alloc (Nat.le_refl _) _).alloc (by simp) _⟩
  case round =>
    clear RR HH
    obtain ⟨k, cs, hk, rfl, hring, hH, hbel⟩ := hrel
    have hRl : w.heap.size ≤ w.heap.size + 1 ∧ w.heap.size + 1 < wr.heap.size := hring.lt
    by_cases hlt : k < xs.length
    · rcases HR.out.ex with h | ⟨g, rfl, hg, hgc⟩
      · omega
      obtain ⟨a0, a1, a2, a3⟩ := Rs.item (n := 0) hg hgc hbel k hlt
      have hsz := HZ.out k hlt
      have htl : (xs.take k).length = k := by rw [List.length_take]; omega
      have hE : cs[241]? = some (.int .i64 ((b + k : Nat) : Int)) := by have := hH.2.2.1; rw [htl] at this; exact this
      have HN := hH.push (by rw [htl]; omega) xs[k]
      rw [htl, List.take_append_getElem hlt] at HN
      have HP : Hid (Holds b (xs.take (k + 1)) ((put4 cs ((b + k) % 60) (.string xs[k].text) (.bool xs[k].last) (.bool xs[k].has) (.int .i64 xs[k].since)).set 241 (.int .i64 (((b + k : Nat) : Int) + 1)))) := HN
      have HRg : Hid (Ring w.heap.size ⟨w.heap.size + 1, 130, 242, []⟩ cs wr) := hring
      have HE : Hid (cs[241]? = some (.int .i64 ((b + k : Nat) : Int))) := hE
      clear hgc HN hH hE hring htl
      generalize xs[k].text = s at *
      generalize xs[k].last = l at *
      generalize xs[k].has = h at *
      generalize xs[k].since = n at *
      go_wp2_with (first
        | (go_at_call 34; refine (clone_any s _ hsz).mono ?_; rintro e w2 ⟨rfl, hb2⟩; (have d0 := hb2.cell (p := ⟨wr.heap.size, 0, none⟩) (by simp)); (have d1 := hb2.cell (p := ⟨wr.heap.size, 1, none⟩) (by simp)); (have d2 := hb2.cell (p := ⟨wr.heap.size, 2, none⟩) (by simp)); (have d3 := hb2.cell (p := ⟨wr.heap.size, 3, none⟩) (by simp)); (have z0 := hb2.frozen (p := ⟨wr.heap.size, 0, none⟩) (by simp)); (simp [go_sem] at d0 d1 d2 d3 z0))
        | (go_at_call 126; refine (put_any w.heap.size ⟨w.heap.size + 1, 130, 242, []⟩ cs (b + k) s l h n _ (ring_aside (ring_kept HRg.out hb2) _ (by show w.heap.size + 1 ≠ wr.heap.size; omega) _) (by omega) HE.out).mono ?_; rintro x w4 ⟨⟨v4, rfl⟩, hr4, hg4⟩))
      refine ⟨⟨k + 1, _, by omega, by go_num, hr4, HP.out, ?_⟩, by simp [intOf]; omega⟩
      have B1 : Below w.heap.size w w2 := (hbel.alloc hbel.size _).trans (hb2.mono (Nat.le_trans hbel.size (by simp)))
      exact (B1.setCell (p := ⟨wr.heap.size, 0, none⟩) hbel.size _).grown hg4 (Nat.le_trans B1.size (by simp)) (fun q hq => by injection hq with hq; have : w.heap.size + 1 = q := hq; omega)
    · obtain rfl : k = xs.length := by omega
      rw [List.take_length] at hH
      go_wp2
      go_ret
      exact ⟨⟨⟨w.heap.size + 1, 130, 242, []⟩, cs, rfl, hring, hH⟩, hbel⟩
end Go.Proofs.Ytmliinglojmojaa.mk

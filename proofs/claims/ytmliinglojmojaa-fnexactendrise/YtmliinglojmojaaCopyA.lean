/-
  COPIES of a Send: spec.l4Copy.
-/
import Derived.Test.YtmliinglojmojaaRingB
import Derived.Deep.AppendLies
import Derived.Deep.RegionHeldLaw
namespace Go.Proofs.Ytmliinglojmojaa.mk
open Go.RowKit
set_option linter.unusedVariables false

theorem is_one (xs : List It) : ∀ u ∈ is xs, u.oneCell' = true := by
  intro u hu
  obtain ⟨x, _, hx⟩ := List.mem_flatMap.1 hu
  simp [It.vals] at hx
  rcases hx with rfl | rfl | rfl | rfl <;> rfl
theorem rs_cells {w : World} {g : Nat} {xs : List It} (h : Rs w (some ⟨g, 0, none⟩) xs.length (is xs)) (hn : 0 < xs.length) : ∀ j u, (is xs)[j]? = some u → w.cell? ((⟨g, 0, none⟩ : Addr).add j) = some u := by
  intro j u hj
  rcases h.ex with h | ⟨g', e, hg, hc⟩
  · omega
  · cases e
    have hl : j < (is xs).length := by
      rcases Nat.lt_or_ge j (is xs).length with q | q
      · exact q
      · rw [List.getElem?_eq_none q] at hj; simp at hj
    have ea : (⟨g, 0, none⟩ : Addr).add j = ⟨g, j, none⟩ := by unfold Addr.add; split <;> simp_all
    rw [ea, hc j hl, hj]
theorem owns0 (W : World) (base : Nat) (hb : base ≤ W.heap.size) (H : Nat) (hH : W.heap.size = H) : ((W.alloc (.cells #[] 115)).drew).ownsRow base 115 4 (.slice (some ⟨H, 0, none⟩) 0 0) 0 [] := by
  subst hH
  exact World.ownsRow.drew (World.ownsRow_lit W #[] 0 hb (Nat.zero_le _) rfl)
theorem far {W w1 : World} {row : Option Nat} (hg : W.grownBy w1 row) (B j : Nat) {v : Value} (h : W.cell? ⟨B, j, none⟩ = some v) (hne : some B ≠ row) : w1.cell? ⟨B, j, none⟩ = some v :=
  (hg.cell_far ⟨B, j, none⟩ (cell_lt h) hne).trans h
theorem farF {W w1 : World} {row : Option Nat} (hg : W.grownBy w1 row) (B j : Nat) (hB : B < W.heap.size) (h : W.frozen? ⟨B, j, none⟩ = false) (hne : some B ≠ row) : w1.frozen? ⟨B, j, none⟩ = false :=
  (hg.frozen_far ⟨B, j, none⟩ hB hne).trans h
set_option maxHeartbeats 1000000 in
theorem copy_yes (b : Int) (g cap : Nat) (xs : List It) (w : World) (hn : xs.length ≤ 1048576) (hpos : 0 < xs.length) (hr : Rs w (some ⟨g, 0, none⟩) xs.length (is xs)) :
    Calls Try.prog 103 #[.agg #[.int .i64 b, .slice (some ⟨g, 0, none⟩) xs.length cap]] w fun e w' => (∃ g' c, e = .returned (.agg #[.int .i64 b, .slice (some ⟨g', 0, none⟩) xs.length c]) ∧ w'.ownsRow w.heap.size 115 4 (.slice (some ⟨g', 0, none⟩) xs.length c) xs.length (is xs)) ∧ Below w.heap.size w w' := by
  obtain ⟨i0, hi, hz0, hz1, hz2⟩ := info_parts info_item
  have b2 : Below w.heap.size w ((w.alloc (.cells #[.int .i64 b, .slice (some ⟨g, 0, none⟩) xs.length cap] 44)).alloc (.cells #[.int .i64 0, .slice none 0 0] 44)) := ((Below.refl _ _).alloc (Nat.le_refl _) _).alloc (by simp) _
  have HR : Hid (Rs w (some ⟨g, 0, none⟩) xs.length (is xs)) := hr
  have B2 : Hid (Below w.heap.size w ((w.alloc (.cells #[.int .i64 b, .slice (some ⟨g, 0, none⟩) xs.length cap] 44)).alloc (.cells #[.int .i64 0, .slice none 0 0] 44))) := b2
  clear hr b2
  go_enter Try.func103, Try.ntmps103
  go_wp2
  go_region_held3 (fun w' => w'.cell? ⟨w.heap.size, 0, none⟩ = some (.int .i64 b) ∧ w'.cell? ⟨w.heap.size, 1, none⟩ = some (.slice (some ⟨g, 0, none⟩) xs.length cap))
    (first | assumption | exact ⟨y0, y1⟩ | (simp [go_sem]; done) | go_keep)
    (first | (go_loud (refine step_append_lies _ rfl _ _ 42 rfl w.heap.size 115 i0 (.agg #[.string ⟨#[]⟩, .bool false, .bool false, .int .i64 0]) 4 40 Try.underlying42 hi hz0 hz1 hz2 rfl (by decide) (.slice (some ⟨w.heap.size + 1 + 1, 0, none⟩) 0 0) 0 [] rfl (owns0 ((w.alloc (.cells #[.int .i64 b, .slice (some ⟨g, 0, none⟩) xs.length cap] 44)).alloc (.cells #[.int .i64 0, .slice none 0 0] 44)) _ (by simp; omega) _ (by simp)) ⟨g, 0, none⟩ xs.length cap (is xs) rfl (is_length _) (rs_cells (HR.out.keep ((B2.out.alloc (by simp; omega) _).drew)) hpos) (is_one _) hpos (by unfold maxLen; omega) (by omega) (by simp; omega) (w.heap.size + 1 + 1 + 1) (by simp) ?_; intro g' c' w1 hown hgrow hat hlt; (have y0 := far hgrow w.heap.size 0 (v := .int .i64 b) (by simp [go_sem]) (by simp [Value.ownBlock] <;> omega)); (have y1 := far hgrow w.heap.size 1 (v := .slice (some ⟨g, 0, none⟩) xs.length cap) (by simp [go_sem]) (by simp [Value.ownBlock] <;> omega)); (have x0 := far hgrow (w.heap.size + 1) 0 (v := .int .i64 0) (by simp [go_sem]) (by simp [Value.ownBlock] <;> omega)); (have x1 := far hgrow (w.heap.size + 1) 1 (v := .slice none 0 0) (by simp [go_sem]) (by simp [Value.ownBlock] <;> omega)); (have z0 := farF hgrow (w.heap.size + 1) 0 (by simp) (by simp [go_sem]) (by simp [Value.ownBlock] <;> omega)); (have z1 := farF hgrow (w.heap.size + 1) 1 (by simp) (by simp [go_sem]) (by simp [Value.ownBlock] <;> omega)))))
  simp only [Nat.zero_add, List.nil_append] at hown
  have hg' : g' ≠ w.heap.size + 1 := by
    rcases hat with q | q
    · simp [Value.ownBlock] at q; omega
    · omega
  have b1 : Below w.heap.size w w1 := ((B2.out.alloc (by simp; omega) _).drew).grown hgrow (by simp; omega) (fun k hk => by simp [Value.ownBlock] at hk; omega)
  have o1 := ownsRow_setCell_other (ownsRow_setCell_other hown (a := ⟨w.heap.size + 1, 0, none⟩) (by simpa [Value.ownBlock] using hg') (.int .i64 b)) (a := ⟨w.heap.size + 1, 1, none⟩) (by simpa [Value.ownBlock] using hg') (.slice (some ⟨g', 0, none⟩) xs.length c')
  go_wp2
  exact bodyPost_ret (v := .agg #[.int .i64 b, .slice (some ⟨g', 0, none⟩) xs.length c']) (by simp [results, Try.results103, go_sem, x0, x1]) rfl ⟨⟨g', c', rfl, o1⟩, (b1.setCell (p := ⟨w.heap.size + 1, 0, none⟩) (by simp) _).setCell (p := ⟨w.heap.size + 1, 1, none⟩) (by simp) _⟩
set_option maxHeartbeats 1000000 in
theorem copy_nil (b : Int) (g cap : Nat) (w : World) :
    Calls Try.prog 103 #[.agg #[.int .i64 b, .slice (some ⟨g, 0, none⟩) 0 cap]] w fun e w' => (∃ g' c, e = .returned (.agg #[.int .i64 b, .slice (some ⟨g', 0, none⟩) 0 c]) ∧ w'.ownsRow w.heap.size 115 4 (.slice (some ⟨g', 0, none⟩) 0 c) 0 []) ∧ Below w.heap.size w w' := by
  go_enter Try.func103, Try.ntmps103
  go_wp2
  go_region_held3 (fun w' => w'.cell? ⟨w.heap.size, 0, none⟩ = some (.int .i64 b) ∧ w'.cell? ⟨w.heap.size, 1, none⟩ = some (.slice (some ⟨g, 0, none⟩) 0 cap))
    (first | assumption | (simp [go_sem]; done) | go_keep)
    (fail)
  go_wp2
  exact bodyPost_ret (v := .agg #[.int .i64 b, .slice (some ⟨w.heap.size + 1 + 1, 0, none⟩) 0 0]) (by simp [results, Try.results103, go_sem]) rfl ⟨⟨w.heap.size + 1 + 1, 0, rfl, owns0 _ _ (by simp; omega) _ (by simp)⟩, ((((Below.refl _ _).alloc (Nat.le_refl _) _).alloc (by simp) _).alloc (by simp; omega) _).drew⟩
theorem copy_any (b : Int) (g cap : Nat) (xs : List It) (w : World) (hn : xs.length ≤ 1048576) (hr : Rs w (some ⟨g, 0, none⟩) xs.length (is xs)) :
    Calls Try.prog 103 #[.agg #[.int .i64 b, .slice (some ⟨g, 0, none⟩) xs.length cap]] w fun e w' => (∃ g' c, e = .returned (.agg #[.int .i64 b, .slice (some ⟨g', 0, none⟩) xs.length c]) ∧ w'.ownsRow w.heap.size 115 4 (.slice (some ⟨g', 0, none⟩) xs.length c) xs.length (is xs)) ∧ Below w.heap.size w w' := by
  rcases Nat.eq_zero_or_pos xs.length with h | h
  · obtain rfl : xs = [] := List.eq_nil_of_length_eq_zero h
    exact copy_nil b g cap w
  · exact copy_yes b g cap xs w hn h hr
set_option maxHeartbeats 1000000 in
theorem copy_none (b : Int) (w : World) :
    Calls Try.prog 103 #[.agg #[.int .i64 b, .slice none 0 0]] w fun e w' => (∃ g' c, e = .returned (.agg #[.int .i64 b, .slice (some ⟨g', 0, none⟩) 0 c]) ∧ w'.ownsRow w.heap.size 115 4 (.slice (some ⟨g', 0, none⟩) 0 c) 0 []) ∧ Below w.heap.size w w' := by
  go_enter Try.func103, Try.ntmps103
  go_wp2
  go_region_held3 (fun w' => w'.cell? ⟨w.heap.size, 0, none⟩ = some (.int .i64 b) ∧ w'.cell? ⟨w.heap.size, 1, none⟩ = some (.slice none 0 0))
    (first | assumption | (simp [go_sem]; done) | go_keep)
    (fail)
  go_wp2
  exact bodyPost_ret (v := .agg #[.int .i64 b, .slice (some ⟨w.heap.size + 1 + 1, 0, none⟩) 0 0]) (by simp [results, Try.results103, go_sem]) rfl ⟨⟨w.heap.size + 1 + 1, 0, rfl, owns0 _ _ (by simp; omega) _ (by simp)⟩, ((((Below.refl _ _).alloc (Nat.le_refl _) _).alloc (by simp) _).alloc (by simp; omega) _).drew⟩
set_option maxHeartbeats 1000000 in
theorem copy_nilA (b : Int) (ad : Addr) (cap : Nat) (w : World) :
    Calls Try.prog 103 #[.agg #[.int .i64 b, .slice (some ad) 0 cap]] w fun e w' => (∃ g' c, e = .returned (.agg #[.int .i64 b, .slice (some ⟨g', 0, none⟩) 0 c]) ∧ w'.ownsRow w.heap.size 115 4 (.slice (some ⟨g', 0, none⟩) 0 c) 0 []) ∧ Below w.heap.size w w' := by
  go_enter Try.func103, Try.ntmps103
  go_wp2
  go_region_held3 (fun w' => w'.cell? ⟨w.heap.size, 0, none⟩ = some (.int .i64 b) ∧ w'.cell? ⟨w.heap.size, 1, none⟩ = some (.slice (some ad) 0 cap))
    (first | assumption | (simp [go_sem]; done) | go_keep)
    (fail)
  go_wp2
  exact bodyPost_ret (v := .agg #[.int .i64 b, .slice (some ⟨w.heap.size + 1 + 1, 0, none⟩) 0 0]) (by simp [results, Try.results103, go_sem]) rfl ⟨⟨w.heap.size + 1 + 1, 0, rfl, owns0 _ _ (by simp; omega) _ (by simp)⟩, ((((Below.refl _ _).alloc (Nat.le_refl _) _).alloc (by simp) _).alloc (by simp; omega) _).drew⟩
theorem copy_opt (b : Int) (ao : Option Addr) (cap : Nat) (xs : List It) (w : World) (hn : xs.length ≤ 1048576) (hr : Rs w ao xs.length (is xs)) (hao : ao = none → xs.length = 0 ∧ cap = 0) :
    Calls Try.prog 103 #[.agg #[.int .i64 b, .slice ao xs.length cap]] w fun e w' => (∃ g' c, e = .returned (.agg #[.int .i64 b, .slice (some ⟨g', 0, none⟩) xs.length c]) ∧ w'.ownsRow w.heap.size 115 4 (.slice (some ⟨g', 0, none⟩) xs.length c) xs.length (is xs)) ∧ Below w.heap.size w w' := by
  rcases Nat.eq_zero_or_pos xs.length with h | h
  · obtain rfl : xs = [] := List.eq_nil_of_length_eq_zero h
    cases ao with
    | none =>
      obtain ⟨-, rfl⟩ := hao rfl
      exact copy_none b w
    | some ad => exact copy_nilA b ad cap w
  · rcases hr.ex with q | ⟨g, rfl, -, -⟩
    · omega
    · exact copy_any b g cap xs w hn hr
end Go.Proofs.Ytmliinglojmojaa.mk

/-
  MARKS: what the laws' eq, mark and held functions do to a slice of strings.
-/
import Derived.Test.YtfjedpnagnnobaaMkA
namespace Go.Proofs.Ytfjedpnagnnobaa.mk
open Go.RowKit
set_option linter.unusedVariables false

def ss (xs : List ByteArray) : List Value := xs.map Value.string
theorem ss_length (xs : List ByteArray) : (ss xs).length = xs.length := by simp [ss]
theorem ss_append (xs ys : List ByteArray) : ss (xs ++ ys) = ss xs ++ ss ys := by simp [ss]
theorem ss_at (xs : List ByteArray) (i : Nat) (h : i < xs.length) : (ss xs)[i]? = some (.string xs[i]) := by simp [ss, h]
theorem eqStringS_same (ao bo : Option Addr) (ca cb : Nat) (xs : List ByteArray) (w : World) (hl : xs.length ≤ 1000000000) (ha : Rs w ao xs.length (ss xs)) (hb : Rs w bo xs.length (ss xs)) :
    Calls Try.prog 62 #[.slice ao xs.length ca, .slice bo xs.length cb] w fun e w' => e = .returned (.bool true) ∧ Below w.heap.size w w' := by
  have HA : Hid (Rs w ao xs.length (ss xs)) := ha
  have HB : Hid (Rs w bo xs.length (ss xs)) := hb
  clear ha hb
  go_enter Try.func62, Try.ntmps62
  go_wp2
  go_loopw [5] (fun i wr => ∃ k : Nat, k ≤ xs.length ∧ i = .int .i64 k ∧ Below w.heap.size w wr) (fun i _ => xs.length - (intOf i).toNat)
  case atStart => exact ⟨0, Nat.zero_le _, rfl, Below.refl _ _⟩
  case round =>
    obtain ⟨k, hk, rfl, hbel⟩ := hrel
    by_cases hlt : k < xs.length
    · rcases HA.out.ex with h | ⟨g, rfl, hg, hgc⟩
      · omega
      rcases HB.out.ex with h | ⟨g', rfl, hg', hgc'⟩
      · omega
      have hx := ss_at xs k hlt
      have hpl := ss_length xs
      have a0 : wr.cell? ⟨g, k, none⟩ = some (.string xs[k]) := (hbel.cell (p := ⟨g, k, none⟩) hg).trans ((hgc _ (by omega)).trans hx)
      have b0 : wr.cell? ⟨g', k, none⟩ = some (.string xs[k]) := (hbel.cell (p := ⟨g', k, none⟩) hg').trans ((hgc' _ (by omega)).trans hx)
      clear hx hgc hgc'
      generalize xs[k] = s at *
      go_wp2
      go_region_held3 (fun w' => w'.cell? ⟨g, k, none⟩ = some (.string s) ∧ w'.cell? ⟨g', k, none⟩ = some (.string s) ∧ Below wr.heap.size wr w')
        (first | assumption | exact ⟨a0, b0, (Below.refl _ _).drew⟩)
        (fail)
      go_wp2
      go_roundw
      case rel => exact ⟨k + 1, by omega, by go_num, hbel.drew⟩
      case measure => simp [intOf]; omega
    · obtain rfl : k = xs.length := by omega
      go_wp2
      go_ret
      exact ⟨rfl, hbel⟩
/-- the cells as the marks from k on have left them -/
def Ms (k n : Nat) (cs : List Value) : Prop := ∀ i, i < n → cs[i]? = some (.string (mkt (k + i)))
theorem Ms.step {k i : Nat} {cs : List Value} (h : Ms k i cs) (hl : i < cs.length) : Ms k (i + 1) (cs.set i (.string (mkt (k + i)))) := by
  intro j hj
  rcases Nat.lt_or_ge j i with h1 | h1
  · rw [List.getElem?_set_ne (by omega)]
    exact h j h1
  · obtain rfl : j = i := by omega
    rw [List.getElem?_set_self (by omega)]
theorem markStringS_one (base : Nat) (v : Value) (n : Nat) (xs : List Value) (w : World) (hn : n ≤ 1000000000) (hown : w.ownsRow base 9 1 v n xs) :
    Calls Try.prog 65 #[v, .int .i64 1] w fun e w' => e = .returned (.int .i64 ((1 + n : Nat) : Int)) ∧ (∃ cs, w'.ownsRow base 9 1 v n cs ∧ Ms 1 n cs) ∧ w.grownBy w' v.ownBlock := by
  obtain ⟨ao, cap, rfl, hcap, hmax, hrs⟩ := rs_of_owns hown
  have HO : Hid (w.ownsRow base 9 1 (.slice ao n cap) n xs) := hown
  clear hown
  go_enter Try.func65, Try.ntmps65
  go_wp2
  go_loopw [1, 5] (fun q i wr => ∃ j : Nat, j ≤ n ∧ i = .int .i64 j ∧ q = .int .i64 ((1 + j : Nat) : Int) ∧ (∃ cs, wr.ownsRow base 9 1 (.slice ao n cap) n cs ∧ Ms 1 j cs) ∧ w.grownBy wr (Value.slice ao n cap).ownBlock) (fun _ i _ => n - (intOf i).toNat)
  case atStart => exact ⟨0, Nat.zero_le _, rfl, rfl, ⟨xs, HO.out, fun i hi => absurd hi (by omega)⟩, grow_below _ (Below.refl _ _)⟩
  case round =>
    obtain ⟨j, hj, rfl, rfl, ⟨cs, hown, hM⟩, hgr⟩ := hrel
    by_cases hlt : j < n
    · rcases hrs.ex with h | ⟨g, rfl, hg, hgc⟩
      · omega
      have hcl := hown.1
      have HK : Hid (∀ u : World, Calls Try.prog 74 #[.int .i64 ((1 + j : Nat) : Int)] u fun e u' => e = .returned (.string (mkt (1 + j))) ∧ Below u.heap.size u u') := fun u => markText_any _ u (by omega) (by omega)
      clear hgc
      obtain ⟨q, hq⟩ : ∃ q, q = 1 + j := ⟨_, rfl⟩
      rw [← hq] at HK ⊢
      have hqb : q ≤ 4000000000 := by omega
      have HQ : Hid (q = 1 + j) := hq
      clear hq
      have HW : Hid (wr.ownsRow base 9 1 (.slice (some ⟨g, 0, none⟩) n cap) n cs) := hown
      clear hown
      go_wp2_with (go_at_call 74; refine (HK.out _).mono ?_; rintro e w2 ⟨rfl, hb2⟩; (have ho2 := HW.out.kept (grow_below none hb2) (.inr (by simp [Value.ownBlock]))); (have c0 := ho2.cellAt j (by omega)); (rw [List.getElem?_eq_getElem (by omega)] at c0); (have f0 := ho2.frozenAt j))
      go_roundw
      case rel =>
        have hq := HQ.out
        refine ⟨j + 1, by omega, by go_num, by go_num, ⟨_, (ho2.stored j (.string (mkt q))).1, ?_⟩, grow1 _ hgr hb2⟩
        rw [hq]
        exact hM.step (by omega)
      case measure => simp [intOf]; omega
    · obtain rfl : j = n := by omega
      go_wp2
      go_ret
      exact ⟨rfl, ⟨cs, hown, hM⟩, hgr⟩
theorem heldStringS_one (base : Nat) (v : Value) (n : Nat) (cs : List Value) (w : World) (hn : n ≤ 1000000000) (hown : w.ownsRow base 9 1 v n cs) (hM : Ms 1 n cs) :
    Calls Try.prog 68 #[v, .int .i64 1] w fun e w' => e = .returned (.int .i64 ((1 + n : Nat) : Int)) ∧ Below w.heap.size w w' := by
  obtain ⟨ao, cap, rfl, hcap, hmax, hrs⟩ := rs_of_owns hown
  have hcl := hown.1
  clear hown
  have HM : Hid (Ms 1 n cs) := hM
  clear hM
  go_enter Try.func68, Try.ntmps68
  go_wp2
  go_loopw [1, 5] (fun q i wr => ∃ j : Nat, j ≤ n ∧ i = .int .i64 j ∧ q = .int .i64 ((1 + j : Nat) : Int) ∧ Below w.heap.size w wr) (fun _ i _ => n - (intOf i).toNat)
  case atStart => exact ⟨0, Nat.zero_le _, rfl, rfl, Below.refl _ _⟩
  case round =>
    obtain ⟨j, hj, rfl, rfl, hbel⟩ := hrel
    by_cases hlt : j < n
    · rcases hrs.ex with h | ⟨g, rfl, hg, hgc⟩
      · omega
      have hm := HM.out j hlt
      have a0 : wr.cell? ⟨g, j, none⟩ = some (.string (mkt (1 + j))) := (hbel.cell (p := ⟨g, j, none⟩) hg).trans ((hgc _ (by omega)).trans hm)
      have hgr : g < wr.heap.size := Nat.lt_of_lt_of_le hg hbel.size
      have HK : Hid (∀ u : World, Calls Try.prog 74 #[.int .i64 ((1 + j : Nat) : Int)] u fun e u' => e = .returned (.string (mkt (1 + j))) ∧ Below u.heap.size u u') := fun u => markText_any _ u (by omega) (by omega)
      clear hm hgc
      obtain ⟨q, hq⟩ : ∃ q, q = 1 + j := ⟨_, rfl⟩
      rw [← hq] at a0 HK ⊢
      have hqb : q ≤ 4000000000 := by omega
      have HQ : Hid (q = 1 + j) := hq
      clear hq
      go_wp2
      go_region_held3 (fun w' => w'.cell? ⟨g, j, none⟩ = some (.string (mkt q)) ∧ Below wr.heap.size wr w')
        (first | assumption | exact ⟨a0, (Below.refl _ _).drew⟩ | (go_split_ands; refine ⟨kp (by assumption) (by assumption) hb2 hgr, kb (by assumption) hb2 (Nat.le_refl _)⟩))
        (first | (go_at_call 74; refine (HK.out _).mono ?_; rintro e w2 ⟨rfl, hb2⟩))
      have hbl : Below wr.heap.size wr w2 := by go_split_ands; assumption
      go_wp2
      go_roundw
      case rel => exact ⟨j + 1, by omega, by go_num, by have := HQ.out; go_num, hbel.trans (hbl.mono hbel.size)⟩
      case measure => simp [intOf]; omega
    · obtain rfl : j = n := by omega
      go_wp2
      go_ret
      exact ⟨rfl, hbel⟩
end Go.Proofs.Ytfjedpnagnnobaa.mk

/-
  MARKS: what the laws' eq, mark and held functions do to a slice of numbers.
-/
import Derived.Test.YteceaadmgpjmcaaTickC
import Derived.Test.YteceaadmgpjmcaaMarks
namespace Go.Proofs.Yteceaadmgpjmcaa.mk
open Go.RowKit
set_option linter.unusedVariables false

theorem ns_at (xs : List Int) (i : Nat) (h : i < xs.length) : (ns xs)[i]? = some (.int .i64 xs[i]) := by simp [ns, h]
theorem eqIntS_same (ao bo : Option Addr) (ca cb : Nat) (xs : List Int) (w : World) (hl : xs.length ≤ 1000000000) (ha : Rs w ao xs.length (ns xs)) (hb : Rs w bo xs.length (ns xs)) :
    Calls Try.prog 32 #[.slice ao xs.length ca, .slice bo xs.length cb] w fun e w' => e = .returned (.bool true) ∧ Below w.heap.size w w' := by
  have HA : Hid (Rs w ao xs.length (ns xs)) := ha
  have HB : Hid (Rs w bo xs.length (ns xs)) := hb
  clear ha hb
  go_enter Try.func32, Try.ntmps32
  go_wp2
  go_loopw [5] (fun i wr => ∃ k : Nat, k ≤ xs.length ∧ i = .int .i64 k ∧ Below w.heap.size w wr) (fun i _ => xs.length - (intOf i).toNat)
  case atStart => exact ⟨0, Nat.zero_le _, rfl, Below.refl _ _⟩
  case round =>
    obtain ⟨k, hk, rfl, hbel⟩ := hrel
    by_cases hlt : k < xs.length
    · rcases HA.out.ex with h | ⟨g, rfl, hg, hgc⟩
      · omega
      rcases HB.out.ex with h | ⟨g', rfl, hg', hgc'⟩
      · omega
      have hx := ns_at xs k hlt
      have hpl := ns_length xs
      have a0 : wr.cell? ⟨g, k, none⟩ = some (.int .i64 xs[k]) := (hbel.cell (p := ⟨g, k, none⟩) hg).trans ((hgc _ (by omega)).trans hx)
      have b0 : wr.cell? ⟨g', k, none⟩ = some (.int .i64 xs[k]) := (hbel.cell (p := ⟨g', k, none⟩) hg').trans ((hgc' _ (by omega)).trans hx)
      clear hx hgc hgc'
      generalize xs[k] = s at *
      go_wp2
      go_region_held3 (fun w' => w'.cell? ⟨g, k, none⟩ = some (.int .i64 s) ∧ w'.cell? ⟨g', k, none⟩ = some (.int .i64 s) ∧ Below wr.heap.size wr w')
        (first | assumption | exact ⟨a0, b0, (Below.refl _ _).drew⟩)
        (fail)
      go_wp2
      go_roundw
      case rel => exact ⟨k + 1, by omega, by go_num, hbel.drew⟩
      case measure => simp [intOf]; omega
    · obtain rfl : k = xs.length := by omega
      go_wp2
      go_ret
      exact ⟨rfl, hbel⟩
/-- the cells as the marks from k on have left them -/
def Mn (k n : Nat) (cs : List Value) : Prop := ∀ i, i < n → cs[i]? = some (.int .i64 ((k + i : Nat) : Int))
theorem Mn.step {k i : Nat} {cs : List Value} (h : Mn k i cs) (hl : i < cs.length) : Mn k (i + 1) (cs.set i (.int .i64 ((k + i : Nat) : Int))) := by
  intro j hj
  rcases Nat.lt_or_ge j i with h1 | h1
  · rw [List.getElem?_set_ne (by omega)]
    exact h j h1
  · obtain rfl : j = i := by omega
    rw [List.getElem?_set_self (by omega)]
theorem markIntS_any (base : Nat) (v : Value) (n k : Nat) (xs : List Value) (w : World) (hn : n ≤ 1000000000) (hk2 : k ≤ 1000000000) (hown : w.ownsRow base 3 1 v n xs) :
    Calls Try.prog 33 #[v, .int .i64 k] w fun e w' => e = .returned (.int .i64 ((k + n : Nat) : Int)) ∧ (∃ cs, w'.ownsRow base 3 1 v n cs ∧ Mn k n cs) ∧ w.grownBy w' v.ownBlock := by
  obtain ⟨ao, cap, rfl, hcap, hmax, hrs⟩ := rs_of_owns hown
  have HO : Hid (w.ownsRow base 3 1 (.slice ao n cap) n xs) := hown
  clear hown
  go_enter Try.func33, Try.ntmps33
  go_wp2
  go_loopw [1, 5] (fun q i wr => ∃ j : Nat, j ≤ n ∧ i = .int .i64 j ∧ q = .int .i64 ((k + j : Nat) : Int) ∧ (∃ cs, wr.ownsRow base 3 1 (.slice ao n cap) n cs ∧ Mn k j cs) ∧ w.grownBy wr (Value.slice ao n cap).ownBlock) (fun _ i _ => n - (intOf i).toNat)
  case atStart => exact ⟨0, Nat.zero_le _, rfl, rfl, ⟨xs, HO.out, fun i hi => absurd hi (by omega)⟩, grow_below _ (Below.refl _ _)⟩
  case round =>
    obtain ⟨j, hj, rfl, rfl, ⟨cs, hown, hM⟩, hgr⟩ := hrel
    by_cases hlt : j < n
    · rcases hrs.ex with h | ⟨g, rfl, hg, hgc⟩
      · omega
      have hcl := hown.1
      clear hgc
      obtain ⟨q, hq⟩ : ∃ q, q = k + j := ⟨_, rfl⟩
      rw [← hq]
      have hqb : q ≤ 4000000000 := by omega
      have HQ : Hid (q = k + j) := hq
      clear hq
      have c0 := hown.cellAt j (by omega)
      rw [List.getElem?_eq_getElem (by omega)] at c0
      have f0 := hown.frozenAt j
      go_wp2
      go_roundw
      case rel =>
        have hq := HQ.out
        refine ⟨j + 1, by omega, by go_num, by go_num, ⟨_, (hown.stored j (.int .i64 (q : Int))).1, ?_⟩, grow1 _ hgr (Below.refl _ _)⟩
        rw [hq]
        exact hM.step (by omega)
      case measure => simp [intOf]; omega
    · obtain rfl : j = n := by omega
      go_wp2
      go_ret
      exact ⟨rfl, ⟨cs, hown, hM⟩, hgr⟩
theorem heldIntS_any (base : Nat) (v : Value) (n k : Nat) (cs : List Value) (w : World) (hn : n ≤ 1000000000) (hk2 : k ≤ 1000000000) (hown : w.ownsRow base 3 1 v n cs) (hM : Mn k n cs) :
    Calls Try.prog 34 #[v, .int .i64 k] w fun e w' => e = .returned (.int .i64 ((k + n : Nat) : Int)) ∧ Below w.heap.size w w' := by
  obtain ⟨ao, cap, rfl, hcap, hmax, hrs⟩ := rs_of_owns hown
  have hcl := hown.1
  clear hown
  have HM : Hid (Mn k n cs) := hM
  clear hM
  go_enter Try.func34, Try.ntmps34
  go_wp2
  go_loopw [1, 5] (fun q i wr => ∃ j : Nat, j ≤ n ∧ i = .int .i64 j ∧ q = .int .i64 ((k + j : Nat) : Int) ∧ Below w.heap.size w wr) (fun _ i _ => n - (intOf i).toNat)
  case atStart => exact ⟨0, Nat.zero_le _, rfl, rfl, Below.refl _ _⟩
  case round =>
    obtain ⟨j, hj, rfl, rfl, hbel⟩ := hrel
    by_cases hlt : j < n
    · rcases hrs.ex with h | ⟨g, rfl, hg, hgc⟩
      · omega
      have a0 := (hbel.cell (p := ⟨g, j, none⟩) hg).trans ((hgc _ (by omega)).trans (HM.out j hlt))
      clear hgc
      obtain ⟨q, hq⟩ : ∃ q, q = k + j := ⟨_, rfl⟩
      rw [← hq] at a0 ⊢
      have hqb : q ≤ 4000000000 := by omega
      have HQ : Hid (q = k + j) := hq
      clear hq
      go_wp2
      go_roundw
      case rel => exact ⟨j + 1, by omega, by go_num, by have := HQ.out; go_num, hbel⟩
      case measure => simp [intOf]; omega
    · obtain rfl : j = n := by omega
      go_wp2
      go_ret
      exact ⟨rfl, hbel⟩
end Go.Proofs.Yteceaadmgpjmcaa.mk

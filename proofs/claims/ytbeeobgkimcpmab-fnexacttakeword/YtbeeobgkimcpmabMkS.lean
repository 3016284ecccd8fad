/-
  MARKS: what the laws' eq, mark and held functions do to a slice of strings.
-/
import Derived.Test.YtbeeobgkimcpmabMkA
namespace Go.Proofs.Ytbeeobgkimcpmab.mk
open Go.RowKit
set_option linter.unusedVariables false

def ss (xs : List ByteArray) : List Value := xs.map Value.string
theorem ss_length (xs : List ByteArray) : (ss xs).length = xs.length := by simp [ss]
theorem ss_append (xs ys : List ByteArray) : ss (xs ++ ys) = ss xs ++ ss ys := by simp [ss]
theorem ss_at (xs : List ByteArray) (i : Nat) (h : i < xs.length) : (ss xs)[i]? = some (.string xs[i]) := by simp [ss, h]
theorem eqStringS_same (ao bo : Option Addr) (ca cb : Nat) (xs : List ByteArray) (w : World) (hl : xs.length ≤ 1000000000) (ha : Rs w ao xs.length (ss xs)) (hb : Rs w bo xs.length (ss xs)) :
    Calls Try.prog 56 #[.slice ao xs.length ca, .slice bo xs.length cb] w fun e w' => e = .returned (.bool true) ∧ Below w.heap.size w w' := by
  have HA : Hid (Rs w ao xs.length (ss xs)) := ha
  have HB : Hid (Rs w bo xs.length (ss xs)) := hb
  clear ha hb
  go_enter Try.func56, Try.ntmps56
  go_wp2
  go_loopw [5] (fun i wr => ∃ k : Nat, k ≤ xs.length ∧ i = .int .i64 k ∧ Below w.heap.size w wr) (fun i _ => xs.length - (intOf i).toNat)
  case atStart => exact ⟨0, Nat.zero_le _, rfl, Below.refl _ _⟩
  case round =>
    obtain ⟨k, hk, rfl, hbel⟩ := hrel
    by_cases hlt : k < xs.length
    · rcases HA.out.ex with h | ⟨g, rfl, hg, hgc⟩
      · omega
      rcases HB.out.ex with h | ⟨g', rfl, hg', hgc'⟩
      · omega
      have hx := ss_at xs k hlt
      have hpl := ss_length xs
      have a0 : wr.cell? ⟨g, k, none⟩ = some (.string xs[k]) := (hbel.cell (p := ⟨g, k, none⟩) hg).trans ((hgc _ (by omega)).trans hx)
      have b0 : wr.cell? ⟨g', k, none⟩ = some (.string xs[k]) := (hbel.cell (p := ⟨g', k, none⟩) hg').trans ((hgc' _ (by omega)).trans hx)
      clear hx hgc hgc'
      generalize xs[k] = s at *
      go_wp2
      go_region_held3 (fun w' => w'.cell? ⟨g, k, none⟩ = some (.string s) ∧ w'.cell? ⟨g', k, none⟩ = some (.string s) ∧ Below wr.heap.size wr w')
        (first | assumption | exact ⟨a0, b0, (Below.refl _ _).drew⟩)
        (fail)
      go_wp2
      go_roundw
      case rel => exact ⟨k + 1, by omega, by go_num, hbel.drew⟩
      case measure => simp [intOf]; omega
    · obtain rfl : k = xs.length := by omega
      go_wp2
      go_ret
      exact ⟨rfl, hbel⟩
/-- the cells as the marks from k on have left them -/
def Ms (k n : Nat) (cs : List Value) : Prop := ∀ i, i < n → cs[i]? = some (.string (mkt (k + i)))
theorem Ms.step {k i : Nat} {cs : List Value} (h : Ms k i cs) (hl : i < cs.length) : Ms k (i + 1) (cs.set i (.string (mkt (k + i)))) := by
  intro j hj
  rcases Nat.lt_or_ge j i with h1 | h1
  · rw [List.getElem?_set_ne (by omega)]
    exact h j h1
  · obtain rfl : j = i := by omega
    rw [List.getElem?_set_self (by omega)]
end Go.Proofs.Ytbeeobgkimcpmab.mk

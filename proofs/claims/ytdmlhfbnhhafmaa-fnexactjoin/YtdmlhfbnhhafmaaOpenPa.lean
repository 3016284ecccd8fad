/-
  AN ARGUMENT THAT IS A SLICE OF PARTS, OPENED.
-/
import Derived.Test.YtdmlhfbnhhafmaaRows
import Derived.WalkKit
import Derived.ProofKit
import Derived.OpenShut
import Derived.ShutString
import Derived.ChangeOld
import Derived.Below
import Derived.Deep.SlicePairs
import Derived.Test.YtdmlhfbnhhafmaaBase
namespace Go.Proofs.Ytdmlhfbnhhafmaa.opened
open Go.ChangeShapes Go.WideShapes Go.ChangeAt Go.RowKit

theorem cellsB : Try.prog.cellsOf 4 = 1 := by kernel_rfl
theorem cellsS : Try.prog.cellsOf 9 = 1 := by kernel_rfl
theorem cellsPart : Try.prog.cellsOf 79 = 2 := by kernel_rfl
/-- an address at which a cell lies has no spot -/
theorem plain_addr {w : World} {a : Addr} {v : Value} (h : w.cell? a = some v) : a = ⟨a.block, a.off, none⟩ := by
  obtain ⟨b, o, s⟩ := a
  cases s with
  | none => rfl
  | some s =>
    unfold World.cell? at h
    split at h <;> simp at h
theorem add_plain (g o n : Nat) : (⟨g, o, none⟩ : Addr).add n = ⟨g, o + n, none⟩ := by
  unfold Addr.add; split <;> simp_all
set_option maxRecDepth 100000 in
theorem parts {H : Type} {enc : TypeId × Value → H} {W : World} {base : Nat} {spare : Nat → Bool} {held : Bool} {r : Reach} {b0 : Nat} {v : Value} {d : DataW H} {p : List MemPlace}
    (hv : Value.okWide Try.prog W r b0 37 v) (h : DataW.Trod enc Try.prog W base spare held 37 v d p) :
    ∃ (ao : Option Addr) (cap : Nat) (xs : List (ByteArray × Bool)), v = .slice ao xs.length cap ∧ mk.Ap W ao xs ∧ xs.length ≤ maxLen ∧ ∀ i (h : i < xs.length), xs[i].1.size ≤ maxLen := by
  obtain ⟨ao, len, cap, rfl⟩ := okWide_slice Try.underlying37 hv
  obtain ⟨fuel, hf⟩ := h
  rcases Go.Deep.open_slice_pairs Try.underlying37 Try.underlying79 cellsPart rfl rfl cellsS cellsB hf with ⟨hc, _⟩ | ⟨a, len', cap', m, n, V0, V1, D0, D1, P0, P1, hc, _, hl, hm, hmm, _, hall⟩
  · simp [Value.cells] at hc
    obtain ⟨rfl, rfl, rfl⟩ := hc
    exact ⟨none, 0, [], rfl, ⟨.inl rfl⟩, Nat.zero_le _, fun i h => absurd h (by simp)⟩
  · simp [Value.cells] at hc
    obtain ⟨rfl, rfl, rfl⟩ := hc
    have hlm : len ≤ m := by rw [hmm]; split <;> omega
    have each : ∀ i, i < len → ∃ q : ByteArray × Bool, W.cell? (a.add (i * 2)) = some (.string q.1) ∧ W.cell? (a.add (i * 2 + 1)) = some (.bool q.2) ∧ q.1.size ≤ maxLen := by
      intro i hi
      obtain ⟨c0, c1, t0, t1⟩ := hall i (by omega)
      obtain ⟨s, e0, -, hs⟩ := DataW.trod_string Try.underlying9 t0
      obtain ⟨b, e1, -⟩ := DataW.trod_bool Try.underlying4 t1
      simp only [List.cons.injEq, and_true] at e0 e1
      exact ⟨(s, b), by rw [c0, e0], by rw [c1, e1], hs⟩
    obtain ⟨q, hq⟩ := Go.Deep.choose_lt each
    refine ⟨some a, cap, (List.range len).map q, by simp, ⟨?_⟩, by simp; omega, fun i hi => ?_⟩
    · rcases Nat.eq_zero_or_pos len with h0 | h0
      · exact .inl (by simp [h0])
      · have hp := plain_addr (a := a) (by simpa [Addr.add] using (hq 0 h0).1)
        refine .inr ⟨a.block, a.off, by rw [← hp], fun i hi => ?_⟩
        have hi' : i < len := by simpa using hi
        have h1 := hq i hi'
        rw [hp, add_plain, add_plain] at h1
        simp only [List.getElem_map, List.getElem_range]
        exact ⟨h1.1, h1.2.1⟩
    · have hi' : i < len := by simpa using hi
      simp only [List.getElem_map, List.getElem_range]
      exact (hq i hi').2.2
end Go.Proofs.Ytdmlhfbnhhafmaa.opened

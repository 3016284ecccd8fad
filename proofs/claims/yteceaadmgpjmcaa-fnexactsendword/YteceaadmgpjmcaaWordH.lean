/-
  WORDS: spec.SendWord, whole.
-/
import Derived.Test.YteceaadmgpjmcaaWordG
namespace Go.Proofs.Yteceaadmgpjmcaa.mk
open Go.RowKit
set_option linter.unusedVariables false

theorem specWord_opt (b : Int) (ao : Option Addr) (cap : Nat) (xs : List It) (next mask : Int) (w : World) (hm : xs.length ≤ 1048576) (hz : ∀ i (h : i < xs.length), xs[i].text.size ≤ 1048576) (hr : Rs w ao xs.length (is xs)) (hao : ao = none → xs.length = 0 ∧ cap = 0) :
    Calls Try.prog 28 #[.agg #[.int .i64 b, .slice ao xs.length cap], .int .i64 next, .int .i64 mask] w fun e w' => WordPost w b xs next mask e w' := by
  cases hv : sdOk b xs
  · exact specWord_no b ao cap xs next mask w hm hz hr hao hv
  · obtain ⟨n, rfl⟩ : ∃ n : Nat, b = (n : Int) := ⟨b.toNat, by have := (sdOk_of hv).1; unfold HdOk at this; omega⟩
    by_cases h : WdOk (n : Int) xs next mask
    · unfold WdOk at h
      obtain ⟨d, rfl⟩ : ∃ d : Nat, next = ((n + d : Nat) : Int) := ⟨(next - n).toNat, by omega⟩
      obtain ⟨m, rfl⟩ : ∃ m : Nat, mask = (m : Int) := ⟨mask.toNat, by omega⟩
      exact specWord_yes n d m ao cap xs w hm hz hr hao hv (by omega) (by omega)
    · exact specWord_stay n ao cap xs next mask w hm hz hr hao hv h
theorem specWord_any (b : Int) (g cap : Nat) (xs : List It) (next mask : Int) (w : World) (hm : xs.length ≤ 1048576) (hz : ∀ i (h : i < xs.length), xs[i].text.size ≤ 1048576) (hr : Rs w (some ⟨g, 0, none⟩) xs.length (is xs)) :
    Calls Try.prog 28 #[.agg #[.int .i64 b, .slice (some ⟨g, 0, none⟩) xs.length cap], .int .i64 next, .int .i64 mask] w fun e w' => WordPost w b xs next mask e w' :=
  specWord_opt b (some ⟨g, 0, none⟩) cap xs next mask w hm hz hr (fun h => by cases h)
end Go.Proofs.Yteceaadmgpjmcaa.mk

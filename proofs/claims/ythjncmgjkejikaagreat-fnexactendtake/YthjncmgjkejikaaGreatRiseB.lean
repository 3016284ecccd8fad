/-
  RISING: spec.EndRise, impl.EndRise.
-/
import Derived.Test.YthjncmgjkejikaaGreatRiseA
namespace Go.Proofs.YthjncmgjkejikaaGreat.mk
open Go.RowKit
set_option linter.unusedVariables false

def zeroE : En := ⟨0, false, 0, 0, 0, false, 0, [], 0, [], ⟨#[]⟩, []⟩
theorem enOk_parts {e : En} (h : enOk e.num e.up e.life e.peer e.since e.owes e.b e.xs e.nx e.hs e.o e.rs = true) : sdOk e.b e.xs = true ∧ tkOk e.nx e.hs e.o e.rs = true ∧ 1 ≤ e.life ∧ e.life ≤ 1000 := by
  simp only [enOk, Bool.and_eq_true, decide_eq_true_eq] at h
  obtain ⟨⟨⟨⟨⟨⟨⟨_, h2⟩, _⟩, _⟩, h5⟩, h6⟩, _⟩, _⟩ := h
  exact ⟨h5, h6, h2.1, h2.2⟩
end Go.Proofs.YthjncmgjkejikaaGreat.mk

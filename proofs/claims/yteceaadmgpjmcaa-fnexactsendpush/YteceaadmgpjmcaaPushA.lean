/-
  PUSHING: has the ring room; what a push makes (plain).
-/
import Derived.Test.YteceaadmgpjmcaaPushP
import Derived.Test.YteceaadmgpjmcaaTickP
import Derived.Test.YteceaadmgpjmcaaCutB
import Derived.Test.YteceaadmgpjmcaaValB
namespace Go.Proofs.Yteceaadmgpjmcaa.mk
open Go.RowKit
set_option linter.unusedVariables false

theorem room_yes (R b e : Nat) (w : World) (hb : b ≤ 1000100) (he : e ≤ 1000100) (hF : w.cell? ⟨R, 240, none⟩ = some (.int .i64 (b : Int))) (hE : w.cell? ⟨R, 241, none⟩ = some (.int .i64 (e : Int))) (h1 : (e : Int) - (b : Int) < 60) (h2 : (e : Int) < 1000000) :
    Calls Try.prog 83 #[.pointer (some ⟨R, 0, none⟩)] w fun x w' => x = .returned (.bool true) ∧ Below w.heap.size w w' := by
  have hbe : -1000100 ≤ (e : Int) - (b : Int) := by omega
  go_enter Try.func83, Try.ntmps83
  go_wp2
  go_quiet (fail)
  go_wp2
  go_ret
  exact ⟨by first | (simp; done) | (simp; omega), below_drewN _ _⟩
theorem room_no (R b e : Nat) (w : World) (hb : b ≤ 1000100) (he : e ≤ 1000100) (hF : w.cell? ⟨R, 240, none⟩ = some (.int .i64 (b : Int))) (hE : w.cell? ⟨R, 241, none⟩ = some (.int .i64 (e : Int))) (h : 60 ≤ (e : Int) - (b : Int) ∨ (e : Int) ≥ 1000000) :
    Calls Try.prog 83 #[.pointer (some ⟨R, 0, none⟩)] w fun x w' => x = .returned (.bool false) ∧ Below w.heap.size w w' := by
  have hbe : -1000100 ≤ (e : Int) - (b : Int) := by omega
  by_cases h1 : (e : Int) - (b : Int) < 60
  · have h2 : 1000000 ≤ (e : Int) := by omega
    clear h
    go_enter Try.func83, Try.ntmps83
    go_wp2
    go_quiet (fail)
    go_wp2
    go_ret
    exact ⟨by first | (simp; done) | (simp; omega), below_drewN _ _⟩
  · have hd : decide ((e : Int) - (b : Int) < 60) = false := by simp; omega
    clear h
    go_enter Try.func83, Try.ntmps83
    go_wp2
    go_quiet (fail)
    go_wp2
    go_ret
    exact ⟨rfl, below_drewN _ _⟩
/-- what speaks of cells alone abides the turn of what is none -/
theorem bx_own {β : Type} (B : Nat) (t : TypeId) (f : β → Array Value) : Own (fun s W => Bx W B t (f s)) := fun s X Y row hs hg hrow =>
  hs.kept hg (fun e' => by
    obtain ⟨o, ho, hc⟩ := hrow B e'.symm
    rw [show X.heap[B]? = _ from hs] at ho; cases ho; cases hc)
theorem Ring.isCells {base : Nat} {R : Rl} {cs : List Value} {w : World} {o : Obj} (h : Ring base R cs w) (ho : w.heap[R.blk]? = some o) : o.isCells = true := by
  obtain ⟨hl, ht, h⟩ := h
  rcases h.2 with ⟨e1, _⟩ | ⟨g, cap, cur, e1, _, hgb, _⟩
  · cases e1
  · cases e1
    rw [hgb] at ho; cases ho; rfl
theorem ring_abides {base : Nat} {R : Rl} {cs : List Value} {X Y : World} {row : Option Nat} (h : Ring base R cs X) (hg : X.grownBy Y row) (hrow : ∀ r, row = some r → ∃ o : Obj, X.heap[r]? = some o ∧ o.isCells = false) : Ring base R cs Y := by
  exact h.kept hg (fun e' => by
    obtain ⟨o, ho, hc⟩ := hrow R e'.symm
    have := h.isCells ho
    rw [hc] at this
    cases this)
theorem owns_abides {base n size : Nat} {e : TypeId} {v : Value} {xs : List Value} {X Y : World} {row : Option Nat} (h : X.ownsRow base e size v n xs) (hg : X.grownBy Y row) (hrow : ∀ r, row = some r → ∃ o : Obj, X.heap[r]? = some o ∧ o.isCells = false) : Y.ownsRow base e size v n xs := by
  refine h.kept hg ?_
  rcases h.2 with ⟨rfl, _⟩ | ⟨g, cap, cur, rfl, _, hgb, _⟩
  · exact .inl rfl
  · refine .inr fun e' => ?_
    obtain ⟨o, ho, hc⟩ := hrow g e'.symm
    rw [hgb] at ho
    cases ho
    cases hc
end Go.Proofs.Yteceaadmgpjmcaa.mk

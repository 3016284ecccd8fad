/-
  PUSHING: has the ring room; what a push makes (plain).
-/
import Derived.Test.YtfjedpnagnnobaaTickP
import Derived.Test.YtfjedpnagnnobaaCutB
import Derived.Test.YtfjedpnagnnobaaValB
namespace Go.Proofs.Ytfjedpnagnnobaa.mk
open Go.RowKit
set_option linter.unusedVariables false

theorem below_drewN (w : World) (n : Nat) : Below w.heap.size w (w.drewN n) := ⟨rfl, rfl, rfl, Nat.le_refl _, fun _ _ => rfl⟩
theorem room_yes (R b e : Nat) (w : World) (hb : b ≤ 1000100) (he : e ≤ 1000100) (hF : w.cell? ⟨R, 240, none⟩ = some (.int .i64 (b : Int))) (hE : w.cell? ⟨R, 241, none⟩ = some (.int .i64 (e : Int))) (h1 : (e : Int) - (b : Int) < 60) (h2 : (e : Int) < 1000000) :
    Calls Try.prog 71 #[.pointer (some ⟨R, 0, none⟩)] w fun x w' => x = .returned (.bool true) ∧ Below w.heap.size w w' := by
  have hbe : -1000100 ≤ (e : Int) - (b : Int) := by omega
  go_enter Try.func71, Try.ntmps71
  go_wp2
  go_quiet (fail)
  go_wp2
  go_ret
  exact ⟨by first | (simp; done) | (simp; omega), below_drewN _ _⟩
theorem room_no (R b e : Nat) (w : World) (hb : b ≤ 1000100) (he : e ≤ 1000100) (hF : w.cell? ⟨R, 240, none⟩ = some (.int .i64 (b : Int))) (hE : w.cell? ⟨R, 241, none⟩ = some (.int .i64 (e : Int))) (h : 60 ≤ (e : Int) - (b : Int) ∨ (e : Int) ≥ 1000000) :
    Calls Try.prog 71 #[.pointer (some ⟨R, 0, none⟩)] w fun x w' => x = .returned (.bool false) ∧ Below w.heap.size w w' := by
  have hbe : -1000100 ≤ (e : Int) - (b : Int) := by omega
  by_cases h1 : (e : Int) - (b : Int) < 60
  · have h2 : 1000000 ≤ (e : Int) := by omega
    clear h
    go_enter Try.func71, Try.ntmps71
    go_wp2
    go_quiet (fail)
    go_wp2
    go_ret
    exact ⟨by first | (simp; done) | (simp; omega), below_drewN _ _⟩
  · have hd : decide ((e : Int) - (b : Int) < 60) = false := by simp; omega
    clear h
    go_enter Try.func71, Try.ntmps71
    go_wp2
    go_quiet (fail)
    go_wp2
    go_ret
    exact ⟨rfl, below_drewN _ _⟩
/-- a part that has never been sent -/
def newIt (p : ByteArray × Bool) : It := ⟨p.1, p.2, false, -1⟩
def Full (b n m : Nat) : Prop := 60 < n + m ∨ 1000000 < b + n + m
instance (b n m : Nat) : Decidable (Full b n m) := by unfold Full; infer_instance
open Classical in
noncomputable def pushOf (b : Int) (xs : List It) (s : ByteArray) : Int × List It × Int :=
  if sdOk b xs = true ∧ s.size ≤ 200 then (if Full b.toNat xs.length (cut s).length then (0, [], 3) else (b, xs ++ (cut s).map newIt, 0)) else (0, [], 1)
def PushPost (w : World) (b : Int) (xs : List It) (s : ByteArray) (e : Ending) (w' : World) : Prop :=
  (∃ a1 c1, e = .returned (.tuple #[.agg #[.int .i64 (pushOf b xs s).1, .slice a1 (pushOf b xs s).2.1.length c1], .int .i64 (pushOf b xs s).2.2]) ∧ w'.ownsRow w.heap.size 70 4 (.slice a1 (pushOf b xs s).2.1.length c1) (pushOf b xs s).2.1.length (is (pushOf b xs s).2.1)) ∧ Below w.heap.size w w'
/-- what speaks of cells alone abides the turn of what is none -/
theorem bx_own {β : Type} (B : Nat) (t : TypeId) (f : β → Array Value) : Own (fun s W => Bx W B t (f s)) := fun s X Y row hs hg hrow =>
  hs.kept hg (fun e' => by
    obtain ⟨o, ho, hc⟩ := hrow B e'.symm
    rw [show X.heap[B]? = _ from hs] at ho; cases ho; cases hc)
theorem Ring.isCells {base : Nat} {R : Rl} {cs : List Value} {w : World} {o : Obj} (h : Ring base R cs w) (ho : w.heap[R.blk]? = some o) : o.isCells = true := by
  obtain ⟨hl, ht, h⟩ := h
  rcases h.2 with ⟨e1, _⟩ | ⟨g, cap, cur, e1, _, hgb, _⟩
  · cases e1
  · cases e1
    rw [hgb] at ho; cases ho; rfl
theorem ring_abides {base : Nat} {R : Rl} {cs : List Value} {X Y : World} {row : Option Nat} (h : Ring base R cs X) (hg : X.grownBy Y row) (hrow : ∀ r, row = some r → ∃ o : Obj, X.heap[r]? = some o ∧ o.isCells = false) : Ring base R cs Y := by
  exact h.kept hg (fun e' => by
    obtain ⟨o, ho, hc⟩ := hrow R e'.symm
    have := h.isCells ho
    rw [hc] at this
    cases this)
theorem owns_abides {base n size : Nat} {e : TypeId} {v : Value} {xs : List Value} {X Y : World} {row : Option Nat} (h : X.ownsRow base e size v n xs) (hg : X.grownBy Y row) (hrow : ∀ r, row = some r → ∃ o : Obj, X.heap[r]? = some o ∧ o.isCells = false) : Y.ownsRow base e size v n xs := by
  refine h.kept hg ?_
  rcases h.2 with ⟨rfl, _⟩ | ⟨g, cap, cur, rfl, _, hgb, _⟩
  · exact .inl rfl
  · refine .inr fun e' => ?_
    obtain ⟨o, ho, hc⟩ := hrow g e'.symm
    rw [hgb] at ho
    cases ho
    cases hc
end Go.Proofs.Ytfjedpnagnnobaa.mk

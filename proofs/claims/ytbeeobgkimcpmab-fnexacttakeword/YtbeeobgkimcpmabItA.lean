/-
  ITEMS: a slice of items as cells; what the laws' eq functions say of two that are alike.
-/
import Derived.Test.YtbeeobgkimcpmabMkA
namespace Go.Proofs.Ytbeeobgkimcpmab.mk
open Go.RowKit
set_option linter.unusedVariables false

/-- an item: its text, last, has, since -/
structure It where
  text : ByteArray
  last : Bool
  has : Bool
  since : Int
instance : Inhabited It := ⟨⟨⟨#[]⟩, false, false, 0⟩⟩
def It.vals (x : It) : List Value := [.string x.text, .bool x.last, .bool x.has, .int .i64 x.since]
def is (xs : List It) : List Value := xs.flatMap It.vals
theorem is_length (xs : List It) : (is xs).length = xs.length * 4 := by
  induction xs with
  | nil => rfl
  | cons x xs ih => simp only [is, It.vals, List.flatMap_cons, List.length_append, List.length_cons, List.length_nil] at ih ⊢; omega
theorem is_append (xs ys : List It) : is (xs ++ ys) = is xs ++ is ys := by simp [is]
theorem is_at (xs : List It) (i : Nat) (h : i < xs.length) : (is xs)[i * 4]? = some (.string xs[i].text) ∧ (is xs)[i * 4 + 1]? = some (.bool xs[i].last) ∧ (is xs)[i * 4 + 2]? = some (.bool xs[i].has) ∧ (is xs)[i * 4 + 3]? = some (.int .i64 xs[i].since) := by
  induction xs generalizing i with
  | nil => simp at h
  | cons x xs ih =>
    cases i with
    | zero => simp [is, It.vals]
    | succ i =>
      have := ih i (by simpa using h)
      have e : (i + 1) * 4 = i * 4 + 4 := by omega
      rw [e]
      simpa [is, It.vals] using this
/-- the cells of item i, in a world that keeps what lay -/
theorem Rs.item {w wr : World} {g n : Nat} {xs : List It} (hg : g < w.heap.size) (h : ∀ j, j < (is xs).length → w.cell? ⟨g, j, none⟩ = (is xs)[j]?) (hb : Below w.heap.size w wr) (i : Nat) (hi : i < xs.length) :
    wr.cell? ⟨g, i * 4, none⟩ = some (.string xs[i].text) ∧ wr.cell? ⟨g, i * 4 + 1, none⟩ = some (.bool xs[i].last) ∧ wr.cell? ⟨g, i * 4 + 2, none⟩ = some (.bool xs[i].has) ∧ wr.cell? ⟨g, i * 4 + 3, none⟩ = some (.int .i64 xs[i].since) := by
  have hx := is_at xs i hi
  have hl := is_length xs
  exact ⟨(hb.cell (p := ⟨g, i * 4, none⟩) hg).trans ((h _ (by omega)).trans hx.1), (hb.cell (p := ⟨g, i * 4 + 1, none⟩) hg).trans ((h _ (by omega)).trans hx.2.1), (hb.cell (p := ⟨g, i * 4 + 2, none⟩) hg).trans ((h _ (by omega)).trans hx.2.2.1), (hb.cell (p := ⟨g, i * 4 + 3, none⟩) hg).trans ((h _ (by omega)).trans hx.2.2.2)⟩
end Go.Proofs.Ytbeeobgkimcpmab.mk

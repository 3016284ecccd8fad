/-
  VALID TAKES: what makes one; spec.ValidTake.
-/
import Derived.Test.YtldlpohkpmapcaaVTkA
import Derived.Test.YtldlpohkpmapcaaBase
namespace Go.Proofs.Ytldlpohkpmapcaa.mk
open Go.RowKit
set_option linter.unusedVariables false

/-- the least number that held part k may bear -/
def lowAt (nx : Int) (xs : List Hd) : Nat → Int
  | 0 => nx
  | k + 1 => match xs[k]? with
    | some x => x.seq + 1
    | none => nx
theorem lowAt_succ (nx : Int) (xs : List Hd) (k : Nat) (h : k < xs.length) : lowAt nx xs (k + 1) = xs[k].seq + 1 := by rw [lowAt, List.getElem?_eq_getElem h]
def HOk (nx : Int) (o : ByteArray) (nr : Nat) (low : Int) (x : Hd) : Prop := low ≤ x.seq ∧ x.seq < nx + 8 ∧ x.seq < 1000000 ∧ x.text.size ≤ 20 ∧ ¬ (x.seq = nx ∧ CanIn o nr x.text x.last)
def TkHd (nx : Int) (o : ByteArray) (nr : Nat) : Prop := 0 ≤ nx ∧ nx ≤ 1000000 ∧ o.size ≤ 200 ∧ nr ≤ 4
def TkOk (nx : Int) (xs : List Hd) (o : ByteArray) (rs : List ByteArray) : Prop :=
  TkHd nx o rs.length ∧ (∀ i (h : i < rs.length), rs[i].size ≤ 200) ∧ ∀ i (h : i < xs.length), HOk nx o rs.length (lowAt nx xs i) xs[i]
open Classical in
noncomputable def tkOk (nx : Int) (xs : List Hd) (o : ByteArray) (rs : List ByteArray) : Bool := decide (TkOk nx xs o rs)
theorem tkOk_yes {nx : Int} {xs : List Hd} {o : ByteArray} {rs : List ByteArray} (h : TkOk nx xs o rs) : tkOk nx xs o rs = true := by simp [tkOk, h]
theorem tkOk_no {nx : Int} {xs : List Hd} {o : ByteArray} {rs : List ByteArray} (h : ¬ TkOk nx xs o rs) : tkOk nx xs o rs = false := by simp [tkOk, h]
theorem tkOk_of {nx : Int} {xs : List Hd} {o : ByteArray} {rs : List ByteArray} (h : tkOk nx xs o rs = true) : TkOk nx xs o rs := by simpa [tkOk] using h
theorem low_le {nx : Int} {xs : List Hd} {o : ByteArray} {nr : Nat} (k : Nat) (hk : k ≤ xs.length) (h : ∀ i (h : i < xs.length), i < k → HOk nx o nr (lowAt nx xs i) xs[i]) : nx + k ≤ lowAt nx xs k := by
  induction k with
  | zero => simp [lowAt]
  | succ k ih =>
    have h1 := ih (by omega) (fun i hi hik => h i hi (by omega))
    have h2 := (h k (by omega) (by omega)).1
    rw [lowAt_succ nx xs k (by omega)]
    omega
theorem TkOk.len {nx : Int} {xs : List Hd} {o : ByteArray} {rs : List ByteArray} (h : TkOk nx xs o rs) : xs.length ≤ 8 := by
  rcases Nat.lt_or_ge 8 xs.length with h8 | h8
  · have h1 := low_le 8 (by omega) (fun i hi _ => h.2.2 i hi)
    have h2 := h.2.2 8 h8
    have h3 := h2.1
    have h4 := h2.2.1
    omega
  · exact h8
end Go.Proofs.Ytldlpohkpmapcaa.mk

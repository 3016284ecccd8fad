/-
  TAKING A PART: what it gives (plain); what an answer that is a Take is.
-/
import Derived.Test.YteceaadmgpjmcabRgI
import Derived.Test.YteceaadmgpjmcabVTkC
namespace Go.Proofs.Yteceaadmgpjmcab.mk
open Go.RowKit
set_option linter.unusedVariables false

def Puts (nx : Nat) (xs : List Hd) (q : Int) (s : ByteArray) : Prop := NearIn (nx : Int) q ∧ s.size ≤ 20 ∧ ∀ y ∈ xs, y.seq ≠ q
open Classical in
noncomputable def heldBy (nx : Nat) (xs : List Hd) (q : Int) (s : ByteArray) (l : Bool) : List Hd := if Puts nx xs q s then ins ⟨q, s, l⟩ xs else xs
theorem heldBy_no {nx : Nat} {xs : List Hd} {q : Int} {s : ByteArray} {l : Bool} (h : ¬ Puts nx xs q s) : heldBy nx xs q s l = xs := by unfold heldBy; rw [if_neg h]
theorem heldBy_yes {nx : Nat} {xs : List Hd} {q : Int} {s : ByteArray} {l : Bool} (h : Puts nx xs q s) : heldBy nx xs q s l = ins ⟨q, s, l⟩ xs := by unfold heldBy; rw [if_pos h]
open Classical in
noncomputable def partOf (nx : Int) (xs : List Hd) (o : ByteArray) (rs : List ByteArray) (q : Int) (s : ByteArray) (l : Bool) : Nat × List Hd × ByteArray × List ByteArray := if tkOk nx xs o rs = true then tin (heldBy nx.toNat xs q s l) nx.toNat o rs else (0, [], ⟨#[]⟩, [])
/-- an answer that is a Take, new from w on -/
def TakePost (w : World) (T : Nat × List Hd × ByteArray × List ByteArray) (e : Ending) (w' : World) : Prop :=
  (∃ hv v, e = .returned (.agg #[.int .i64 ((T.1 : Nat) : Int), hv, .string T.2.2.1, v]) ∧ w'.ownsRow w.heap.size 46 3 hv T.2.1.length (hs T.2.1) ∧ w'.ownsRow w.heap.size 9 1 v T.2.2.2.length (ss T.2.2.2)) ∧ Below w.heap.size w w'
theorem partOf_no {nx : Int} {xs : List Hd} {o : ByteArray} {rs : List ByteArray} {q : Int} {s : ByteArray} {l : Bool} (h : tkOk nx xs o rs = false) : partOf nx xs o rs q s l = (0, [], ⟨#[]⟩, []) := by unfold partOf; rw [if_neg (by simp [h])]
theorem partOf_yes {nx : Nat} {xs : List Hd} {o : ByteArray} {rs : List ByteArray} {q : Int} {s : ByteArray} {l : Bool} (h : tkOk (nx : Int) xs o rs = true) : partOf (nx : Int) xs o rs q s l = tin (heldBy nx xs q s l) nx o rs := by unfold partOf; rw [if_pos h, Int.toNat_natCast]
theorem three_below (w : World) (a b c : Obj) : Below w.heap.size w (((w.alloc a).alloc b).alloc c) := (((Below.refl _ _).alloc (Nat.le_refl _) _).alloc (by simp) _).alloc (by simp; omega) _
theorem res_cells {u : World} {B : Nat} {t : TypeId} {a b c d : Value} (h : u.heap[B]? = some (.cells #[a, b, c, d] t (0, 0))) : (u.cell? ⟨B, 0, none⟩ = some a ∧ u.cell? ⟨B, 1, none⟩ = some b ∧ u.cell? ⟨B, 2, none⟩ = some c ∧ u.cell? ⟨B, 3, none⟩ = some d) ∧ u.frozen? ⟨B, 0, none⟩ = false ∧ u.frozen? ⟨B, 1, none⟩ = false ∧ u.frozen? ⟨B, 2, none⟩ = false ∧ u.frozen? ⟨B, 3, none⟩ = false := by
  simp [World.cell?, World.frozen?, h]
end Go.Proofs.Yteceaadmgpjmcab.mk

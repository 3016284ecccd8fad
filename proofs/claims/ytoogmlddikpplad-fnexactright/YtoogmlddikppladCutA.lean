/-
  CUTTING: the parts of a message; spec.Cut.
-/
import Derived.Test.YtoogmlddikppladMkA
namespace Go.Proofs.Ytoogmlddikpplad.mk
open Go.RowKit
set_option linter.unusedVariables false

def cut (s : ByteArray) : List (ByteArray × Bool) :=
  if h : 20 < s.size then (s.extract 0 20, false) :: cut (s.extract 20 s.size) else [(s, true)]
termination_by s.size
decreasing_by simp [ByteArray.size_extract]; omega
theorem cut_step (s : ByteArray) (h : 20 < s.size) : cut s = (s.extract 0 20, false) :: cut (s.extract 20 s.size) := by rw [cut, dif_pos h]
theorem cut_last (s : ByteArray) (h : ¬ 20 < s.size) : cut s = [(s, true)] := by rw [cut, dif_neg h]
def cutOf (s : ByteArray) : List (ByteArray × Bool) := if s.size ≤ 200 then cut s else []
theorem info_part : (Try.prog.info? 113).map (fun i => (i.zero, i.size, i.bytes)) = some (some (.agg #[.string ⟨#[]⟩, .bool false]), 2, 24) := by kernel_rfl
theorem part_news (W : World) (s : ByteArray) (b : Bool) : ∀ j u, ([.string s, .bool b] : List Value)[j]? = some u → (W.alloc (.cells #[.string s, .bool b] 113)).cell? ((⟨W.heap.size, 0, none⟩ : Addr).add j) = some u := by
  intro j u hj
  match j, hj with
  | 0, hj => simp at hj; subst hj; simp [Addr.add]
  | 1, hj => simp at hj; subst hj; simp [Addr.add]
theorem part_one (s : ByteArray) (b : Bool) : ∀ u ∈ ([.string s, .bool b] : List Value), u.oneCell' = true := by
  intro u hu; simp at hu; rcases hu with rfl | rfl <;> rfl
theorem ext_size (s : ByteArray) (h : 20 < s.size) : (s.extract 20 s.size).size = s.size - 20 := by rw [ByteArray.size_extract]; omega
theorem below_app2 {B base : Nat} {w wr w1 : World} {e : TypeId} {size n : Nat} {o : Value} {xs : List Value} {ob : Obj} (h : Below B w wr) (hown : wr.ownsRow base e size o n xs) (hg : (wr.alloc ob).grownBy w1 o.ownBlock) (hB : B ≤ base := by omega) (hw : B ≤ w.heap.size := by omega) : Below B w w1 :=
  (h.alloc (Nat.le_trans hw h.size) ob).grown hg (by have := h.size; simp; omega) (fun k hk => Nat.le_trans hB (hown.lt k hk).1)
def szOf : Value → Nat
  | .string r => r.size
  | _ => 0
end Go.Proofs.Ytoogmlddikpplad.mk

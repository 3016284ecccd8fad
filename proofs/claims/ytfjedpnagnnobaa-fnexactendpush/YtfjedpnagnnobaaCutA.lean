/-
  CUTTING: the parts of a message; spec.Cut.
-/
import Derived.Test.YtfjedpnagnnobaaMkA
namespace Go.Proofs.Ytfjedpnagnnobaa.mk
open Go.RowKit
set_option linter.unusedVariables false

def cut (s : ByteArray) : List (ByteArray × Bool) :=
  if h : 20 < s.size then (s.extract 0 20, false) :: cut (s.extract 20 s.size) else [(s, true)]
termination_by s.size
decreasing_by simp [ByteArray.size_extract]; omega
theorem cut_step (s : ByteArray) (h : 20 < s.size) : cut s = (s.extract 0 20, false) :: cut (s.extract 20 s.size) := by rw [cut, dif_pos h]
theorem cut_last (s : ByteArray) (h : ¬ 20 < s.size) : cut s = [(s, true)] := by rw [cut, dif_neg h]
def cutOf (s : ByteArray) : List (ByteArray × Bool) := if s.size ≤ 200 then cut s else []
theorem info_part : (Try.prog.info? 68).map (fun i => (i.zero, i.size, i.bytes)) = some (some (.agg #[.string ⟨#[]⟩, .bool false]), 2, 24) := by kernel_rfl
theorem part_news (W : World) (s : ByteArray) (b : Bool) : ∀ j u, ([.string s, .bool b] : List Value)[j]? = some u → (W.alloc (.cells #[.string s, .bool b] 68)).cell? ((⟨W.heap.size, 0, none⟩ : Addr).add j) = some u := by
  intro j u hj
  match j, hj with
  | 0, hj => simp at hj; subst hj; simp [Addr.add]
  | 1, hj => simp at hj; subst hj; simp [Addr.add]
theorem part_one (s : ByteArray) (b : Bool) : ∀ u ∈ ([.string s, .bool b] : List Value), u.oneCell' = true := by
  intro u hu; simp at hu; rcases hu with rfl | rfl <;> rfl
theorem ext_size (s : ByteArray) (h : 20 < s.size) : (s.extract 20 s.size).size = s.size - 20 := by rw [ByteArray.size_extract]; omega
theorem below_app2 {B base : Nat} {w wr w1 : World} {e : TypeId} {size n : Nat} {o : Value} {xs : List Value} {ob : Obj} (h : Below B w wr) (hown : wr.ownsRow base e size o n xs) (hg : (wr.alloc ob).grownBy w1 o.ownBlock) (hB : B ≤ base := by omega) (hw : B ≤ w.heap.size := by omega) : Below B w w1 :=
  (h.alloc (Nat.le_trans hw h.size) ob).grown hg (by have := h.size; simp; omega) (fun k hk => Nat.le_trans hB (hown.lt k hk).1)
def szOf : Value → Nat
  | .string r => r.size
  | _ => 0
set_option maxRecDepth 100000 in
theorem specCut_yes (s : ByteArray) (w : World) (hs : s.size ≤ 200) :
    Calls Try.prog 69 #[.string s] w fun e w' => (∃ v, e = .returned v ∧ w'.ownsRow w.heap.size 68 2 v (cut s).length (ps (cut s))) ∧ Below w.heap.size w w' := by
  obtain ⟨i0, hi, hz0, hz1, hz2⟩ := info_parts info_part
  go_enter Try.func69, Try.ntmps69
  go_wp2
  go_loopw [0, 3] (fun y o wr => ∃ (r : ByteArray) (pre : List (ByteArray × Bool)), y = .string r ∧ cut s = pre ++ cut r ∧ pre.length * 20 + r.size ≤ 200 ∧ wr.ownsRow w.heap.size 68 2 o pre.length (ps pre) ∧ Below w.heap.size w wr) (fun y _ _ => szOf y)
  case atStart => exact ⟨s, [], rfl, rfl, by simpa using hs, World.ownsRow_lit _ #[] 0 (Nat.le_refl _) (Nat.zero_le _) rfl, (Below.refl _ _).alloc (Nat.le_refl _) _⟩
  case round =>
    obtain ⟨r, pre, rfl, hcut, hpre, hown, hbel⟩ := hrel
    by_cases hlt : 20 < r.size
    · have hz := ext_size r hlt
      go_wp2_with (at_builtin; refine wpList_append_own _ rfl _ _ 107 rfl w.heap.size 68 i0 (.agg #[.string ⟨#[]⟩, .bool false]) 2 24 Try.underlying107 hi hz0 hz1 hz2 rfl (by decide) _ _ _ rfl (hown.alloc _) ⟨wr.heap.size, 0, none⟩ 1 1 [.string (r.extract 0 20), .bool false] rfl rfl (part_news _ _ _) (part_one _ _) (by unfold maxLen; omega) (by omega) (by have := hbel.size; simp; omega) ?_; intro v' w1 hown' hgrow _)
      have hb1 := below_app2 hbel hown hgrow
      go_roundw
      case rel =>
        refine ⟨_, pre ++ [(r.extract 0 20, false)], rfl, ?_, ?_, ?_, hb1⟩
        · rw [hcut, cut_step r hlt]; simp
        · rw [hz]; simp; omega
        · rw [ps_append]; simpa [ps] using hown'
      case measure => show (r.extract 20 r.size).size < r.size; omega
    · have hc := cut_last r hlt
      go_wp2_with (at_builtin; refine wpList_append_own _ rfl _ _ 107 rfl w.heap.size 68 i0 (.agg #[.string ⟨#[]⟩, .bool false]) 2 24 Try.underlying107 hi hz0 hz1 hz2 rfl (by decide) _ _ _ rfl (hown.alloc _) ⟨wr.heap.size, 0, none⟩ 1 1 [.string r, .bool true] rfl rfl (part_news _ _ _) (part_one _ _) (by unfold maxLen; omega) (by omega) (by have := hbel.size; simp; omega) ?_; intro v' w1 hown' hgrow _)
      have hb1 := below_app2 hbel hown hgrow
      go_ret
      refine ⟨⟨v', rfl, ?_⟩, hb1⟩
      rw [hcut, hc, ps_append]
      simpa [ps] using hown'
set_option maxRecDepth 100000 in
theorem specCut_any (s : ByteArray) (w : World) (hs : s.size ≤ 1048576) :
    Calls Try.prog 69 #[.string s] w fun e w' => (∃ v, e = .returned v ∧ w'.ownsRow w.heap.size 68 2 v (cutOf s).length (ps (cutOf s))) ∧ Below w.heap.size w w' := by
  by_cases h : s.size ≤ 200
  · rw [cutOf, if_pos h]; exact specCut_yes s w h
  · rw [cutOf, if_neg h]
    go_enter Try.func69, Try.ntmps69
    go_wp2
    go_ret
    exact ⟨⟨_, rfl, World.ownsRow_lit _ #[] 0 (Nat.le_refl _) (Nat.zero_le _) rfl⟩, (Below.refl _ _).alloc (Nat.le_refl _) _⟩
end Go.Proofs.Ytfjedpnagnnobaa.mk

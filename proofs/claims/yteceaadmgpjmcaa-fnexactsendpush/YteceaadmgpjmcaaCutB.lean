/-
  CUTTING: the program's iterator over the parts, and impl.Cut.
-/
import Derived.RangeFuncNested
import Derived.RangeFuncBox
import Derived.RangeFuncLeaves
import Derived.Shelf.Abstract
import Derived.OwnWalkIn
import Derived.TacticsInMore
import Derived.LoopNIn
import Derived.LoopIn
import Derived.Test.YteceaadmgpjmcaaBase
import Derived.Test.YteceaadmgpjmcaaCloneW
namespace Go.Proofs.Yteceaadmgpjmcaa.mk
open Go.RowKit Go.Shelf
set_option linter.unusedVariables false
attribute [local go_sem] Oper.semAt_some

set_option maxRecDepth 100000 in
set_option maxHeartbeats 1000000 in
theorem parts1_in (n : Nat) (hn : 1 ≤ n) (l Bn n₀ : Nat) (s : ByteArray) (hs : s.size ≤ 200) (J Jx : List (ByteArray × Bool) → World → Prop) (hJ : ∀ pre W W', J pre W → Below W.heap.size W W' → J pre W')
    (hY : ∀ pre x W, J pre W → pre.length < (cut s).length → YieldAt Fence.wide (n - 1) Try.prog l #[.agg #[.string x.1, .bool x.2]] W fun e W' => (e = .returned (.bool true) ∧ J (pre ++ [x]) W' ∧ Below n₀ W W') ∨ (e = .returned (.bool false) ∧ Jx (pre ++ [x]) W'))
    (W : World) (hBn : W.cell? ⟨Bn, 0, none⟩ = some (.string s)) (h0 : J [] W) :
    CallsIn Fence.wide n Try.prog 97 #[.func (.yield l) #[] #[], .pointer (some ⟨Bn, 0, none⟩)] W fun e W' => (∃ v, e = .returned v) ∧
      ((∃ ys, ys = cut s ∧ J ys W') ∨ (∃ pre, pre <+: cut s ∧ Jx pre W')) := by
  refine callsIn_of_wp Try.func97 rfl trivial ?_ rfl
  simp only [Try.ntmps97, List.size_toArray, List.length_cons, List.length_nil, Nat.reduceAdd, Nat.reduceSub, Array.replicate_succ, Array.replicate_zero, List.push_toArray, List.append_toArray, List.nil_append, List.cons_append]
  gi_wp2
  gi_loopw [3] (fun y wr => ∃ (r : ByteArray) (pre : List (ByteArray × Bool)), y = .string r ∧ cut s = pre ++ cut r ∧ r.size ≤ 200 ∧ J pre wr) (fun y _ => szOf y)
  case atStart =>
    exact ⟨s, [], rfl, rfl, hs, h0⟩
  case round =>
    obtain ⟨r, pre, rfl, hcut, hr, hJs⟩ := hrel
    by_cases hlt : 20 < r.size
    · have hz := ext_size r hlt
      have hc := cut_step r hlt
      gi_wp2_with (refine ⟨trivial, ?_⟩; gi_at_call 71; refine (callsIn_wide.2 (clone_any _ _ (by rw [ByteArray.size_extract]; omega))).mono ?_; rintro e w2 ⟨rfl, hb2⟩; obtain ⟨fn, tmps, assign, body, hy, hR⟩ := hY pre (r.extract 0 20, false) w2 (hJ _ _ _ hJs hb2) (by rw [hcut, hc]; simp))
      refine hR.mono ?_
      rintro e W3 (⟨rfl, hJ3, hk3⟩ | ⟨rfl, hJx3⟩)
      · gi_wp2
        go_roundw
        case rel => exact ⟨_, pre ++ [(r.extract 0 20, false)], rfl, by rw [hcut, hc]; simp, by rw [hz]; omega, hJ3⟩
        case measure => show (r.extract 20 r.size).size < r.size; omega
      · gi_wp2
        refine bodyPost_ret (results_none rfl _ _ _) rfl ?_
        exact ⟨⟨_, rfl⟩, .inr ⟨pre ++ [(r.extract 0 20, false)], ⟨cut (r.extract 20 r.size), by rw [hcut, hc]; simp⟩, hJx3⟩⟩
    · have hc := cut_last r hlt
      gi_wp2_with (refine ⟨trivial, ?_⟩; gi_at_call 71; refine (callsIn_wide.2 (clone_any _ _ (by omega))).mono ?_; rintro e w2 ⟨rfl, hb2⟩; obtain ⟨fn, tmps, assign, body, hy, hR⟩ := hY pre (r, true) w2 (hJ _ _ _ hJs hb2) (by rw [hcut, hc]; simp))
      refine hR.mono ?_
      rintro e W3 (⟨rfl, hJ3, hk3⟩ | ⟨rfl, hJx3⟩)
      · gi_wp2
        go_end0
        exact ⟨⟨_, rfl⟩, .inl ⟨pre ++ [(r, true)], by rw [hcut, hc], hJ3⟩⟩
      · gi_wp2
        go_end0
        exact ⟨⟨_, rfl⟩, .inr ⟨pre ++ [(r, true)], ⟨[], by rw [hcut, hc]; simp⟩, hJx3⟩⟩
theorem abides_below {B : Nat} {J : List (ByteArray × Bool) → World → Prop} (h : AbidesFrom B J) : ∀ pre W W', J pre W → Below W.heap.size W W' → J pre W' :=
  fun pre W W' hj hb => h pre W W' none hj (grow_below none hb) (fun r e => by cases e)
theorem parts_stops (n : Nat) (hn : 1 ≤ n) (Bn n₀ : Nat) (s : ByteArray) (hs : s.size ≤ 200) (w : World) (hBn : Bn < w.heap.size) (hc : w.cell? ⟨Bn, 0, none⟩ = some (.string s)) :
    SeqStopsK Fence.wide n Try.prog 97 #[.pointer (some ⟨Bn, 0, none⟩)] (fun x : ByteArray × Bool => #[Value.agg #[.string x.1, .bool x.2]]) (Below n₀) (fun ys => ys = cut s) (fun pre => pre <+: cut s) (cut s).length w := fun l J Jx W hW hJ _ hY h0 =>
  parts1_in n hn l Bn n₀ s hs J Jx (abides_below hJ) hY W ((hW.cell (p := ⟨Bn, 0, none⟩) hBn).trans hc) h0
set_option maxHeartbeats 1000000 in
theorem partsOf_in (n : Nat) (s : ByteArray) (w : World) :
    CallsIn Fence.wide n Try.prog 82 #[.string s] w fun e w' => e = .returned (.func (.func 97) #[] #[.pointer (some ⟨w.heap.size, 0, none⟩)]) ∧ w' = w.alloc (.cells #[.string s] 9) := by
  refine callsIn_of_wp Try.func82 rfl trivial ?_ rfl
  simp only [Try.ntmps82, List.size_toArray, List.length_cons, List.length_nil, Nat.reduceAdd, Nat.reduceSub, Array.replicate_succ, Array.replicate_zero, List.push_toArray, List.append_toArray, List.nil_append, List.cons_append]
  gi_wp2
  go_ret
  exact ⟨rfl, rfl⟩
end Go.Proofs.Yteceaadmgpjmcaa.mk

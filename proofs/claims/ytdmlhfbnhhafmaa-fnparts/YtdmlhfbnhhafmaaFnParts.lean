/-
  THE LAW laws.FnParts: the walk over the contracts, and the row.
-/
import Derived.Test.YtdmlhfbnhhafmaaRows
import Derived.WalkKit
import Derived.ProofKit
import Derived.OpenShut
import Derived.ShutString
import Derived.ChangeOld
import Derived.Below
import Derived.Test.YtdmlhfbnhhafmaaPartsB
import Derived.Test.YtdmlhfbnhhafmaaOpenBy
import Derived.Carry
namespace Go.Proofs.Ytdmlhfbnhhafmaa.fnParts
open Go.ChangeShapes Go.WideShapes Go.ChangeAt Go.RowKit
open Go.ChangeMaps (open_string shut_string)
set_option linter.unusedVariables false

theorem own : ownKnob Try.prog.godebug = none := by kernel_rfl

theorem laidOut : laidOutB Try.prog = true := by kernel_rfl
/-! ### THE WALK of the law -/
open Go.Proofs.Ytdmlhfbnhhafmaa.mk
theorem one_at {W : World} {k : Nat} (h : W.heap.size = k) (v : Value) (t : TypeId) : ∀ j u, ([v] : List Value)[j]? = some u → (W.alloc (.cells #[v] t)).cell? ((⟨k, 0, none⟩ : Addr).add j) = some u := by
  subst h
  exact cell_one_new _ _ _
theorem jn_length (xs : List (ByteArray × Bool)) (ms : List ByteArray) (o : ByteArray) : (jn xs ms o).1.length ≤ ms.length + xs.length := by
  induction xs generalizing ms o with
  | nil => simp [jn]
  | cons x xs ih =>
    rw [jn]
    split
    · simp
    · split
      · have := ih (ms ++ [o ++ x.1]) ⟨#[]⟩; simp at this ⊢; omega
      · have := ih ms (o ++ x.1); simp; omega
theorem join_le (xs : List (ByteArray × Bool)) : (join xs).1.length ≤ xs.length := by
  unfold join
  split
  · simp
  · have := jn_length xs [] ⟨#[]⟩; simpa using this
theorem join_ofs (xs : List (ByteArray × Bool)) (h : Sh xs) : ∀ i (hi : i < xs.length), xs[i].1.size ≤ 1048576 := fun i hi => Nat.le_trans (h _ (List.getElem_mem hi)) (by omega)
set_option maxRecDepth 100000 in
set_option maxHeartbeats 2000000 in
theorem walk (v1 v2 : Option Addr) (l1 c1 l2 c2 : Nat) (w : World) (h1 : draw.Code v1 l1 w) (h2 : draw.Code v2 l2 w) (q1 : l1 ≤ c1) (q2 : l2 ≤ c2) (m1 : c1 ≤ 9223372036854775807) (m2 : c2 ≤ 9223372036854775807) :
    Calls Try.prog 5 #[.slice v1 l1 c1, .slice v2 l2 c2] w fun e w' => e = .returned (.bool true) ∧ Below w.heap.size w w' := by
  by_cases t1 : 1048576 < l1
  · go_enter Try.func5, Try.ntmps5
    go_wp2
    go_ret
    exact ⟨rfl, Below.refl _ _⟩
  by_cases t2 : 1048576 < l2
  · go_enter Try.func5, Try.ntmps5
    go_wp2
    go_ret
    exact ⟨rfl, Below.refl _ _⟩
  obtain ⟨i0, hi, hz0, hz1, hz2⟩ := info_parts info_part
  obtain ⟨j0, hj, hy0, hy1, hy2⟩ := info_parts info_string
  have H1 : Hid (draw.Code v1 l1 w) := h1
  have H2 : Hid (draw.Code v2 l2 w) := h2
  clear h1 h2
  go_enter Try.func5, Try.ntmps5
  go_wp2_with (go_at_call_of 16 (Value.slice v1 l1 c1); refine (cutIn_any v1 l1 c1 _ H1.out q1 m1).mono ?_; rintro e w1 ⟨⟨a, rfl, ha⟩, hb1⟩)
  go_wp2_with (go_at_call 16; refine (cutIn_any v2 l2 c2 _ (H2.out.keep hb1) q2 m2).mono ?_; rintro e w2 ⟨⟨b, rfl, hb⟩, hb2⟩)
  have B2 := kb hb1 hb2 (Nat.le_refl _)
  have la := cutOf_len a
  have lb := cutOf_len b
  have hlen : (cutOf a ++ cutOf b).length = (cutOf a).length + (cutOf b).length := List.length_append
  have SA : Hid (∀ u : World, Calls Try.prog 11 #[.string a] u fun e w' => (∃ v, e = .returned v ∧ w'.ownsRow u.heap.size 66 2 v (cutOf a).length (ps (cutOf a))) ∧ Below u.heap.size u w') := fun u => specCut_any a u (by omega)
  have SB : Hid (∀ u : World, Calls Try.prog 11 #[.string b] u fun e w' => (∃ v, e = .returned v ∧ w'.ownsRow u.heap.size 66 2 v (cutOf b).length (ps (cutOf b))) ∧ Below u.heap.size u w') := fun u => specCut_any b u (by omega)
  have hz : ∀ i (h : i < (cutOf a ++ cutOf b).length), (cutOf a ++ cutOf b)[i].1.size ≤ 1048576 := join_ofs _ ((Sh_cutOf a).app (Sh_cutOf b))
  have SJ : Hid (∀ (u : World) (bo : Option Addr) (n c : Nat), n = (cutOf a ++ cutOf b).length → Rs u bo n (ps (cutOf a ++ cutOf b)) → Calls Try.prog 17 #[.slice bo n c] u fun e w' => (∃ v, e = .returned (.tuple #[v, .string ⟨#[]⟩, .bool true]) ∧ w'.ownsRow u.heap.size 9 1 v ((if a.size ≤ 200 then [a] else []) ++ (if b.size ≤ 200 then [b] else [])).length (ss ((if a.size ≤ 200 then [a] else []) ++ (if b.size ≤ 200 then [b] else [])))) ∧ Below u.heap.size u w') := fun u bo n c hn hr => by
    subst hn
    have := implJoin_any bo c _ u (by rw [hlen]; omega) hz hr
    rw [join_cut2] at this
    exact this
  clear hb1 hb2 hz
  have TAIL : True := trivial
  by_cases ea : a.size ≤ 200
  all_goals by_cases eb : b.size ≤ 200
  · go_wp2_with (go_at_call_of 12 (Value.string a); refine (implCut_some a _ ea).mono ?_; rintro e w3 ⟨⟨gx, cx, rfl, hx3⟩, hb3⟩)
    go_wp2_with (go_at_call 12; refine (implCut_some b _ eb).mono ?_; rintro e w4 ⟨⟨gy, cy, rfl, hy4⟩, hb4⟩)
    go_wp2_with (go_at_call_of 11 (Value.string a); refine (SA.out _).mono ?_; rintro e w5 ⟨⟨u5, rfl, ho5⟩, hb5⟩; obtain ⟨_, _, rfl, _, _, _⟩ := rs_of_owns ho5)
    clear ho5
    go_wp2_with (first | (go_at_call 11; refine (SB.out _).mono ?_; rintro e w6 ⟨⟨u6, rfl, ho6⟩, hb6⟩; (obtain ⟨_, _, rfl, _, _, _⟩ := rs_of_owns ho6); (have B6 := kb (kb (kb (kb (B2) hb3 (Nat.le_refl _)) hb4 (Nat.le_refl _)) hb5 (Nat.le_refl _)) hb6 (Nat.le_refl _)); (have ox := owns_keep (owns_keep (owns_keep (hx3) hb4) hb5) hb6); (have oy := owns_keep (owns_keep (hy4) hb5) hb6); (have o6 : (w6.alloc (.cells #[] 66)).ownsRow w6.heap.size 66 2 (.slice (some ⟨w6.heap.size, 0, none⟩) 0 0) 0 [] := World.ownsRow_lit w6 #[] 0 (Nat.le_refl _) (Nat.zero_le _) rfl); (have b6 : Below w6.heap.size w6 (w6.alloc (.cells #[] 66)) := (Below.refl _ _).alloc (Nat.le_refl _) _)) | (at_builtin; refine wpList_append_own _ rfl _ _ 24 rfl w6.heap.size 66 i0 (.agg #[.string ⟨#[]⟩, .bool false]) 2 24 Try.underlying24 hi hz0 hz1 hz2 rfl (by decide) _ _ _ rfl o6 ⟨gx, 0, none⟩ (cutOf a).length cx (ps (cutOf a)) rfl (ps_length _) ((ox.alloc _).cells (g := gx) rfl) (ps_one _) (by unfold maxLen; omega) (by omega) (by simp) ?_; intro v7 w7 ho7 hg7 _; (simp only [Nat.zero_add, List.nil_append] at ho7); (obtain ⟨a7, c7, rfl, _, _, _⟩ := rs_of_owns ho7); (have oy7 := (oy.alloc _).kept hg7 (rows_lt (fun k hk => (oy.lt k hk).2) (fun k hk => (o6.lt k hk).1)))) | (at_builtin; refine wpList_append_own _ rfl _ _ 24 rfl w6.heap.size 66 i0 (.agg #[.string ⟨#[]⟩, .bool false]) 2 24 Try.underlying24 hi hz0 hz1 hz2 rfl (by decide) _ _ _ rfl ho7 ⟨gy, 0, none⟩ (cutOf b).length cy (ps (cutOf b)) rfl (ps_length _) (oy7.cells (g := gy) rfl) (ps_one _) (by unfold maxLen; omega) (by omega) (by have := hg7.size; simp at this; omega) ?_; intro v8 w8 ho8 hg8 _; obtain ⟨a8, c8, rfl, _, _, _⟩ := rs_of_owns ho8))
    clear ho6 SA SB hx3 hy4 hb3 hb4 hb5 hb6
    have R8 : Rs w8 a8 ((cutOf a).length + (cutOf b).length) (ps (cutOf a ++ cutOf b)) := by have := owns_rs ho8; rw [ps_append]; simpa using this
    have B8 : Below w.heap.size w w8 := ((kb B6 b6 (Nat.le_refl _)).grown hg7 (kb B6 b6 (Nat.le_refl _)).size (fun k hk => Nat.le_trans B6.size (o6.lt k hk).1)).grown hg8 (Nat.le_trans B6.size (by have := hg7.size; simp at this; omega)) (fun k hk => Nat.le_trans B6.size (ho7.lt k hk).1)
    clear ho7 ho8 hg7 hg8 ox oy oy7 o6 b6
    go_wp2_with (first | (go_at_call 17; refine (SJ.out _ _ _ _ (by omega) R8).mono ?_; rintro e w9 ⟨⟨v9, rfl, ho9⟩, hb9⟩; (rw [if_pos ea, if_pos eb] at ho9); (obtain ⟨a9, c9, rfl, _, _, _⟩ := rs_of_owns ho9); (have B9 := kb B8 hb9 (Nat.le_refl _)); (have o9 : w9.ownsRow _ 9 1 (.slice a9 [a, b].length c9) [a, b].length (ss [a, b]) := ho9); (have t9 : (w9.alloc (.cells #[] 9)).ownsRow w9.heap.size 9 1 (.slice (some ⟨w9.heap.size, 0, none⟩) 0 0) 0 [] := World.ownsRow_lit w9 #[] 0 (Nat.le_refl _) (Nat.zero_le _) rfl)) | (at_builtin; refine wpList_append_own _ rfl _ _ 31 rfl w9.heap.size 9 j0 (.string ⟨#[]⟩) 1 16 Try.underlying31 hj hy0 hy1 hy2 rfl (by decide) _ _ _ rfl (t9.alloc _) ⟨w9.heap.size + 1, 0, none⟩ 1 1 [.string a] rfl rfl (one_at (by simp) _ _) (by simp [Value.oneCell']) (by unfold maxLen; omega) (by omega) (by simp; omega) ?_; intro v10 w10 ho10 hg10 _; (simp only [Nat.zero_add, List.nil_append] at ho10); (obtain ⟨a10, c10, rfl, _, _, _⟩ := rs_of_owns ho10); (have P10 := ((o9.alloc (.cells #[] 9)).alloc (.cells #[.string a] 9)).kept hg10 (rows_lt (fun k hk => (o9.lt k hk).2) (fun k hk => (t9.lt k hk).1))); (have B10 := ((B9.alloc B9.size (.cells #[] 9)).alloc (Nat.le_trans B9.size (by simp)) (.cells #[.string a] 9)).grown hg10 (Nat.le_trans B9.size (by simp; omega)) (fun k hk => Nat.le_trans B9.size (t9.lt k hk).1))) | (at_builtin; refine wpList_append_own _ rfl _ _ 31 rfl w9.heap.size 9 j0 (.string ⟨#[]⟩) 1 16 Try.underlying31 hj hy0 hy1 hy2 rfl (by decide) _ _ _ rfl (ho10.alloc _) ⟨w10.heap.size, 0, none⟩ 1 1 [.string b] rfl rfl (one_at rfl _ _) (by simp [Value.oneCell']) (by unfold maxLen; omega) (by omega) (by have := hg10.size; simp at this ⊢; omega) ?_; intro v11 w11 ho11 hg11 _; (obtain ⟨a11, c11, rfl, _, _, _⟩ := rs_of_owns ho11); (have P11 := (P10.alloc (.cells #[.string b] 9)).kept hg11 (rows_lt (fun k hk => (o9.lt k hk).2) (fun k hk => (ho10.lt k hk).1))); (have B11 := (B10.alloc B10.size (.cells #[.string b] 9)).grown hg11 (Nat.le_trans B10.size (by simp)) (fun k hk => Nat.le_trans B9.size (ho10.lt k hk).1))) | (go_at_call 18; refine (wTexts_same _ _ _ _ [a, b] _ (by simp) (owns_rs (P11)) (owns_rs (ho11))).mono ?_; rintro e w12 ⟨rfl, hb12⟩; have B12 := kb (B11) hb12 (Nat.le_refl _)))
    clear SJ R8 hb9 ho9 hb12
    go_wp2_with (go_at_call 19; refine (joinIn_any v1 l1 c1 _ (H1.out.keep B12) q1 m1).mono ?_; rintro e w13 ⟨⟨xs, ao, c, rfl, hr, hx, hsh⟩, hb13⟩)
    obtain ⟨M, O, bb, hJ⟩ : ∃ M O bb, join xs = (M, O, bb) := ⟨_, _, _, rfl⟩
    have hjl : M.length ≤ xs.length := by have := join_le xs; rw [hJ] at this; exact this
    have X1 : Hid (∀ u : World, Rs u ao xs.length (ps xs) → Calls Try.prog 17 #[.slice ao xs.length c] u fun e w' => (∃ v, e = .returned (.tuple #[v, .string O, .bool bb]) ∧ w'.ownsRow u.heap.size 9 1 v M.length (ss M)) ∧ Below u.heap.size u w') := fun u h => by have := implJoin_any ao c xs u (by omega) (join_ofs xs hsh) h; rw [hJ] at this; exact this
    have X2 : Hid (∀ u : World, Rs u ao xs.length (ps xs) → Calls Try.prog 20 #[.slice ao xs.length c] u fun e w' => (∃ v, e = .returned (.tuple #[v, .string O, .bool bb]) ∧ w'.ownsRow u.heap.size 9 1 v M.length (ss M)) ∧ Below u.heap.size u w') := fun u h => by have := specJoin_any ao c xs u (by omega) (join_ofs xs hsh) h; rw [hJ] at this; exact this
    clear hJ hsh
    go_wp2_with (go_at_call 17; refine (X1.out _ hr).mono ?_; rintro e w14 ⟨⟨v14, rfl, ho14⟩, hb14⟩; obtain ⟨a14, c14, rfl, _, _, _⟩ := rs_of_owns ho14)
    go_wp2_with (go_at_call 20; refine (X2.out _ (hr.keep hb14)).mono ?_; rintro e w15 ⟨⟨v15, rfl, ho15⟩, hb15⟩; obtain ⟨a15, c15, rfl, _, _, _⟩ := rs_of_owns ho15)
    go_wp2_with (go_at_call 18; refine (wTexts_same _ _ _ _ M _ (by omega) (owns_rs (owns_keep ho14 hb15)) (owns_rs ho15)).mono ?_; rintro e w16 ⟨rfl, hb16⟩)
    go_ret
    exact ⟨rfl, kb (kb (kb (kb B12 hb13 (Nat.le_refl _)) hb14 (Nat.le_refl _)) hb15 (Nat.le_refl _)) hb16 (Nat.le_refl _)⟩
  · go_wp2_with (go_at_call_of 12 (Value.string a); refine (implCut_some a _ ea).mono ?_; rintro e w3 ⟨⟨gx, cx, rfl, hx3⟩, hb3⟩)
    have zb : (cutOf b).length = 0 := by simp [cutOf, eb]
    have zB : cutOf b = [] := List.eq_nil_of_length_eq_zero zb
    go_wp2_with (go_at_call 12; refine (implCut_none b _ eb (by omega)).mono ?_; rintro e _ ⟨rfl, rfl⟩)
    go_wp2_with (go_at_call_of 11 (Value.string a); refine (SA.out _).mono ?_; rintro e w5 ⟨⟨u5, rfl, ho5⟩, hb5⟩; obtain ⟨_, _, rfl, _, _, _⟩ := rs_of_owns ho5)
    clear ho5
    go_wp2_with (first | (go_at_call 11; refine (SB.out _).mono ?_; rintro e w6 ⟨⟨u6, rfl, ho6⟩, hb6⟩; (obtain ⟨_, _, rfl, _, _, _⟩ := rs_of_owns ho6); (have B6 := kb (kb (kb (B2) hb3 (Nat.le_refl _)) hb5 (Nat.le_refl _)) hb6 (Nat.le_refl _)); (have ox := owns_keep (owns_keep (hx3) hb5) hb6); (have o6 : (w6.alloc (.cells #[] 66)).ownsRow w6.heap.size 66 2 (.slice (some ⟨w6.heap.size, 0, none⟩) 0 0) 0 [] := World.ownsRow_lit w6 #[] 0 (Nat.le_refl _) (Nat.zero_le _) rfl); (have b6 : Below w6.heap.size w6 (w6.alloc (.cells #[] 66)) := (Below.refl _ _).alloc (Nat.le_refl _) _)) | (at_builtin; refine wpList_append_own _ rfl _ _ 24 rfl w6.heap.size 66 i0 (.agg #[.string ⟨#[]⟩, .bool false]) 2 24 Try.underlying24 hi hz0 hz1 hz2 rfl (by decide) _ _ _ rfl o6 ⟨gx, 0, none⟩ (cutOf a).length cx (ps (cutOf a)) rfl (ps_length _) ((ox.alloc _).cells (g := gx) rfl) (ps_one _) (by unfold maxLen; omega) (by omega) (by simp) ?_; intro v7 w7 ho7 hg7 _; (simp only [Nat.zero_add, List.nil_append] at ho7); (obtain ⟨a7, c7, rfl, _, _, _⟩ := rs_of_owns ho7)) | (at_builtin; refine wpList_append_own_none rfl _ _ 24 rfl w6.heap.size 66 i0 2 Try.underlying24 hi _ _ _ rfl ho7 rfl ?_))
    clear ho6 SA SB hx3 hb3 hb5 hb6
    have R8 : Rs w7 a7 (cutOf a).length (ps (cutOf a ++ cutOf b)) := by have := owns_rs ho7; rw [ps_append, zB]; simpa [ps] using this
    have B8 : Below w.heap.size w w7 := (kb B6 b6 (Nat.le_refl _)).grown hg7 (kb B6 b6 (Nat.le_refl _)).size (fun k hk => Nat.le_trans B6.size (o6.lt k hk).1)
    clear ho7 hg7 ox o6 b6
    go_wp2_with (first | (go_at_call 17; refine (SJ.out _ _ _ _ (by omega) R8).mono ?_; rintro e w9 ⟨⟨v9, rfl, ho9⟩, hb9⟩; (rw [if_pos ea, if_neg eb] at ho9); (obtain ⟨a9, c9, rfl, _, _, _⟩ := rs_of_owns ho9); (have B9 := kb B8 hb9 (Nat.le_refl _)); (have o9 : w9.ownsRow _ 9 1 (.slice a9 [a].length c9) [a].length (ss [a]) := ho9); (have t9 : (w9.alloc (.cells #[] 9)).ownsRow w9.heap.size 9 1 (.slice (some ⟨w9.heap.size, 0, none⟩) 0 0) 0 [] := World.ownsRow_lit w9 #[] 0 (Nat.le_refl _) (Nat.zero_le _) rfl)) | (at_builtin; refine wpList_append_own _ rfl _ _ 31 rfl w9.heap.size 9 j0 (.string ⟨#[]⟩) 1 16 Try.underlying31 hj hy0 hy1 hy2 rfl (by decide) _ _ _ rfl (t9.alloc _) ⟨w9.heap.size + 1, 0, none⟩ 1 1 [.string a] rfl rfl (one_at (by simp) _ _) (by simp [Value.oneCell']) (by unfold maxLen; omega) (by omega) (by simp; omega) ?_; intro v10 w10 ho10 hg10 _; (simp only [Nat.zero_add, List.nil_append] at ho10); (obtain ⟨a10, c10, rfl, _, _, _⟩ := rs_of_owns ho10); (have P10 := ((o9.alloc (.cells #[] 9)).alloc (.cells #[.string a] 9)).kept hg10 (rows_lt (fun k hk => (o9.lt k hk).2) (fun k hk => (t9.lt k hk).1))); (have B10 := ((B9.alloc B9.size (.cells #[] 9)).alloc (Nat.le_trans B9.size (by simp)) (.cells #[.string a] 9)).grown hg10 (Nat.le_trans B9.size (by simp; omega)) (fun k hk => Nat.le_trans B9.size (t9.lt k hk).1))) | (go_at_call 18; refine (wTexts_same _ _ _ _ [a] _ (by simp) (owns_rs (P10)) (owns_rs (ho10))).mono ?_; rintro e w12 ⟨rfl, hb12⟩; have B12 := kb (B10) hb12 (Nat.le_refl _)))
    clear SJ R8 hb9 ho9 hb12
    go_wp2_with (go_at_call 19; refine (joinIn_any v1 l1 c1 _ (H1.out.keep B12) q1 m1).mono ?_; rintro e w13 ⟨⟨xs, ao, c, rfl, hr, hx, hsh⟩, hb13⟩)
    obtain ⟨M, O, bb, hJ⟩ : ∃ M O bb, join xs = (M, O, bb) := ⟨_, _, _, rfl⟩
    have hjl : M.length ≤ xs.length := by have := join_le xs; rw [hJ] at this; exact this
    have X1 : Hid (∀ u : World, Rs u ao xs.length (ps xs) → Calls Try.prog 17 #[.slice ao xs.length c] u fun e w' => (∃ v, e = .returned (.tuple #[v, .string O, .bool bb]) ∧ w'.ownsRow u.heap.size 9 1 v M.length (ss M)) ∧ Below u.heap.size u w') := fun u h => by have := implJoin_any ao c xs u (by omega) (join_ofs xs hsh) h; rw [hJ] at this; exact this
    have X2 : Hid (∀ u : World, Rs u ao xs.length (ps xs) → Calls Try.prog 20 #[.slice ao xs.length c] u fun e w' => (∃ v, e = .returned (.tuple #[v, .string O, .bool bb]) ∧ w'.ownsRow u.heap.size 9 1 v M.length (ss M)) ∧ Below u.heap.size u w') := fun u h => by have := specJoin_any ao c xs u (by omega) (join_ofs xs hsh) h; rw [hJ] at this; exact this
    clear hJ hsh
    go_wp2_with (go_at_call 17; refine (X1.out _ hr).mono ?_; rintro e w14 ⟨⟨v14, rfl, ho14⟩, hb14⟩; obtain ⟨a14, c14, rfl, _, _, _⟩ := rs_of_owns ho14)
    go_wp2_with (go_at_call 20; refine (X2.out _ (hr.keep hb14)).mono ?_; rintro e w15 ⟨⟨v15, rfl, ho15⟩, hb15⟩; obtain ⟨a15, c15, rfl, _, _, _⟩ := rs_of_owns ho15)
    go_wp2_with (go_at_call 18; refine (wTexts_same _ _ _ _ M _ (by omega) (owns_rs (owns_keep ho14 hb15)) (owns_rs ho15)).mono ?_; rintro e w16 ⟨rfl, hb16⟩)
    go_ret
    exact ⟨rfl, kb (kb (kb (kb B12 hb13 (Nat.le_refl _)) hb14 (Nat.le_refl _)) hb15 (Nat.le_refl _)) hb16 (Nat.le_refl _)⟩
  · have za : (cutOf a).length = 0 := by simp [cutOf, ea]
    have zA : cutOf a = [] := List.eq_nil_of_length_eq_zero za
    go_wp2_with (go_at_call_of 12 (Value.string a); refine (implCut_none a _ ea (by omega)).mono ?_; rintro e _ ⟨rfl, rfl⟩)
    go_wp2_with (go_at_call 12; refine (implCut_some b _ eb).mono ?_; rintro e w4 ⟨⟨gy, cy, rfl, hy4⟩, hb4⟩)
    go_wp2_with (go_at_call_of 11 (Value.string a); refine (SA.out _).mono ?_; rintro e w5 ⟨⟨u5, rfl, ho5⟩, hb5⟩; obtain ⟨_, _, rfl, _, _, _⟩ := rs_of_owns ho5)
    clear ho5
    go_wp2_with (first | (go_at_call 11; refine (SB.out _).mono ?_; rintro e w6 ⟨⟨u6, rfl, ho6⟩, hb6⟩; (obtain ⟨_, _, rfl, _, _, _⟩ := rs_of_owns ho6); (have B6 := kb (kb (kb (B2) hb4 (Nat.le_refl _)) hb5 (Nat.le_refl _)) hb6 (Nat.le_refl _)); (have oy := owns_keep (owns_keep (hy4) hb5) hb6); (have o6 : (w6.alloc (.cells #[] 66)).ownsRow w6.heap.size 66 2 (.slice (some ⟨w6.heap.size, 0, none⟩) 0 0) 0 [] := World.ownsRow_lit w6 #[] 0 (Nat.le_refl _) (Nat.zero_le _) rfl); (have b6 : Below w6.heap.size w6 (w6.alloc (.cells #[] 66)) := (Below.refl _ _).alloc (Nat.le_refl _) _)) | (at_builtin; refine wpList_append_own _ rfl _ _ 24 rfl w6.heap.size 66 i0 (.agg #[.string ⟨#[]⟩, .bool false]) 2 24 Try.underlying24 hi hz0 hz1 hz2 rfl (by decide) _ _ _ rfl o6 ⟨gy, 0, none⟩ (cutOf b).length cy (ps (cutOf b)) rfl (ps_length _) ((oy.alloc _).cells (g := gy) rfl) (ps_one _) (by unfold maxLen; omega) (by omega) (by simp) ?_; intro v8 w8 ho8 hg8 _; (simp only [Nat.zero_add, List.nil_append] at ho8); obtain ⟨a8, c8, rfl, _, _, _⟩ := rs_of_owns ho8) | (at_builtin; refine wpList_append_own_none rfl _ _ 24 rfl w6.heap.size 66 i0 2 Try.underlying24 hi _ _ _ rfl o6 rfl ?_))
    clear ho6 SA SB hy4 hb4 hb5 hb6
    have R8 : Rs w8 a8 (cutOf b).length (ps (cutOf a ++ cutOf b)) := by have := owns_rs ho8; rw [ps_append, zA]; simpa [ps] using this
    have B8 : Below w.heap.size w w8 := (kb B6 b6 (Nat.le_refl _)).grown hg8 (kb B6 b6 (Nat.le_refl _)).size (fun k hk => Nat.le_trans B6.size (o6.lt k hk).1)
    clear ho8 hg8 oy o6 b6
    go_wp2_with (first | (go_at_call 17; refine (SJ.out _ _ _ _ (by omega) R8).mono ?_; rintro e w9 ⟨⟨v9, rfl, ho9⟩, hb9⟩; (rw [if_neg ea, if_pos eb] at ho9); (obtain ⟨a9, c9, rfl, _, _, _⟩ := rs_of_owns ho9); (have B9 := kb B8 hb9 (Nat.le_refl _)); (have o9 : w9.ownsRow _ 9 1 (.slice a9 [b].length c9) [b].length (ss [b]) := ho9); (have t9 : (w9.alloc (.cells #[] 9)).ownsRow w9.heap.size 9 1 (.slice (some ⟨w9.heap.size, 0, none⟩) 0 0) 0 [] := World.ownsRow_lit w9 #[] 0 (Nat.le_refl _) (Nat.zero_le _) rfl)) | (at_builtin; refine wpList_append_own _ rfl _ _ 31 rfl w9.heap.size 9 j0 (.string ⟨#[]⟩) 1 16 Try.underlying31 hj hy0 hy1 hy2 rfl (by decide) _ _ _ rfl (t9.alloc _) ⟨w9.heap.size + 1, 0, none⟩ 1 1 [.string b] rfl rfl (one_at (by simp) _ _) (by simp [Value.oneCell']) (by unfold maxLen; omega) (by omega) (by simp; omega) ?_; intro v11 w11 ho11 hg11 _; (simp only [Nat.zero_add, List.nil_append] at ho11); (obtain ⟨a11, c11, rfl, _, _, _⟩ := rs_of_owns ho11); (have P11 := ((o9.alloc (.cells #[] 9)).alloc (.cells #[.string b] 9)).kept hg11 (rows_lt (fun k hk => (o9.lt k hk).2) (fun k hk => (t9.lt k hk).1))); (have B11 := ((B9.alloc B9.size (.cells #[] 9)).alloc (Nat.le_trans B9.size (by simp)) (.cells #[.string b] 9)).grown hg11 (Nat.le_trans B9.size (by simp; omega)) (fun k hk => Nat.le_trans B9.size (t9.lt k hk).1))) | (go_at_call 18; refine (wTexts_same _ _ _ _ [b] _ (by simp) (owns_rs (P11)) (owns_rs (ho11))).mono ?_; rintro e w12 ⟨rfl, hb12⟩; have B12 := kb (B11) hb12 (Nat.le_refl _)))
    clear SJ R8 hb9 ho9 hb12
    go_wp2_with (go_at_call 19; refine (joinIn_any v1 l1 c1 _ (H1.out.keep B12) q1 m1).mono ?_; rintro e w13 ⟨⟨xs, ao, c, rfl, hr, hx, hsh⟩, hb13⟩)
    obtain ⟨M, O, bb, hJ⟩ : ∃ M O bb, join xs = (M, O, bb) := ⟨_, _, _, rfl⟩
    have hjl : M.length ≤ xs.length := by have := join_le xs; rw [hJ] at this; exact this
    have X1 : Hid (∀ u : World, Rs u ao xs.length (ps xs) → Calls Try.prog 17 #[.slice ao xs.length c] u fun e w' => (∃ v, e = .returned (.tuple #[v, .string O, .bool bb]) ∧ w'.ownsRow u.heap.size 9 1 v M.length (ss M)) ∧ Below u.heap.size u w') := fun u h => by have := implJoin_any ao c xs u (by omega) (join_ofs xs hsh) h; rw [hJ] at this; exact this
    have X2 : Hid (∀ u : World, Rs u ao xs.length (ps xs) → Calls Try.prog 20 #[.slice ao xs.length c] u fun e w' => (∃ v, e = .returned (.tuple #[v, .string O, .bool bb]) ∧ w'.ownsRow u.heap.size 9 1 v M.length (ss M)) ∧ Below u.heap.size u w') := fun u h => by have := specJoin_any ao c xs u (by omega) (join_ofs xs hsh) h; rw [hJ] at this; exact this
    clear hJ hsh
    go_wp2_with (go_at_call 17; refine (X1.out _ hr).mono ?_; rintro e w14 ⟨⟨v14, rfl, ho14⟩, hb14⟩; obtain ⟨a14, c14, rfl, _, _, _⟩ := rs_of_owns ho14)
    go_wp2_with (go_at_call 20; refine (X2.out _ (hr.keep hb14)).mono ?_; rintro e w15 ⟨⟨v15, rfl, ho15⟩, hb15⟩; obtain ⟨a15, c15, rfl, _, _, _⟩ := rs_of_owns ho15)
    go_wp2_with (go_at_call 18; refine (wTexts_same _ _ _ _ M _ (by omega) (owns_rs (owns_keep ho14 hb15)) (owns_rs ho15)).mono ?_; rintro e w16 ⟨rfl, hb16⟩)
    go_ret
    exact ⟨rfl, kb (kb (kb (kb B12 hb13 (Nat.le_refl _)) hb14 (Nat.le_refl _)) hb15 (Nat.le_refl _)) hb16 (Nat.le_refl _)⟩
  · have za : (cutOf a).length = 0 := by simp [cutOf, ea]
    have zA : cutOf a = [] := List.eq_nil_of_length_eq_zero za
    go_wp2_with (go_at_call_of 12 (Value.string a); refine (implCut_none a _ ea (by omega)).mono ?_; rintro e _ ⟨rfl, rfl⟩)
    have zb : (cutOf b).length = 0 := by simp [cutOf, eb]
    have zB : cutOf b = [] := List.eq_nil_of_length_eq_zero zb
    go_wp2_with (go_at_call 12; refine (implCut_none b _ eb (by omega)).mono ?_; rintro e _ ⟨rfl, rfl⟩)
    go_wp2_with (go_at_call_of 11 (Value.string a); refine (SA.out _).mono ?_; rintro e w5 ⟨⟨u5, rfl, ho5⟩, hb5⟩; obtain ⟨_, _, rfl, _, _, _⟩ := rs_of_owns ho5)
    clear ho5
    go_wp2_with (first | (go_at_call 11; refine (SB.out _).mono ?_; rintro e w6 ⟨⟨u6, rfl, ho6⟩, hb6⟩; (obtain ⟨_, _, rfl, _, _, _⟩ := rs_of_owns ho6); (have B6 := kb (kb (B2) hb5 (Nat.le_refl _)) hb6 (Nat.le_refl _)); (have o6 : (w6.alloc (.cells #[] 66)).ownsRow w6.heap.size 66 2 (.slice (some ⟨w6.heap.size, 0, none⟩) 0 0) 0 [] := World.ownsRow_lit w6 #[] 0 (Nat.le_refl _) (Nat.zero_le _) rfl); (have b6 : Below w6.heap.size w6 (w6.alloc (.cells #[] 66)) := (Below.refl _ _).alloc (Nat.le_refl _) _)) | (at_builtin; refine wpList_append_own_none rfl _ _ 24 rfl w6.heap.size 66 i0 2 Try.underlying24 hi _ _ _ rfl o6 rfl ?_) | (at_builtin; refine wpList_append_own_none rfl _ _ 24 rfl w6.heap.size 66 i0 2 Try.underlying24 hi _ _ _ rfl o6 rfl ?_))
    clear ho6 SA SB hb5 hb6
    have R8 : Rs (w6.alloc (.cells #[] 66)) (some ⟨w6.heap.size, 0, none⟩) 0 (ps (cutOf a ++ cutOf b)) := ⟨.inl rfl⟩
    have B8 := kb B6 b6 (Nat.le_refl _)
    clear o6 b6
    go_wp2_with (first | (go_at_call 17; refine (SJ.out _ _ _ _ (by omega) R8).mono ?_; rintro e w9 ⟨⟨v9, rfl, ho9⟩, hb9⟩; (rw [if_neg ea, if_neg eb] at ho9); (obtain ⟨a9, c9, rfl, _, _, _⟩ := rs_of_owns ho9); (have B9 := kb B8 hb9 (Nat.le_refl _)); (have o9 : w9.ownsRow _ 9 1 (.slice a9 [].length c9) [].length (ss []) := ho9); (have t9 : (w9.alloc (.cells #[] 9)).ownsRow w9.heap.size 9 1 (.slice (some ⟨w9.heap.size, 0, none⟩) 0 0) 0 [] := World.ownsRow_lit w9 #[] 0 (Nat.le_refl _) (Nat.zero_le _) rfl)) | (go_at_call 18; refine (wTexts_same _ _ _ _ [] _ (by simp) (owns_rs (o9.alloc (.cells #[] 9))) (owns_rs (t9))).mono ?_; rintro e w12 ⟨rfl, hb12⟩; have B12 := kb (B9.alloc B9.size (.cells #[] 9)) hb12 (Nat.le_refl _)))
    clear SJ R8 hb9 ho9 hb12
    go_wp2_with (go_at_call 19; refine (joinIn_any v1 l1 c1 _ (H1.out.keep B12) q1 m1).mono ?_; rintro e w13 ⟨⟨xs, ao, c, rfl, hr, hx, hsh⟩, hb13⟩)
    obtain ⟨M, O, bb, hJ⟩ : ∃ M O bb, join xs = (M, O, bb) := ⟨_, _, _, rfl⟩
    have hjl : M.length ≤ xs.length := by have := join_le xs; rw [hJ] at this; exact this
    have X1 : Hid (∀ u : World, Rs u ao xs.length (ps xs) → Calls Try.prog 17 #[.slice ao xs.length c] u fun e w' => (∃ v, e = .returned (.tuple #[v, .string O, .bool bb]) ∧ w'.ownsRow u.heap.size 9 1 v M.length (ss M)) ∧ Below u.heap.size u w') := fun u h => by have := implJoin_any ao c xs u (by omega) (join_ofs xs hsh) h; rw [hJ] at this; exact this
    have X2 : Hid (∀ u : World, Rs u ao xs.length (ps xs) → Calls Try.prog 20 #[.slice ao xs.length c] u fun e w' => (∃ v, e = .returned (.tuple #[v, .string O, .bool bb]) ∧ w'.ownsRow u.heap.size 9 1 v M.length (ss M)) ∧ Below u.heap.size u w') := fun u h => by have := specJoin_any ao c xs u (by omega) (join_ofs xs hsh) h; rw [hJ] at this; exact this
    clear hJ hsh
    go_wp2_with (go_at_call 17; refine (X1.out _ hr).mono ?_; rintro e w14 ⟨⟨v14, rfl, ho14⟩, hb14⟩; obtain ⟨a14, c14, rfl, _, _, _⟩ := rs_of_owns ho14)
    go_wp2_with (go_at_call 20; refine (X2.out _ (hr.keep hb14)).mono ?_; rintro e w15 ⟨⟨v15, rfl, ho15⟩, hb15⟩; obtain ⟨a15, c15, rfl, _, _, _⟩ := rs_of_owns ho15)
    go_wp2_with (go_at_call 18; refine (wTexts_same _ _ _ _ M _ (by omega) (owns_rs (owns_keep ho14 hb15)) (owns_rs ho15)).mono ?_; rintro e w16 ⟨rfl, hb16⟩)
    go_ret
    exact ⟨rfl, kb (kb (kb (kb B12 hb13 (Nat.le_refl _)) hb14 (Nat.le_refl _)) hb15 (Nat.le_refl _)) hb16 (Nat.le_refl _)⟩

set_option maxRecDepth 100000 in
theorem lifted (os : Os) (started : os.Started) (H : Type) (enc : TypeId × Value → H) :
    ReturnsInHanded {} Try.checked os 5 .any (Rows.fnPartsSpec.pre6 enc Try.prog Try.f5 Rows.fnPartsRow.domain false) (Rows.fnPartsSpec.post enc Try.prog Try.f5 false true false false) := by
  refine returnsInHanded_of_change (C := Try.checked) own started (by kernel_rfl) Try.func5
    (ChangeSpec.witness6 (enc := enc) (C := Try.checked) false ⟨#[], #[.slice none 0 0, .slice none 0 0], []⟩ 8 (by kernel_rfl) (by kernel_rfl) (by kernel_rfl) (by kernel_rfl)) ?_
  intro W base args ds gs before hval0 hW hcnd _
  have hval : ∀ (j : Nat) t v, Try.f5.params[j]? = some t → args[j]? = some v → Value.okWide Try.prog W .any base t v := hval0
  have hW' := hW
  obtain ⟨p, q, hA0, hV, rfl, hfz, hnd⟩ := hW
  have hA : DataW.TrodAll enc Try.prog W 0 (fun _ => true) true Try.f5.params.toList args.toList ds p := hA0
  rw [Try.params5] at hA hval
  obtain ⟨v0, vs0, d0, ds0, p0, q0, hargs, rfl, rfl, h0, r0⟩ := trodAll_cons hA
  obtain ⟨v1, vs1, d1, ds1, p1, q1, rfl, rfl, rfl, h1, r1⟩ := trodAll_cons r0
  obtain ⟨rfl, rfl, rfl⟩ := trodAll_nil r1
  obtain rfl : args = #[v0, v1] := by cases args; simp_all
  obtain ⟨rfl, rfl⟩ := trodVars_none hV
  have k0 := h0
  have k1 := h1
  have lt0 : ∀ x ∈ p0, x.block < W.heap.size := by obtain ⟨m, hm⟩ := k0; exact DataW.trod_lt m _ _ _ hm
  have lt1 : ∀ x ∈ p1, x.block < W.heap.size := by obtain ⟨m, hm⟩ := k1; exact DataW.trod_lt m _ _ _ hm
  obtain ⟨a0, l0, c0, rfl, hc0, hl0, hm0⟩ := opened.code (hval 0 29 v0 rfl rfl) h0
  obtain ⟨a1, l1, c1, rfl, hc1, hl1, hm1⟩ := opened.code (hval 1 29 v1 rfl rfl) h1
  clear hA0 hval0
  simp only [List.append_nil] at hW'
  refine (walk a0 a1 l0 c0 l1 c1 W hc0 hc1 hl0 hl1 hm0 hm1).mono fun e W' ⟨he, bel⟩ => ?_
  subst he
  exact ⟨_, rfl, _, _, _, [], _, [], hW', trodAll_mk1 (shut_bool Try.underlying4 _), (trodAll_cons_mk (Below.trod laidOut (by kernel_rfl) (of_decide_eq_true (by kernel_rfl)) k0 bel lt0) (trodAll_cons_mk (Below.trod laidOut (by kernel_rfl) (of_decide_eq_true (by kernel_rfl)) k1 bel lt1) trodAll_mk0)), rfl, bel.frame _, fun h => by cases h⟩

theorem over : Rows.fnPartsRow.holds Try.pinned (OpenSpec.ofChange Rows.fnPartsSpec) :=
  OpenClaim.holds_of_wide 5 Try.f5 rfl rfl rfl rfl rfl rfl rfl ⟨rfl, rfl, rfl, rfl, rfl⟩ rfl rfl rfl rfl rfl (by kernel_rfl) Try.func5 (by kernel_rfl)
    (of_decide_eq_true (by kernel_rfl)) (by unfold Func.isWrapper; first | (rw [if_pos (by decide +kernel)]; kernel_rfl) | (rw [if_neg (by decide +kernel)]; exact ⟨rfl, rfl⟩))
    (fun os started H enc _ => lifted os started H enc)

theorem proved : Rows.FnPartsSaid :=
  over
#print axioms proved
end Go.Proofs.Ytdmlhfbnhhafmaa.fnParts

/-
  THE DRAWING of a law's inputs, ninth part: spec.l1Bend.
-/
import Derived.Test.YtfeknhopjgpbfaaDoorDrawF
import Derived.Test.YtfeknhopjgpbfaaDoorTagW
import Derived.Test.YtfeknhopjgpbfaaDoorBase
namespace Go.Proofs.YtfeknhopjgpbfaaDoor.draw
open Go.RowKit mk
set_option linter.unusedVariables false

theorem bend_ix (z : Int) (n : Nat) (z0 : 0 ≤ z) (z1 : z < 256) (hn : n ≤ 100000) : 0 ≤ wrap64 ((wrap64 (z * ((n : Int) + 1))).tdiv 256) ∧ wrap64 ((wrap64 (z * ((n : Int) + 1))).tdiv 256) ≤ (n : Int) := by
  have h0 : 0 ≤ z * ((n : Int) + 1) := Int.mul_nonneg z0 (by omega)
  have h1 : z * ((n : Int) + 1) ≤ 255 * ((n : Int) + 1) := Int.mul_le_mul_of_nonneg_right (by omega) (by omega)
  generalize z * ((n : Int) + 1) = m at h0 h1
  rw [wrap_in m (by omega), Int.tdiv_eq_ediv_of_nonneg h0, wrap_in _ (by omega)]
  omega
set_option maxRecDepth 100000 in
set_option maxHeartbeats 2000000 in
theorem bend_any (B : Nat) (k : Int) (s : ByteArray) (w : World) (h : Rd B k w) (hkb : k ≤ 800000) (hs : s.size ≤ 100000) :
    Calls Tryd.prog 27 #[.pointer (some ⟨B, 0, none⟩), .string s] w fun e w' => (∃ t : ByteArray, e = .returned (.string t) ∧ t.size ≤ 2 * s.size + 1) ∧ (∃ k', Rd B k' w' ∧ k' ≤ k + 10) ∧ But B w w' := by
  go_enter Tryd.func27, Tryd.ntmps27
  go_wp2_with (go_at_call_of 13 (Value.int IntKind.i64 256); refine (pick_any B _ _ _ h (by omega) (by omega)).mono ?_; rintro e w1 ⟨⟨z, rfl, z0, z1⟩, hr1, hb1⟩)
  have hix := bend_ix z s.size z0 z1 hs
  generalize wrap64 ((wrap64 (z * (↑s.size + 1))).tdiv 256) = i at hix
  generalize wrap64 (z * (↑s.size + 1)) = m0
  have hi0 := hix.1
  have hi1 := hix.2
  clear hix z0 z1
  go_wp2_with (go_at_call_of 13 (Value.int IntKind.i64 5); refine (pick_any B _ _ _ hr1 (by omega) (by omega)).mono ?_; rintro e w2 ⟨⟨y, rfl, y0, y1⟩, hr2, hb2⟩)
  · go_ret
    exact ⟨⟨_, rfl, by simp [ByteArray.size_extract]; omega⟩, ⟨_, hr2, by omega⟩, hb1.trans hb2⟩
  · have hr2d := hr2.keep (Below.refl _ _).drew
    go_region_with (first
      | (go_at_call_of 13 (Value.int IntKind.i64 6); refine (pick_any B _ _ _ hr2d (by omega) (by omega)).mono ?_; rintro e w3 ⟨⟨x, rfl, x0, x1⟩, hr3, hb3⟩; (obtain ⟨V, hV, v1⟩ := tab_strs (B := B) (w := w3) (T := 9) (hi := 1) [⟨#[32]⟩, ⟨#[10]⟩, ⟨#[0]⟩, ⟨#[1]⟩, ⟨#[48]⟩, ⟨#[120]⟩] (But.refl _ _) hr3.lt x0 x1 (by decide)); (simp only [List.map_cons, List.map_nil] at hV); (have hV2 := hV); (rw [World.cell?_alloc_at (hn := rfl)] at hV2))
      | (go_at_call_of 13 (Value.int IntKind.i64 6); refine (pick_any B _ _ _ (hr2d.made _) (by omega) (by omega)).mono ?_; rintro e w3 ⟨⟨x, rfl, x0, x1⟩, hr3, hb3⟩; (obtain ⟨V, hV, v1⟩ := tab_strs (hi := 1) [⟨#[32]⟩, ⟨#[10]⟩, ⟨#[0]⟩, ⟨#[1]⟩, ⟨#[48]⟩, ⟨#[120]⟩] hb3 hr2d.lt x0 x1 (by decide)); (change w3.cell? ⟨w2.heap.size, x.toNat, none⟩ = some (.string V) at hV))
      | fail)
    · go_wp2
      go_ret
      exact ⟨⟨_, rfl, by rw [ByteArray.size_append, ByteArray.size_append]; simp [ByteArray.size_extract]; omega⟩, ⟨_, hr3, by omega⟩, (hb1.trans hb2).trans (((But.refl B w2).drew.alloc _).trans hb3)⟩
    · go_wp2
      go_ret
      exact ⟨⟨_, rfl, by rw [ByteArray.size_append, ByteArray.size_append]; simp [ByteArray.size_extract]; omega⟩, ⟨_, hr3.made _, by omega⟩, ((hb1.trans hb2).trans ((But.refl B w2).drew.trans hb3)).alloc _⟩
  · go_region
    go_wp2
    go_ret
    exact ⟨⟨_, rfl, by rw [ByteArray.size_append]; simp [ByteArray.size_extract]; omega⟩, ⟨_, hr2.keep (Below.refl _ _).drew, by omega⟩, (hb1.trans hb2).drew⟩
  · go_ret
    exact ⟨⟨_, rfl, by rw [ByteArray.size_append]; simp [ByteArray.size_extract]; omega⟩, ⟨_, hr2, by omega⟩, hb1.trans hb2⟩
  · have hr2d := hr2.keep (Below.refl _ _).drew
    have hcv := tag.conv_one
    have hlt1 : i + 1 ≤ (s.size : Int) := by omega
    have hlt0 : 0 ≤ i + 1 := by omega
    have hwr : IntKind.i64.wrap (i + 1) = i + 1 := by rw [IntKind.wrap_i64]; omega
    have h5 : ¬ (9223372036854775807 < i.toNat + 1) := by omega
    have h6 : ¬ (9223372036854775807 < i.toNat + 1 + (s.size - (i + 1).toNat)) := by omega
    have hst : ∀ q : Int, (strOfNums [q]).size = 1 := fun q => strOfNums_size [q]
    refine wp_region_held_drew (S := fun _ => True) (by kernel_rfl) trivial (fun hHeld => ?_)
    refine tkF 0 (some 55) ?_
    refine tkF 1 (some 56) ?_
    refine tkF 2 (some 57) ?_
    refine tkF 3 (some 58) ?_
    refine tkF 4 (some 59) ?_
    refine tkF 5 (some 60) ?_
    refine tkF 6 (some 61) ?_
    refine tkF 7 (some 62) ?_
    refine tkF 16 (some 71) ?_
    refine tkF 17 (some 72) ?_
    refine tkF 18 (some 73) ?_
    refine tkF 19 (some 74) ?_
    refine wpAnyH_ready (rs := [8]) (by kernel_rfl) (by simp) ?_
    refine AllReadyH.cons rfl (fun K hK => ?_) AllReadyH.nil
    go_simp
    refine (pick_any B _ _ _ hr2d (by omega) (by omega)).mono ?_
    rintro e w3 ⟨⟨x, rfl, x0, x1⟩, hr3, hb3⟩
    go_wp2_with fail
    refine hK.out _ _ trivial (fun hHeld => ?_)
    clear hK K
    try simp only [Act.put, List.setIfInBounds_toArray, List.set_cons_zero, List.set_cons_succ]
    refine tkF 9 (some 64) ?_
    refine tkF 10 (some 65) ?_
    refine tkF 11 (some 66) ?_
    refine tkF 12 (some 67) ?_
    refine wpAnyH_ready (rs := [13]) (by kernel_rfl) (by simp) ?_
    refine AllReadyH.cons rfl (fun K hK => ?_) AllReadyH.nil
    go_simp
    refine hK.out _ _ trivial (fun hHeld => ?_)
    clear hK K
    try simp only [Act.put, List.setIfInBounds_toArray, List.set_cons_zero, List.set_cons_succ]
    refine wpAnyH_ready (rs := [14]) (by kernel_rfl) (by simp) ?_
    refine AllReadyH.cons rfl (fun K hK => ?_) AllReadyH.nil
    go_simp
    refine hK.out _ _ trivial (fun hHeld => ?_)
    clear hK K
    try simp only [Act.put, List.setIfInBounds_toArray, List.set_cons_zero, List.set_cons_succ]
    refine tkF 15 (some 70) ?_
    refine tkF 20 (some 75) ?_
    refine tkF 21 (some 4) ?_
    refine wpAnyH_done (by kernel_rfl) ?_ _
    go_wp2
    go_ret
    exact ⟨⟨_, rfl, by rw [ByteArray.size_append, ByteArray.size_append, hst]; simp [ByteArray.size_extract]; omega⟩, ⟨_, hr3.made _, by omega⟩, ((hb1.trans hb2).trans ((But.refl B w2).drew.trans hb3)).alloc _⟩
  · go_ret
    exact ⟨⟨_, rfl, by rw [ByteArray.size_append]; simp [ByteArray.size_extract]; omega⟩, ⟨_, hr2, by omega⟩, hb1.trans hb2⟩
  · go_ret
    exact ⟨⟨_, rfl, by rw [ByteArray.size_append]; simp [ByteArray.size_extract]; omega⟩, ⟨_, hr2, by omega⟩, hb1.trans hb2⟩
end Go.Proofs.YtfeknhopjgpbfaaDoor.draw

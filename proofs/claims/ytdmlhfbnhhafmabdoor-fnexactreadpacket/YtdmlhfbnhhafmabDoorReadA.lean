/-
  THE WALKS of ReadPacket, first part: numbers, and the specification's.
-/
import Derived.Test.YtdmlhfbnhhafmabDoorFormD
import Derived.Test.YtdmlhfbnhhafmabDoorReadPlain
import Derived.Laws.DeepStrings4
namespace Go.Proofs.YtdmlhfbnhhafmabDoor.tag
open Go.RowKit

theorem l1Read_any (s : ByteArray) (w : World) (hs : s.size ≤ 4) :
    Calls Tryd.prog 8 #[.string s] w fun e w' => e = .returned (.int .i64 (rd s.data.toList)) ∧ w = w' := by
  go_enter Tryd.func8, Tryd.ntmps8
  go_wp2
  go_loop [3, 4] (fun v i => ∃ k : Nat, k ≤ s.size ∧ i = .int .i64 k ∧ v = .int .i64 (rd (s.data.toList.take k))) (fun _ i => s.size - (intOf i).toNat)
  case atStart => exact ⟨0, Nat.zero_le _, rfl, rfl⟩
  case round =>
    obtain ⟨k, hk, rfl, rfl⟩ := hrel
    have hb := rd_small (s.data.toList.take k) (by rw [List.length_take]; omega)
    by_cases hlt : k < s.size
    · have HF : Hid (rd (s.data.toList.take k) * 256 + (s[k].toNat : Int) = rd (s.data.toList.take (k + 1))) := rd_take s k hlt
      have hc : (s[k].toNat : Int) ≤ 255 := by have := s[k].toNat_lt; omega
      go_wp2
      go_round
      case rel => exact ⟨k + 1, by omega, by go_num, by rw [← HF.out]⟩
      case measure => simp [intOf]; omega
    · have htk : s.data.toList.take k = s.data.toList := List.take_of_length_le (by rw [Array.length_toList]; exact Nat.le_of_not_lt hlt)
      rw [htk]
      go_wp2
      go_ret
      exact ⟨rfl, rfl⟩

theorem readNumber_any (s : ByteArray) (w : World) (hs : s.size ≤ 4) :
    Calls Tryd.prog 25 #[.string s] w fun e w' => e = .returned (.int .i64 (rd s.data.toList)) ∧ w = w' := by
  go_enter Tryd.func25, Tryd.ntmps25
  go_wp2
  go_loop [3, 7] (fun v i => ∃ k : Nat, k ≤ s.size ∧ i = .int .i64 k ∧ v = .int .i64 (rd (s.data.toList.take k))) (fun _ i => s.size - (intOf i).toNat)
  case atStart => exact ⟨0, Nat.zero_le _, rfl, rfl⟩
  case round =>
    obtain ⟨k, hk, rfl, rfl⟩ := hrel
    have hb := rd_small (s.data.toList.take k) (by rw [List.length_take]; omega)
    by_cases hlt : k < s.size
    · have HF : Hid (rd (s.data.toList.take k) * 256 + (s[k].toNat : Int) = rd (s.data.toList.take (k + 1))) := rd_take s k hlt
      have hc : (s[k].toNat : Int) ≤ 255 := by have := s[k].toNat_lt; omega
      have HJ : Hid (bits BinOp.or IntKind.i64 (rd (s.data.toList.take k) * 256) (s[k].toNat : Int) = rd (s.data.toList.take k) * 256 + (s[k].toNat : Int)) := or_join _ _ hb (by omega)
      go_wp2
      go_round
      case rel => exact ⟨k + 1, by omega, by go_num, by rw [← HF.out, ← HJ.out]⟩
      case measure => simp [intOf]; omega
    · have htk : s.data.toList.take k = s.data.toList := List.take_of_length_le (by rw [Array.length_toList]; exact Nat.le_of_not_lt hlt)
      rw [htk]
      go_wp2
      go_ret
      exact ⟨rfl, rfl⟩

theorem l1Read_ext (b : ByteArray) (i j : Nat) (w : World) (h : j - i ≤ 4) :
    Calls Tryd.prog 8 #[.string (b.extract i j)] w fun e w' => e = .returned (.int .i64 (rdx b i j)) ∧ w = w' := l1Read_any _ w (ext_le b i j h)
theorem readNumber_ext (b : ByteArray) (i j : Nat) (w : World) (h : j - i ≤ 4) :
    Calls Tryd.prog 25 #[.string (b.extract i j)] w fun e w' => e = .returned (.int .i64 (rdx b i j)) ∧ w = w' := readNumber_any _ w (ext_le b i j h)
theorem zero9 {w w1 : World} {o : Obj} {T : TypeId} (hb : Below ((w.alloc (.cells #[.int .i64 0, .int .i64 0, .int .i64 0, .int .i64 0, .int .i64 0, .int .i64 0, .int .i64 0, .bool false, .string ⟨#[]⟩] T)).alloc o).drew.heap.size ((w.alloc (.cells #[.int .i64 0, .int .i64 0, .int .i64 0, .int .i64 0, .int .i64 0, .int .i64 0, .int .i64 0, .bool false, .string ⟨#[]⟩] T)).alloc o).drew w1) :
    w1.cell? ⟨w.heap.size, 0, none⟩ = some (.int .i64 0) ∧ w1.cell? ⟨w.heap.size, 1, none⟩ = some (.int .i64 0) ∧ w1.cell? ⟨w.heap.size, 2, none⟩ = some (.int .i64 0) ∧ w1.cell? ⟨w.heap.size, 3, none⟩ = some (.int .i64 0) ∧ w1.cell? ⟨w.heap.size, 4, none⟩ = some (.int .i64 0) ∧ w1.cell? ⟨w.heap.size, 5, none⟩ = some (.int .i64 0) ∧ w1.cell? ⟨w.heap.size, 6, none⟩ = some (.int .i64 0) ∧ w1.cell? ⟨w.heap.size, 7, none⟩ = some (.bool false) ∧ w1.cell? ⟨w.heap.size, 8, none⟩ = some (.string ⟨#[]⟩) := by
  have hs : w.heap.size < ((w.alloc (.cells #[.int .i64 0, .int .i64 0, .int .i64 0, .int .i64 0, .int .i64 0, .int .i64 0, .int .i64 0, .bool false, .string ⟨#[]⟩] T)).alloc o).drew.heap.size := by show _ < ((w.alloc (.cells #[.int .i64 0, .int .i64 0, .int .i64 0, .int .i64 0, .int .i64 0, .int .i64 0, .int .i64 0, .bool false, .string ⟨#[]⟩] T)).alloc o).heap.size; simp; omega
  refine ⟨?_, ?_, ?_, ?_, ?_, ?_, ?_, ?_, ?_⟩
  all_goals exact (hb.cell (p := ⟨w.heap.size, _, none⟩) hs).trans ((World.cell?_alloc_past (hn := by simp) ..).trans (World.cell?_alloc_at (hn := rfl) ..))
set_option maxHeartbeats 2000000 in
theorem specRead_word (s key b F : ByteArray) (c0 c1 c10 : UInt8) (n : Int) (q : Bool) (w : World) (_hs : s.size ≤ 1048576) (hk : key.size ≤ 1048576) (h1 : 1 ≤ n) (h2 : n ≤ 8) (h3 : n + 11 ≤ s.size) (hb : s.extract n.toNat s.size = b) (hbz : (11 : Int) ≤ b.size) (hbm : b.size ≤ 1048576) (e0 : b[0]'(by omega) = c0) (e1 : b[1]'(by omega) = c1) (e10 : b[10]'(by omega) = c10) (h0 : (c0.toNat : Int) = 1)
    (hF : formStr 1 (c1.toNat : Int) (rdx b 2 4) (rdx b 4 6) (rdx b 6 10) (c10.toNat : Int) 0 false ⟨#[]⟩ key n = F) (hq : (F.toList == s.toList) = q) :
    Calls Tryd.prog 4 #[.string s, .string key, .int .i64 n] w fun e w' => (q = true ∧ e = .returned (.tuple #[.agg #[.int .i64 1, .int .i64 (c1.toNat : Int), .int .i64 (rdx b 2 4), .int .i64 (rdx b 4 6), .int .i64 (rdx b 6 10), .int .i64 (c10.toNat : Int), .int .i64 0, .bool false, .string ⟨#[]⟩], .bool true]) ∨ q = false ∧ e = .returned (.tuple #[.agg #[.int .i64 0, .int .i64 0, .int .i64 0, .int .i64 0, .int .i64 0, .int .i64 0, .int .i64 0, .bool false, .string ⟨#[]⟩], .bool false])) ∧ Below w.heap.size w w' := by
  have HFc : Hid (∀ w : World, Calls Tryd.prog 9 #[.agg #[.int .i64 1, .int .i64 (c1.toNat : Int), .int .i64 (rdx b 2 4), .int .i64 (rdx b 4 6), .int .i64 (rdx b 6 10), .int .i64 (c10.toNat : Int), .int .i64 0, .bool false, .string ⟨#[]⟩], .string key, .int .i64 n] w fun e w' => e = .returned (.string F) ∧ Below w.heap.size w w') := fun w => by rw [← hF]; exact specForm_any 1 (c1.toNat : Int) (rdx b 2 4) (rdx b 4 6) (rdx b 6 10) (c10.toNat : Int) 0 false ⟨#[]⟩ key n w hk
  clear hF
  have H0 : Hid ((c0.toNat : Int) = 1) := h0
  clear h0
  have hne : ¬ b = ByteArray.empty := by rintro rfl; simp at hbz
  have hw0 : IntKind.i64.wrap (c0.toNat : Int) = (c0.toNat : Int) := by have := c0.toNat_lt; rw [IntKind.wrap_i64]; omega
  have hw1 : IntKind.i64.wrap (c1.toNat : Int) = (c1.toNat : Int) := by have := c1.toNat_lt; rw [IntKind.wrap_i64]; omega
  have hw10 : IntKind.i64.wrap (c10.toNat : Int) = (c10.toNat : Int) := by have := c10.toNat_lt; rw [IntKind.wrap_i64]; omega
  have z1 : (0 : Int) < (b.size : Int) := by omega
  have z2 : (1 : Int) < (b.size : Int) := by omega
  have z3 : (4 : Int) ≤ (b.size : Int) := by omega
  have z4 : (6 : Int) ≤ (b.size : Int) := by omega
  have z5 : (10 : Int) ≤ (b.size : Int) := by omega
  have z6 : (10 : Int) < (b.size : Int) := by omega
  go_enter Tryd.func4, Tryd.ntmps4
  go_wp2_with (go_at_call 7; first | (refine (l1In_yes _ _ _ _ (by omega) (by omega)).mono ?_; rintro e w' ⟨rfl, rfl⟩) | (refine (l1In_no _ _ _ _ (by omega)).mono ?_; rintro e w' ⟨rfl, rfl⟩))
  refine wp_region_noPanic ?_
  refine wp_region_any (by kernel_rfl) ?_
  change wpAny _ _ _ _ _ _ _ (World.drew _)
  refine wpAny_take (i := 0) (v := .string b) rfl (by kernel_rfl) (by kernel_rfl) (by kernel_rfl) (fun _ _ _ h => h) (Or.inl ⟨by rfl, fun w => by go_simp⟩) ?_
  simp only [Act.put, List.setIfInBounds_toArray]
  refine wpAny_take (i := 1) (v := .int .u8 (c0.toNat : Int)) rfl (by kernel_rfl) (by kernel_rfl) (by kernel_rfl) (fun _ _ _ h => h) (Or.inl ⟨by rfl, fun w => by go_simp⟩) ?_
  simp only [Act.put]
  refine wpAny_take (i := 2) (v := .int .i64 (c0.toNat : Int)) rfl (by kernel_rfl) (by kernel_rfl) (by kernel_rfl) (fun _ _ _ h => h) (Or.inl ⟨by rfl, fun w => by go_simp⟩) ?_
  simp only [Act.put]
  refine wpAny_take (i := 3) (v := .string b) rfl (by kernel_rfl) (by kernel_rfl) (by kernel_rfl) (fun _ _ _ h => h) (Or.inl ⟨by rfl, fun w => by go_simp⟩) ?_
  simp only [Act.put]
  refine wpAny_take (i := 4) (v := .int .u8 (c1.toNat : Int)) rfl (by kernel_rfl) (by kernel_rfl) (by kernel_rfl) (fun _ _ _ h => h) (Or.inl ⟨by rfl, fun w => by go_simp⟩) ?_
  simp only [Act.put]
  refine wpAny_take (i := 5) (v := .int .i64 (c1.toNat : Int)) rfl (by kernel_rfl) (by kernel_rfl) (by kernel_rfl) (fun _ _ _ h => h) (Or.inl ⟨by rfl, fun w => by go_simp⟩) ?_
  simp only [Act.put]
  refine wpAny_take (i := 6) (v := .string b) rfl (by kernel_rfl) (by kernel_rfl) (by kernel_rfl) (fun _ _ _ h => h) (Or.inl ⟨by rfl, fun w => by go_simp⟩) ?_
  simp only [Act.put]
  refine wpAny_take (i := 7) (v := .string (b.extract 2 4)) rfl (by kernel_rfl) (by kernel_rfl) (by kernel_rfl) (fun _ _ _ h => h) (Or.inl ⟨by rfl, fun w => by go_simp⟩) ?_
  simp only [Act.put]
  refine wpAny_take (i := 9) (v := .string b) rfl (by kernel_rfl) (by kernel_rfl) (by kernel_rfl) (fun _ _ _ h => h) (Or.inl ⟨by rfl, fun w => by go_simp⟩) ?_
  simp only [Act.put]
  refine wpAny_take (i := 10) (v := .string (b.extract 4 6)) rfl (by kernel_rfl) (by kernel_rfl) (by kernel_rfl) (fun _ _ _ h => h) (Or.inl ⟨by rfl, fun w => by go_simp⟩) ?_
  simp only [Act.put]
  refine wpAny_ready (rs := [8, 13]) (by kernel_rfl) (by simp) ?_; refine AllReady.cons rfl (fun K hK => ?_) (AllReady.cons rfl (fun K hK => ?_) AllReady.nil)
  · go_simp; go_wp2_with (first | (go_at_call_of 8 (Value.string (b.extract 2 4)); refine (l1Read_ext b 2 4 _ (by omega)).mono ?_; rintro e w2 ⟨rfl, rfl⟩) | (go_at_call_of 8 (Value.string (b.extract 4 6)); refine (l1Read_ext b 4 6 _ (by omega)).mono ?_; rintro e w2 ⟨rfl, rfl⟩) | (go_at_call_of 8 (Value.string (b.extract 6 10)); refine (l1Read_ext b 6 10 _ (by omega)).mono ?_; rintro e w2 ⟨rfl, rfl⟩))
    refine wpAny_ready (rs := [11, 13]) (by kernel_rfl) (by simp) ?_; refine AllReady.cons rfl (fun K hK => ?_) (AllReady.cons rfl (fun K hK => ?_) AllReady.nil)
    · go_simp; go_wp2_with (first | (go_at_call_of 8 (Value.string (b.extract 2 4)); refine (l1Read_ext b 2 4 _ (by omega)).mono ?_; rintro e w2 ⟨rfl, rfl⟩) | (go_at_call_of 8 (Value.string (b.extract 4 6)); refine (l1Read_ext b 4 6 _ (by omega)).mono ?_; rintro e w2 ⟨rfl, rfl⟩) | (go_at_call_of 8 (Value.string (b.extract 6 10)); refine (l1Read_ext b 6 10 _ (by omega)).mono ?_; rintro e w2 ⟨rfl, rfl⟩))
      refine wpAny_take (i := 12) (v := .agg #[.int .i64 (c0.toNat : Int), .int .i64 (c1.toNat : Int), .int .i64 (rdx b 2 4), .int .i64 (rdx b 4 6), .int .i64 0, .int .i64 0, .int .i64 0, .bool false, .string ⟨#[]⟩]) rfl (by kernel_rfl) (by kernel_rfl) (by kernel_rfl) (fun _ _ _ h => h) (Or.inl ⟨by rfl, fun w => by go_simp⟩) ?_
      simp only [Act.put, List.setIfInBounds_toArray]
      refine wpAny_ready (rs := [13]) (by kernel_rfl) (by simp) ?_; refine AllReady.cons rfl (fun K hK => ?_) AllReady.nil
      go_simp; refine hK _ _ ?_; clear hK K
      refine wpAny_ready (rs := [14]) (by kernel_rfl) (by simp) ?_; refine AllReady.cons rfl (fun K hK => ?_) AllReady.nil
      go_simp; refine hK _ _ ?_; clear hK K
      refine wpAny_done (by kernel_rfl) ?_ _
      refine NoPanic.normal ?_
      have h0 := H0.out
      go_wp2_with (first | (go_at_call_of 8 (Value.string (b.extract 2 4)); refine (l1Read_ext b 2 4 _ (by omega)).mono ?_; rintro e w2 ⟨rfl, rfl⟩) | (go_at_call_of 8 (Value.string (b.extract 4 6)); refine (l1Read_ext b 4 6 _ (by omega)).mono ?_; rintro e w2 ⟨rfl, rfl⟩) | (go_at_call_of 8 (Value.string (b.extract 6 10)); refine (l1Read_ext b 6 10 _ (by omega)).mono ?_; rintro e w2 ⟨rfl, rfl⟩) | (go_at_call 9; refine (HFc.out _).mono ?_; rintro e w3 ⟨rfl, hb3⟩; (obtain ⟨hc3, hf3⟩ := bcell hb3); (have hz3 := hb3.size); (simp at hz3)))
      all_goals have hbl : Below w.heap.size w w3 := below_box2 hb3
      all_goals obtain ⟨k0, k1, k2, k3, k4, k5, k6, k7, k8⟩ := zero9 hb3
      · have hqf : q = false := by (first | assumption | simp_all)
        exact bodyPost_ret (v := .tuple #[.agg #[.int .i64 0, .int .i64 0, .int .i64 0, .int .i64 0, .int .i64 0, .int .i64 0, .int .i64 0, .bool false, .string ⟨#[]⟩], .bool false]) (by simp [results, Tryd.results4, go_sem, k0, k1, k2, k3, k4, k5, k6, k7, k8]) rfl ⟨Or.inr ⟨hqf, rfl⟩, ((((((((hbl.setCell (Nat.le_refl _) _).setCell (Nat.le_refl _) _).setCell (Nat.le_refl _) _).setCell (Nat.le_refl _) _).setCell (Nat.le_refl _) _).setCell (Nat.le_refl _) _).setCell (Nat.le_refl _) _).setCell (Nat.le_refl _) _).setCell (Nat.le_refl _) _⟩
      · have hqt : q = true := by (first | assumption | simp_all)
        exact bodyPost_ret (v := .tuple #[.agg #[.int .i64 1, .int .i64 (c1.toNat : Int), .int .i64 (rdx b 2 4), .int .i64 (rdx b 4 6), .int .i64 (rdx b 6 10), .int .i64 (c10.toNat : Int), .int .i64 0, .bool false, .string ⟨#[]⟩], .bool true]) (by simp [results, Tryd.results4, go_sem, k0, k1, k2, k3, k4, k5, k6, k7, k8]) rfl ⟨Or.inl ⟨hqt, rfl⟩, ((((((((hbl.setCell (Nat.le_refl _) _).setCell (Nat.le_refl _) _).setCell (Nat.le_refl _) _).setCell (Nat.le_refl _) _).setCell (Nat.le_refl _) _).setCell (Nat.le_refl _) _).setCell (Nat.le_refl _) _).setCell (Nat.le_refl _) _).setCell (Nat.le_refl _) _⟩
    · go_simp; refine hK _ _ ?_; clear hK K
      refine wpAny_ready (rs := [11]) (by kernel_rfl) (by simp) ?_; refine AllReady.cons rfl (fun K hK => ?_) AllReady.nil
      go_simp; go_wp2_with (first | (go_at_call_of 8 (Value.string (b.extract 2 4)); refine (l1Read_ext b 2 4 _ (by omega)).mono ?_; rintro e w2 ⟨rfl, rfl⟩) | (go_at_call_of 8 (Value.string (b.extract 4 6)); refine (l1Read_ext b 4 6 _ (by omega)).mono ?_; rintro e w2 ⟨rfl, rfl⟩) | (go_at_call_of 8 (Value.string (b.extract 6 10)); refine (l1Read_ext b 6 10 _ (by omega)).mono ?_; rintro e w2 ⟨rfl, rfl⟩))
      refine wpAny_take (i := 12) (v := .agg #[.int .i64 (c0.toNat : Int), .int .i64 (c1.toNat : Int), .int .i64 (rdx b 2 4), .int .i64 (rdx b 4 6), .int .i64 0, .int .i64 0, .int .i64 0, .bool false, .string ⟨#[]⟩]) rfl (by kernel_rfl) (by kernel_rfl) (by kernel_rfl) (fun _ _ _ h => h) (Or.inl ⟨by rfl, fun w => by go_simp⟩) ?_
      simp only [Act.put, List.setIfInBounds_toArray]
      refine wpAny_ready (rs := [14]) (by kernel_rfl) (by simp) ?_; refine AllReady.cons rfl (fun K hK => ?_) AllReady.nil
      go_simp; refine hK _ _ ?_; clear hK K
      refine wpAny_done (by kernel_rfl) ?_ _
      refine NoPanic.normal ?_
      have h0 := H0.out
      go_wp2_with (first | (go_at_call_of 8 (Value.string (b.extract 2 4)); refine (l1Read_ext b 2 4 _ (by omega)).mono ?_; rintro e w2 ⟨rfl, rfl⟩) | (go_at_call_of 8 (Value.string (b.extract 4 6)); refine (l1Read_ext b 4 6 _ (by omega)).mono ?_; rintro e w2 ⟨rfl, rfl⟩) | (go_at_call_of 8 (Value.string (b.extract 6 10)); refine (l1Read_ext b 6 10 _ (by omega)).mono ?_; rintro e w2 ⟨rfl, rfl⟩) | (go_at_call 9; refine (HFc.out _).mono ?_; rintro e w3 ⟨rfl, hb3⟩; (obtain ⟨hc3, hf3⟩ := bcell hb3); (have hz3 := hb3.size); (simp at hz3)))
      all_goals have hbl : Below w.heap.size w w3 := below_box2 hb3
      all_goals obtain ⟨k0, k1, k2, k3, k4, k5, k6, k7, k8⟩ := zero9 hb3
      · have hqf : q = false := by (first | assumption | simp_all)
        exact bodyPost_ret (v := .tuple #[.agg #[.int .i64 0, .int .i64 0, .int .i64 0, .int .i64 0, .int .i64 0, .int .i64 0, .int .i64 0, .bool false, .string ⟨#[]⟩], .bool false]) (by simp [results, Tryd.results4, go_sem, k0, k1, k2, k3, k4, k5, k6, k7, k8]) rfl ⟨Or.inr ⟨hqf, rfl⟩, ((((((((hbl.setCell (Nat.le_refl _) _).setCell (Nat.le_refl _) _).setCell (Nat.le_refl _) _).setCell (Nat.le_refl _) _).setCell (Nat.le_refl _) _).setCell (Nat.le_refl _) _).setCell (Nat.le_refl _) _).setCell (Nat.le_refl _) _).setCell (Nat.le_refl _) _⟩
      · have hqt : q = true := by (first | assumption | simp_all)
        exact bodyPost_ret (v := .tuple #[.agg #[.int .i64 1, .int .i64 (c1.toNat : Int), .int .i64 (rdx b 2 4), .int .i64 (rdx b 4 6), .int .i64 (rdx b 6 10), .int .i64 (c10.toNat : Int), .int .i64 0, .bool false, .string ⟨#[]⟩], .bool true]) (by simp [results, Tryd.results4, go_sem, k0, k1, k2, k3, k4, k5, k6, k7, k8]) rfl ⟨Or.inl ⟨hqt, rfl⟩, ((((((((hbl.setCell (Nat.le_refl _) _).setCell (Nat.le_refl _) _).setCell (Nat.le_refl _) _).setCell (Nat.le_refl _) _).setCell (Nat.le_refl _) _).setCell (Nat.le_refl _) _).setCell (Nat.le_refl _) _).setCell (Nat.le_refl _) _).setCell (Nat.le_refl _) _⟩
  · go_simp; refine hK _ _ ?_; clear hK K
    refine wpAny_ready (rs := [8]) (by kernel_rfl) (by simp) ?_; refine AllReady.cons rfl (fun K hK => ?_) AllReady.nil
    go_simp; go_wp2_with (first | (go_at_call_of 8 (Value.string (b.extract 2 4)); refine (l1Read_ext b 2 4 _ (by omega)).mono ?_; rintro e w2 ⟨rfl, rfl⟩) | (go_at_call_of 8 (Value.string (b.extract 4 6)); refine (l1Read_ext b 4 6 _ (by omega)).mono ?_; rintro e w2 ⟨rfl, rfl⟩) | (go_at_call_of 8 (Value.string (b.extract 6 10)); refine (l1Read_ext b 6 10 _ (by omega)).mono ?_; rintro e w2 ⟨rfl, rfl⟩))
    refine wpAny_ready (rs := [11]) (by kernel_rfl) (by simp) ?_; refine AllReady.cons rfl (fun K hK => ?_) AllReady.nil
    go_simp; go_wp2_with (first | (go_at_call_of 8 (Value.string (b.extract 2 4)); refine (l1Read_ext b 2 4 _ (by omega)).mono ?_; rintro e w2 ⟨rfl, rfl⟩) | (go_at_call_of 8 (Value.string (b.extract 4 6)); refine (l1Read_ext b 4 6 _ (by omega)).mono ?_; rintro e w2 ⟨rfl, rfl⟩) | (go_at_call_of 8 (Value.string (b.extract 6 10)); refine (l1Read_ext b 6 10 _ (by omega)).mono ?_; rintro e w2 ⟨rfl, rfl⟩))
    refine wpAny_take (i := 12) (v := .agg #[.int .i64 (c0.toNat : Int), .int .i64 (c1.toNat : Int), .int .i64 (rdx b 2 4), .int .i64 (rdx b 4 6), .int .i64 0, .int .i64 0, .int .i64 0, .bool false, .string ⟨#[]⟩]) rfl (by kernel_rfl) (by kernel_rfl) (by kernel_rfl) (fun _ _ _ h => h) (Or.inl ⟨by rfl, fun w => by go_simp⟩) ?_
    simp only [Act.put, List.setIfInBounds_toArray]
    refine wpAny_ready (rs := [14]) (by kernel_rfl) (by simp) ?_; refine AllReady.cons rfl (fun K hK => ?_) AllReady.nil
    go_simp; refine hK _ _ ?_; clear hK K
    refine wpAny_done (by kernel_rfl) ?_ _
    refine NoPanic.normal ?_
    have h0 := H0.out
    go_wp2_with (first | (go_at_call_of 8 (Value.string (b.extract 2 4)); refine (l1Read_ext b 2 4 _ (by omega)).mono ?_; rintro e w2 ⟨rfl, rfl⟩) | (go_at_call_of 8 (Value.string (b.extract 4 6)); refine (l1Read_ext b 4 6 _ (by omega)).mono ?_; rintro e w2 ⟨rfl, rfl⟩) | (go_at_call_of 8 (Value.string (b.extract 6 10)); refine (l1Read_ext b 6 10 _ (by omega)).mono ?_; rintro e w2 ⟨rfl, rfl⟩) | (go_at_call 9; refine (HFc.out _).mono ?_; rintro e w3 ⟨rfl, hb3⟩; (obtain ⟨hc3, hf3⟩ := bcell hb3); (have hz3 := hb3.size); (simp at hz3)))
    all_goals have hbl : Below w.heap.size w w3 := below_box2 hb3
    all_goals obtain ⟨k0, k1, k2, k3, k4, k5, k6, k7, k8⟩ := zero9 hb3
    · have hqf : q = false := by (first | assumption | simp_all)
      exact bodyPost_ret (v := .tuple #[.agg #[.int .i64 0, .int .i64 0, .int .i64 0, .int .i64 0, .int .i64 0, .int .i64 0, .int .i64 0, .bool false, .string ⟨#[]⟩], .bool false]) (by simp [results, Tryd.results4, go_sem, k0, k1, k2, k3, k4, k5, k6, k7, k8]) rfl ⟨Or.inr ⟨hqf, rfl⟩, ((((((((hbl.setCell (Nat.le_refl _) _).setCell (Nat.le_refl _) _).setCell (Nat.le_refl _) _).setCell (Nat.le_refl _) _).setCell (Nat.le_refl _) _).setCell (Nat.le_refl _) _).setCell (Nat.le_refl _) _).setCell (Nat.le_refl _) _).setCell (Nat.le_refl _) _⟩
    · have hqt : q = true := by (first | assumption | simp_all)
      exact bodyPost_ret (v := .tuple #[.agg #[.int .i64 1, .int .i64 (c1.toNat : Int), .int .i64 (rdx b 2 4), .int .i64 (rdx b 4 6), .int .i64 (rdx b 6 10), .int .i64 (c10.toNat : Int), .int .i64 0, .bool false, .string ⟨#[]⟩], .bool true]) (by simp [results, Tryd.results4, go_sem, k0, k1, k2, k3, k4, k5, k6, k7, k8]) rfl ⟨Or.inl ⟨hqt, rfl⟩, ((((((((hbl.setCell (Nat.le_refl _) _).setCell (Nat.le_refl _) _).setCell (Nat.le_refl _) _).setCell (Nat.le_refl _) _).setCell (Nat.le_refl _) _).setCell (Nat.le_refl _) _).setCell (Nat.le_refl _) _).setCell (Nat.le_refl _) _).setCell (Nat.le_refl _) _⟩
set_option maxHeartbeats 2000000 in
theorem specRead_other (s key b F : ByteArray) (c0 c1 c10 : UInt8) (n : Int) (q : Bool) (w : World) (_hs : s.size ≤ 1048576) (hk : key.size ≤ 1048576) (h1 : 1 ≤ n) (h2 : n ≤ 8) (h3 : n + 11 ≤ s.size) (hb : s.extract n.toNat s.size = b) (hbz : (11 : Int) ≤ b.size) (hbm : b.size ≤ 1048576) (e0 : b[0]'(by omega) = c0) (e1 : b[1]'(by omega) = c1) (e10 : b[10]'(by omega) = c10) (h0 : ((c0.toNat : Int) == 1) = false)
    (hF : formStr (c0.toNat : Int) (c1.toNat : Int) (rdx b 2 4) (rdx b 4 6) 0 0 (rdx b 6 10) ((c10.toNat : Int) == 1) (b.extract 11 b.size) key n = F) (hq : (F.toList == s.toList) = q) :
    Calls Tryd.prog 4 #[.string s, .string key, .int .i64 n] w fun e w' => (q = true ∧ e = .returned (.tuple #[.agg #[.int .i64 (c0.toNat : Int), .int .i64 (c1.toNat : Int), .int .i64 (rdx b 2 4), .int .i64 (rdx b 4 6), .int .i64 0, .int .i64 0, .int .i64 (rdx b 6 10), .bool ((c10.toNat : Int) == 1), .string (b.extract 11 b.size)], .bool true]) ∨ q = false ∧ e = .returned (.tuple #[.agg #[.int .i64 0, .int .i64 0, .int .i64 0, .int .i64 0, .int .i64 0, .int .i64 0, .int .i64 0, .bool false, .string ⟨#[]⟩], .bool false])) ∧ Below w.heap.size w w' := by
  have HFc : Hid (∀ w : World, Calls Tryd.prog 9 #[.agg #[.int .i64 (c0.toNat : Int), .int .i64 (c1.toNat : Int), .int .i64 (rdx b 2 4), .int .i64 (rdx b 4 6), .int .i64 0, .int .i64 0, .int .i64 (rdx b 6 10), .bool ((c10.toNat : Int) == 1), .string (b.extract 11 b.size)], .string key, .int .i64 n] w fun e w' => e = .returned (.string F) ∧ Below w.heap.size w w') := fun w => by rw [← hF]; exact specForm_any (c0.toNat : Int) (c1.toNat : Int) (rdx b 2 4) (rdx b 4 6) 0 0 (rdx b 6 10) ((c10.toNat : Int) == 1) (b.extract 11 b.size) key n w hk
  clear hF
  have H0 : Hid (((c0.toNat : Int) == 1) = false) := h0
  clear h0
  have hne : ¬ b = ByteArray.empty := by rintro rfl; simp at hbz
  have hw0 : IntKind.i64.wrap (c0.toNat : Int) = (c0.toNat : Int) := by have := c0.toNat_lt; rw [IntKind.wrap_i64]; omega
  have hw1 : IntKind.i64.wrap (c1.toNat : Int) = (c1.toNat : Int) := by have := c1.toNat_lt; rw [IntKind.wrap_i64]; omega
  have hw10 : IntKind.i64.wrap (c10.toNat : Int) = (c10.toNat : Int) := by have := c10.toNat_lt; rw [IntKind.wrap_i64]; omega
  have z1 : (0 : Int) < (b.size : Int) := by omega
  have z2 : (1 : Int) < (b.size : Int) := by omega
  have z3 : (4 : Int) ≤ (b.size : Int) := by omega
  have z4 : (6 : Int) ≤ (b.size : Int) := by omega
  have z5 : (10 : Int) ≤ (b.size : Int) := by omega
  have z6 : (10 : Int) < (b.size : Int) := by omega
  go_enter Tryd.func4, Tryd.ntmps4
  go_wp2_with (go_at_call 7; first | (refine (l1In_yes _ _ _ _ (by omega) (by omega)).mono ?_; rintro e w' ⟨rfl, rfl⟩) | (refine (l1In_no _ _ _ _ (by omega)).mono ?_; rintro e w' ⟨rfl, rfl⟩))
  refine wp_region_noPanic ?_
  refine wp_region_any (by kernel_rfl) ?_
  change wpAny _ _ _ _ _ _ _ (World.drew _)
  refine wpAny_take (i := 0) (v := .string b) rfl (by kernel_rfl) (by kernel_rfl) (by kernel_rfl) (fun _ _ _ h => h) (Or.inl ⟨by rfl, fun w => by go_simp⟩) ?_
  simp only [Act.put, List.setIfInBounds_toArray]
  refine wpAny_take (i := 1) (v := .int .u8 (c0.toNat : Int)) rfl (by kernel_rfl) (by kernel_rfl) (by kernel_rfl) (fun _ _ _ h => h) (Or.inl ⟨by rfl, fun w => by go_simp⟩) ?_
  simp only [Act.put]
  refine wpAny_take (i := 2) (v := .int .i64 (c0.toNat : Int)) rfl (by kernel_rfl) (by kernel_rfl) (by kernel_rfl) (fun _ _ _ h => h) (Or.inl ⟨by rfl, fun w => by go_simp⟩) ?_
  simp only [Act.put]
  refine wpAny_take (i := 3) (v := .string b) rfl (by kernel_rfl) (by kernel_rfl) (by kernel_rfl) (fun _ _ _ h => h) (Or.inl ⟨by rfl, fun w => by go_simp⟩) ?_
  simp only [Act.put]
  refine wpAny_take (i := 4) (v := .int .u8 (c1.toNat : Int)) rfl (by kernel_rfl) (by kernel_rfl) (by kernel_rfl) (fun _ _ _ h => h) (Or.inl ⟨by rfl, fun w => by go_simp⟩) ?_
  simp only [Act.put]
  refine wpAny_take (i := 5) (v := .int .i64 (c1.toNat : Int)) rfl (by kernel_rfl) (by kernel_rfl) (by kernel_rfl) (fun _ _ _ h => h) (Or.inl ⟨by rfl, fun w => by go_simp⟩) ?_
  simp only [Act.put]
  refine wpAny_take (i := 6) (v := .string b) rfl (by kernel_rfl) (by kernel_rfl) (by kernel_rfl) (fun _ _ _ h => h) (Or.inl ⟨by rfl, fun w => by go_simp⟩) ?_
  simp only [Act.put]
  refine wpAny_take (i := 7) (v := .string (b.extract 2 4)) rfl (by kernel_rfl) (by kernel_rfl) (by kernel_rfl) (fun _ _ _ h => h) (Or.inl ⟨by rfl, fun w => by go_simp⟩) ?_
  simp only [Act.put]
  refine wpAny_take (i := 9) (v := .string b) rfl (by kernel_rfl) (by kernel_rfl) (by kernel_rfl) (fun _ _ _ h => h) (Or.inl ⟨by rfl, fun w => by go_simp⟩) ?_
  simp only [Act.put]
  refine wpAny_take (i := 10) (v := .string (b.extract 4 6)) rfl (by kernel_rfl) (by kernel_rfl) (by kernel_rfl) (fun _ _ _ h => h) (Or.inl ⟨by rfl, fun w => by go_simp⟩) ?_
  simp only [Act.put]
  refine wpAny_ready (rs := [8, 13]) (by kernel_rfl) (by simp) ?_; refine AllReady.cons rfl (fun K hK => ?_) (AllReady.cons rfl (fun K hK => ?_) AllReady.nil)
  · go_simp; go_wp2_with (first | (go_at_call_of 8 (Value.string (b.extract 2 4)); refine (l1Read_ext b 2 4 _ (by omega)).mono ?_; rintro e w2 ⟨rfl, rfl⟩) | (go_at_call_of 8 (Value.string (b.extract 4 6)); refine (l1Read_ext b 4 6 _ (by omega)).mono ?_; rintro e w2 ⟨rfl, rfl⟩) | (go_at_call_of 8 (Value.string (b.extract 6 10)); refine (l1Read_ext b 6 10 _ (by omega)).mono ?_; rintro e w2 ⟨rfl, rfl⟩))
    refine wpAny_ready (rs := [11, 13]) (by kernel_rfl) (by simp) ?_; refine AllReady.cons rfl (fun K hK => ?_) (AllReady.cons rfl (fun K hK => ?_) AllReady.nil)
    · go_simp; go_wp2_with (first | (go_at_call_of 8 (Value.string (b.extract 2 4)); refine (l1Read_ext b 2 4 _ (by omega)).mono ?_; rintro e w2 ⟨rfl, rfl⟩) | (go_at_call_of 8 (Value.string (b.extract 4 6)); refine (l1Read_ext b 4 6 _ (by omega)).mono ?_; rintro e w2 ⟨rfl, rfl⟩) | (go_at_call_of 8 (Value.string (b.extract 6 10)); refine (l1Read_ext b 6 10 _ (by omega)).mono ?_; rintro e w2 ⟨rfl, rfl⟩))
      refine wpAny_take (i := 12) (v := .agg #[.int .i64 (c0.toNat : Int), .int .i64 (c1.toNat : Int), .int .i64 (rdx b 2 4), .int .i64 (rdx b 4 6), .int .i64 0, .int .i64 0, .int .i64 0, .bool false, .string ⟨#[]⟩]) rfl (by kernel_rfl) (by kernel_rfl) (by kernel_rfl) (fun _ _ _ h => h) (Or.inl ⟨by rfl, fun w => by go_simp⟩) ?_
      simp only [Act.put, List.setIfInBounds_toArray]
      refine wpAny_ready (rs := [13]) (by kernel_rfl) (by simp) ?_; refine AllReady.cons rfl (fun K hK => ?_) AllReady.nil
      go_simp; refine hK _ _ ?_; clear hK K
      refine wpAny_ready (rs := [14]) (by kernel_rfl) (by simp) ?_; refine AllReady.cons rfl (fun K hK => ?_) AllReady.nil
      go_simp; refine hK _ _ ?_; clear hK K
      refine wpAny_done (by kernel_rfl) ?_ _
      refine NoPanic.normal ?_
      have h0 := H0.out
      go_wp2_with (first | (go_at_call_of 8 (Value.string (b.extract 2 4)); refine (l1Read_ext b 2 4 _ (by omega)).mono ?_; rintro e w2 ⟨rfl, rfl⟩) | (go_at_call_of 8 (Value.string (b.extract 4 6)); refine (l1Read_ext b 4 6 _ (by omega)).mono ?_; rintro e w2 ⟨rfl, rfl⟩) | (go_at_call_of 8 (Value.string (b.extract 6 10)); refine (l1Read_ext b 6 10 _ (by omega)).mono ?_; rintro e w2 ⟨rfl, rfl⟩) | (go_at_call 9; refine (HFc.out _).mono ?_; rintro e w3 ⟨rfl, hb3⟩; (obtain ⟨hc3, hf3⟩ := bcell hb3); (have hz3 := hb3.size); (simp at hz3)))
      all_goals have hbl : Below w.heap.size w w3 := below_box2 hb3
      all_goals obtain ⟨k0, k1, k2, k3, k4, k5, k6, k7, k8⟩ := zero9 hb3
      · have hqf : q = false := by (first | assumption | simp_all)
        exact bodyPost_ret (v := .tuple #[.agg #[.int .i64 0, .int .i64 0, .int .i64 0, .int .i64 0, .int .i64 0, .int .i64 0, .int .i64 0, .bool false, .string ⟨#[]⟩], .bool false]) (by simp [results, Tryd.results4, go_sem, k0, k1, k2, k3, k4, k5, k6, k7, k8]) rfl ⟨Or.inr ⟨hqf, rfl⟩, ((((((((hbl.setCell (Nat.le_refl _) _).setCell (Nat.le_refl _) _).setCell (Nat.le_refl _) _).setCell (Nat.le_refl _) _).setCell (Nat.le_refl _) _).setCell (Nat.le_refl _) _).setCell (Nat.le_refl _) _).setCell (Nat.le_refl _) _).setCell (Nat.le_refl _) _⟩
      · have hqt : q = true := by (first | assumption | simp_all)
        exact bodyPost_ret (v := .tuple #[.agg #[.int .i64 (c0.toNat : Int), .int .i64 (c1.toNat : Int), .int .i64 (rdx b 2 4), .int .i64 (rdx b 4 6), .int .i64 0, .int .i64 0, .int .i64 (rdx b 6 10), .bool ((c10.toNat : Int) == 1), .string (b.extract 11 b.size)], .bool true]) (by simp [results, Tryd.results4, go_sem, k0, k1, k2, k3, k4, k5, k6, k7, k8]) rfl ⟨Or.inl ⟨hqt, rfl⟩, ((((((((hbl.setCell (Nat.le_refl _) _).setCell (Nat.le_refl _) _).setCell (Nat.le_refl _) _).setCell (Nat.le_refl _) _).setCell (Nat.le_refl _) _).setCell (Nat.le_refl _) _).setCell (Nat.le_refl _) _).setCell (Nat.le_refl _) _).setCell (Nat.le_refl _) _⟩
    · go_simp; refine hK _ _ ?_; clear hK K
      refine wpAny_ready (rs := [11]) (by kernel_rfl) (by simp) ?_; refine AllReady.cons rfl (fun K hK => ?_) AllReady.nil
      go_simp; go_wp2_with (first | (go_at_call_of 8 (Value.string (b.extract 2 4)); refine (l1Read_ext b 2 4 _ (by omega)).mono ?_; rintro e w2 ⟨rfl, rfl⟩) | (go_at_call_of 8 (Value.string (b.extract 4 6)); refine (l1Read_ext b 4 6 _ (by omega)).mono ?_; rintro e w2 ⟨rfl, rfl⟩) | (go_at_call_of 8 (Value.string (b.extract 6 10)); refine (l1Read_ext b 6 10 _ (by omega)).mono ?_; rintro e w2 ⟨rfl, rfl⟩))
      refine wpAny_take (i := 12) (v := .agg #[.int .i64 (c0.toNat : Int), .int .i64 (c1.toNat : Int), .int .i64 (rdx b 2 4), .int .i64 (rdx b 4 6), .int .i64 0, .int .i64 0, .int .i64 0, .bool false, .string ⟨#[]⟩]) rfl (by kernel_rfl) (by kernel_rfl) (by kernel_rfl) (fun _ _ _ h => h) (Or.inl ⟨by rfl, fun w => by go_simp⟩) ?_
      simp only [Act.put, List.setIfInBounds_toArray]
      refine wpAny_ready (rs := [14]) (by kernel_rfl) (by simp) ?_; refine AllReady.cons rfl (fun K hK => ?_) AllReady.nil
      go_simp; refine hK _ _ ?_; clear hK K
      refine wpAny_done (by kernel_rfl) ?_ _
      refine NoPanic.normal ?_
      have h0 := H0.out
      go_wp2_with (first | (go_at_call_of 8 (Value.string (b.extract 2 4)); refine (l1Read_ext b 2 4 _ (by omega)).mono ?_; rintro e w2 ⟨rfl, rfl⟩) | (go_at_call_of 8 (Value.string (b.extract 4 6)); refine (l1Read_ext b 4 6 _ (by omega)).mono ?_; rintro e w2 ⟨rfl, rfl⟩) | (go_at_call_of 8 (Value.string (b.extract 6 10)); refine (l1Read_ext b 6 10 _ (by omega)).mono ?_; rintro e w2 ⟨rfl, rfl⟩) | (go_at_call 9; refine (HFc.out _).mono ?_; rintro e w3 ⟨rfl, hb3⟩; (obtain ⟨hc3, hf3⟩ := bcell hb3); (have hz3 := hb3.size); (simp at hz3)))
      all_goals have hbl : Below w.heap.size w w3 := below_box2 hb3
      all_goals obtain ⟨k0, k1, k2, k3, k4, k5, k6, k7, k8⟩ := zero9 hb3
      · have hqf : q = false := by (first | assumption | simp_all)
        exact bodyPost_ret (v := .tuple #[.agg #[.int .i64 0, .int .i64 0, .int .i64 0, .int .i64 0, .int .i64 0, .int .i64 0, .int .i64 0, .bool false, .string ⟨#[]⟩], .bool false]) (by simp [results, Tryd.results4, go_sem, k0, k1, k2, k3, k4, k5, k6, k7, k8]) rfl ⟨Or.inr ⟨hqf, rfl⟩, ((((((((hbl.setCell (Nat.le_refl _) _).setCell (Nat.le_refl _) _).setCell (Nat.le_refl _) _).setCell (Nat.le_refl _) _).setCell (Nat.le_refl _) _).setCell (Nat.le_refl _) _).setCell (Nat.le_refl _) _).setCell (Nat.le_refl _) _).setCell (Nat.le_refl _) _⟩
      · have hqt : q = true := by (first | assumption | simp_all)
        exact bodyPost_ret (v := .tuple #[.agg #[.int .i64 (c0.toNat : Int), .int .i64 (c1.toNat : Int), .int .i64 (rdx b 2 4), .int .i64 (rdx b 4 6), .int .i64 0, .int .i64 0, .int .i64 (rdx b 6 10), .bool ((c10.toNat : Int) == 1), .string (b.extract 11 b.size)], .bool true]) (by simp [results, Tryd.results4, go_sem, k0, k1, k2, k3, k4, k5, k6, k7, k8]) rfl ⟨Or.inl ⟨hqt, rfl⟩, ((((((((hbl.setCell (Nat.le_refl _) _).setCell (Nat.le_refl _) _).setCell (Nat.le_refl _) _).setCell (Nat.le_refl _) _).setCell (Nat.le_refl _) _).setCell (Nat.le_refl _) _).setCell (Nat.le_refl _) _).setCell (Nat.le_refl _) _).setCell (Nat.le_refl _) _⟩
  · go_simp; refine hK _ _ ?_; clear hK K
    refine wpAny_ready (rs := [8]) (by kernel_rfl) (by simp) ?_; refine AllReady.cons rfl (fun K hK => ?_) AllReady.nil
    go_simp; go_wp2_with (first | (go_at_call_of 8 (Value.string (b.extract 2 4)); refine (l1Read_ext b 2 4 _ (by omega)).mono ?_; rintro e w2 ⟨rfl, rfl⟩) | (go_at_call_of 8 (Value.string (b.extract 4 6)); refine (l1Read_ext b 4 6 _ (by omega)).mono ?_; rintro e w2 ⟨rfl, rfl⟩) | (go_at_call_of 8 (Value.string (b.extract 6 10)); refine (l1Read_ext b 6 10 _ (by omega)).mono ?_; rintro e w2 ⟨rfl, rfl⟩))
    refine wpAny_ready (rs := [11]) (by kernel_rfl) (by simp) ?_; refine AllReady.cons rfl (fun K hK => ?_) AllReady.nil
    go_simp; go_wp2_with (first | (go_at_call_of 8 (Value.string (b.extract 2 4)); refine (l1Read_ext b 2 4 _ (by omega)).mono ?_; rintro e w2 ⟨rfl, rfl⟩) | (go_at_call_of 8 (Value.string (b.extract 4 6)); refine (l1Read_ext b 4 6 _ (by omega)).mono ?_; rintro e w2 ⟨rfl, rfl⟩) | (go_at_call_of 8 (Value.string (b.extract 6 10)); refine (l1Read_ext b 6 10 _ (by omega)).mono ?_; rintro e w2 ⟨rfl, rfl⟩))
    refine wpAny_take (i := 12) (v := .agg #[.int .i64 (c0.toNat : Int), .int .i64 (c1.toNat : Int), .int .i64 (rdx b 2 4), .int .i64 (rdx b 4 6), .int .i64 0, .int .i64 0, .int .i64 0, .bool false, .string ⟨#[]⟩]) rfl (by kernel_rfl) (by kernel_rfl) (by kernel_rfl) (fun _ _ _ h => h) (Or.inl ⟨by rfl, fun w => by go_simp⟩) ?_
    simp only [Act.put, List.setIfInBounds_toArray]
    refine wpAny_ready (rs := [14]) (by kernel_rfl) (by simp) ?_; refine AllReady.cons rfl (fun K hK => ?_) AllReady.nil
    go_simp; refine hK _ _ ?_; clear hK K
    refine wpAny_done (by kernel_rfl) ?_ _
    refine NoPanic.normal ?_
    have h0 := H0.out
    go_wp2_with (first | (go_at_call_of 8 (Value.string (b.extract 2 4)); refine (l1Read_ext b 2 4 _ (by omega)).mono ?_; rintro e w2 ⟨rfl, rfl⟩) | (go_at_call_of 8 (Value.string (b.extract 4 6)); refine (l1Read_ext b 4 6 _ (by omega)).mono ?_; rintro e w2 ⟨rfl, rfl⟩) | (go_at_call_of 8 (Value.string (b.extract 6 10)); refine (l1Read_ext b 6 10 _ (by omega)).mono ?_; rintro e w2 ⟨rfl, rfl⟩) | (go_at_call 9; refine (HFc.out _).mono ?_; rintro e w3 ⟨rfl, hb3⟩; (obtain ⟨hc3, hf3⟩ := bcell hb3); (have hz3 := hb3.size); (simp at hz3)))
    all_goals have hbl : Below w.heap.size w w3 := below_box2 hb3
    all_goals obtain ⟨k0, k1, k2, k3, k4, k5, k6, k7, k8⟩ := zero9 hb3
    · have hqf : q = false := by (first | assumption | simp_all)
      exact bodyPost_ret (v := .tuple #[.agg #[.int .i64 0, .int .i64 0, .int .i64 0, .int .i64 0, .int .i64 0, .int .i64 0, .int .i64 0, .bool false, .string ⟨#[]⟩], .bool false]) (by simp [results, Tryd.results4, go_sem, k0, k1, k2, k3, k4, k5, k6, k7, k8]) rfl ⟨Or.inr ⟨hqf, rfl⟩, ((((((((hbl.setCell (Nat.le_refl _) _).setCell (Nat.le_refl _) _).setCell (Nat.le_refl _) _).setCell (Nat.le_refl _) _).setCell (Nat.le_refl _) _).setCell (Nat.le_refl _) _).setCell (Nat.le_refl _) _).setCell (Nat.le_refl _) _).setCell (Nat.le_refl _) _⟩
    · have hqt : q = true := by (first | assumption | simp_all)
      exact bodyPost_ret (v := .tuple #[.agg #[.int .i64 (c0.toNat : Int), .int .i64 (c1.toNat : Int), .int .i64 (rdx b 2 4), .int .i64 (rdx b 4 6), .int .i64 0, .int .i64 0, .int .i64 (rdx b 6 10), .bool ((c10.toNat : Int) == 1), .string (b.extract 11 b.size)], .bool true]) (by simp [results, Tryd.results4, go_sem, k0, k1, k2, k3, k4, k5, k6, k7, k8]) rfl ⟨Or.inl ⟨hqt, rfl⟩, ((((((((hbl.setCell (Nat.le_refl _) _).setCell (Nat.le_refl _) _).setCell (Nat.le_refl _) _).setCell (Nat.le_refl _) _).setCell (Nat.le_refl _) _).setCell (Nat.le_refl _) _).setCell (Nat.le_refl _) _).setCell (Nat.le_refl _) _).setCell (Nat.le_refl _) _⟩
end Go.Proofs.YtdmlhfbnhhafmabDoor.tag

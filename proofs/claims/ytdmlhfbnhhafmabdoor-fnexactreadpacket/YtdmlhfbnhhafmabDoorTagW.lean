/-
  THE WALKS of the tags: spec.Tag, impl.Tag and what they call.
-/
import Derived.Test.YtdmlhfbnhhafmabDoorProg
import Derived.Test.YtdmlhfbnhhafmabDoorBase
import Derived.WalkKit
import Derived.WalkSpells
import Derived.WalkLawsBesides
import Derived.Outline
namespace Go.Proofs.YtdmlhfbnhhafmabDoor.tag
open Go.RowKit

theorem l1In_yes (n lo hi : Int) (w : World) (h1 : lo ≤ n) (h2 : n ≤ hi) :
    Calls Tryd.prog 7 #[.int .i64 n, .int .i64 lo, .int .i64 hi] w fun e w' => e = .returned (.bool true) ∧ w = w' := by
  go_enter Tryd.func7, Tryd.ntmps7
  go_wp2
  go_ret
  exact ⟨ret_bool (by simp), rfl⟩

theorem l1In_no (n lo hi : Int) (w : World) (h : n < lo ∨ hi < n) :
    Calls Tryd.prog 7 #[.int .i64 n, .int .i64 lo, .int .i64 hi] w fun e w' => e = .returned (.bool false) ∧ w = w' := by
  by_cases h1 : lo ≤ n
  · have h2 : hi < n := by omega
    clear h
    go_enter Tryd.func7, Tryd.ntmps7
    go_wp2
    go_ret
    exact ⟨ret_bool (by simp; omega), rfl⟩
  · clear h
    go_enter Tryd.func7, Tryd.ntmps7
    go_wp2
    go_ret
    exact ⟨ret_bool rfl, rfl⟩

theorem isSeal_any (key : ByteArray) (n : Int) (w : World) :
    Calls Tryd.prog 15 #[.string key, .int .i64 n] w fun e w' => e = .returned (.bool (sealOk key.size n)) ∧ w = w' := by
  go_enter Tryd.func15, Tryd.ntmps15
  go_wp2
  all_goals go_ret
  · exact ⟨ret_bool (by unfold sealOk; grind), rfl⟩
  · exact ⟨ret_bool (by rw [sealOk_no (by omega)]), rfl⟩
  · exact ⟨ret_bool (by rw [sealOk_no (by omega)]), rfl⟩

/-- 'string([]byte{z})': the one byte that was just laid -/
theorem conv_one (u : World) (z : Int) :
    (convert 53 9 (.slice (some ⟨u.heap.size, 0, none⟩) 1 1)).run Tryd.prog (u.alloc (.cells #[.int .u8 z] 5)) = .ok (.string (strOfNums [z])) (u.alloc (.cells #[.int .u8 z] 5)) :=
  run_convert_bytes_arg (P := Tryd.prog) _ 53 5 Tryd.underlying53 Tryd.underlying5 u.heap.size 0 1 1 [z] rfl
    (fun i hi => by
      obtain rfl : i = 0 := by omega
      rw [World.cell?_alloc_at (hn := rfl)]; rfl) 9 Tryd.underlying9

theorem specTag_yes (body key : ByteArray) (n : Int) (w : World) (hb : body.size ≤ 1048576) (hk : (key.size : Int) ≤ 30) (h1 : 1 ≤ n) (h2 : n ≤ 8) :
    Calls Tryd.prog 13 #[.string body, .string key, .int .i64 n] w fun e w' => e = .returned (.string (numStr (sumAll key body) n.toNat)) ∧ Below w.heap.size w w' := by
  have hz := allOf_size key body
  obtain ⟨al, hal⟩ : ∃ al, al = allOf key body := ⟨_, rfl⟩
  rw [← hal] at hz
  have hsum : Hid (sumAll key body = fnv sum0 al.data.toList) := by rw [hal]; rfl
  have hal2 : key ++ { data := #[0] } ++ body = al := hal.symm
  have hcv := conv_one
  clear hal
  go_enter Tryd.func13, Tryd.ntmps13
  go_wp2_with (go_at_call 7; refine (l1In_yes _ _ _ _ (by omega) (by omega)).mono ?_; rintro e w' ⟨rfl, rfl⟩)
  go_loop [8, 9] (fun v i => ∃ k : Nat, k ≤ al.size ∧ i = .int .i64 k ∧ v = .int .u64 (fnv sum0 (al.data.toList.take k))) (fun _ i => al.size - (intOf i).toNat)
  case atStart => exact ⟨0, Nat.zero_le _, rfl, rfl⟩
  case round =>
    obtain ⟨k, hkk, rfl, rfl⟩ := hrel
    by_cases hlt : k < al.size
    · have hf := fnv_take sum0 al k hlt
      have HF : Hid (fstep (fnv sum0 (al.data.toList.take k)) al[k] = fnv sum0 (al.data.toList.take (k + 1))) := hf
      clear hf
      go_wp2
      go_round
      case rel => exact ⟨k + 1, by omega, by go_num, by rw [← HF.out]; rfl⟩
      case measure => simp [intOf]; omega
    · go_wp2
      have htk : al.data.toList.take k = al.data.toList := List.take_of_length_le (by rw [Array.length_toList]; exact Nat.le_of_not_lt hlt)
      rw [htk]
      clear htk hlt hkk hal2
      obtain ⟨v, hv⟩ : ∃ v, v = fnv sum0 al.data.toList := ⟨_, rfl⟩
      have hvb := fnv_bd sum0 al.data.toList sum0_bd
      rw [← hv] at hvb ⊢
      have HV : Hid (sumAll key body = v) := by rw [hsum.out, hv]; rfl
      have hs1 := strOne_size
      clear hv hsum
      go_loopw [8, 10, 11] (fun y o i wr => ∃ k : Nat, k ≤ n.toNat ∧ i = .int .i64 k ∧ y = .int .u64 (shr8 v k) ∧ o = .string (numStr v k) ∧ Below w.heap.size w wr) (fun _ _ i _ => n.toNat - (intOf i).toNat)
      case atStart => exact ⟨0, Nat.zero_le _, rfl, by rw [shr8_zero], rfl, Below.refl _ _⟩
      case round =>
        obtain ⟨k, hkk, rfl, rfl, rfl, hbel⟩ := hrel
        have hxb := shr8_bd v k hvb
        have hns := numStr_size v k
        by_cases hlt : (k : Int) < n
        · go_wp2
          go_roundw
          case rel => exact ⟨k + 1, by omega, by go_num, by rw [shr8_succ], by rw [numStr_succ], hbel.alloc hbel.size _⟩
          case measure => simp [intOf]; omega
        · go_wp2
          go_ret
          exact ⟨ret_str (by rw [HV.out, show n.toNat = k by omega]), hbel⟩

theorem info_u8 : (Tryd.prog.info? 5).map (fun i => (i.zero, i.size, i.bytes)) = some (some (.int .u8 0), 1, 1) := by kernel_rfl

theorem numberText_any (v : Int) (n : Nat) (w : World) (hv : 0 ≤ v ∧ v ≤ 18446744073709551615) (hn : n ≤ 8) :
    Calls Tryd.prog 19 #[.int .u64 v, .int .i64 n] w fun e w' => e = .returned (.string (numStr v n)) ∧ Below w.heap.size w w' := by
  obtain ⟨i0, hi, hz0, hz1, hz2⟩ := info_parts info_u8
  go_enter Tryd.func19, Tryd.ntmps19
  go_wp2_with (at_make; refine wpList_make_full _ rfl _ _ 53 rfl w.heap.size 5 i0 (.int .u8 0) 1 Tryd.underlying53 hi hz0 hz1 _ _ _ _ n rfl rfl rfl rfl (by rw [hz2]; omega) (by unfold maxLen; omega) (Nat.le_refl _) ?_)
  intro w1 hown hgrow
  have hb1 : Below w.heap.size w w1 := (Below.refl _ _).grown hgrow (Nat.le_refl _) (fun k h => by cases h)
  have hown0 : w1.ownsRow w.heap.size 5 1 (.slice (some ⟨w.heap.size, 0, none⟩) n n) n ((txt v n 0).map (Value.int .u8)) := by
    rw [txt_zero]
    have e : (madeCells #[Value.int .u8 0] n).toList = (List.replicate n 0).map (Value.int .u8) := by
      simp [toList_madeCells_one]
    rw [← e]; exact hown
  clear hown hgrow
  go_wp2
  go_loopw [0, 10] (fun y c wr => ∃ k : Nat, k ≤ n ∧ c = .int .i64 k ∧ y = .int .u64 (shr8 v k) ∧ wr.ownsRow w.heap.size 5 1 (.slice (some ⟨w.heap.size, 0, none⟩) n n) n ((txt v n k).map (Value.int .u8)) ∧ Below w.heap.size w wr) (fun _ c _ => n - (intOf c).toNat)
  case atStart => exact ⟨0, Nat.zero_le _, rfl, by rw [shr8_zero], hown0, hb1⟩
  case round =>
    obtain ⟨k, hkk, rfl, rfl, hown, hbel⟩ := hrel
    have hxb := shr8_bd v k hv
    by_cases hlt : k < n
    · have hcell : wr.cell? ⟨w.heap.size, n - 1 - k, none⟩ = some (.int .u8 ((txt v n k).getD (n - 1 - k) 0)) := by
        have hl := txt_length v n k hkk
        rw [hown.cellAt _ (by omega)]
        simp [List.getD, show n - 1 - k < (txt v n k).length by omega]
      have hfz := hown.frozenAt (n - 1 - k)
      go_wp2
      go_roundw
      case rel => exact ⟨k + 1, by omega, by go_num, by rw [shr8_succ], by rw [← txt_succ v n k hlt, List.map_set]; exact (hown.stored _ _).1, hbel.setCell (Nat.le_refl _) _⟩
      case measure => simp [intOf]; omega
    · obtain rfl : k = n := by omega
      have hcv := run_convert_bytes_arg (P := Tryd.prog) wr 53 5 Tryd.underlying53 Tryd.underlying5 w.heap.size 0 k k (txt v k k) (txt_length v k k hkk)
        (fun i hi => by
          have hl := txt_length v k k hkk
          rw [Nat.zero_add, hown.cellAt _ (by omega)]
          simp [List.getD, show i < (txt v k k).length by omega]) 9 Tryd.underlying9
      rw [txt_full, strOfNums_nums] at hcv
      go_wp2
      go_ret
      exact ⟨rfl, hbel⟩

theorem sumOf_any (b : Nat) (ss : List ByteArray) (w : World) (hl : ss.length ≤ 3) (hs : ∀ s ∈ ss, s.size ≤ 1048576)
    (hc : ∀ j, j < ss.length → w.cell? ⟨b, j, none⟩ = some (.string (ss.getD j ⟨#[]⟩))) :
    Calls Tryd.prog 20 #[.slice (some ⟨b, 0, none⟩) ss.length ss.length] w fun e w' => e = .returned (.int .u64 (fnv sum0 (flat ss ss.length))) ∧ w = w' := by
  have HC : Hid (∀ j, j < ss.length → w.cell? ⟨b, j, none⟩ = some (.string (ss.getD j ⟨#[]⟩))) := hc
  clear hc
  go_enter Tryd.func20, Tryd.ntmps20
  go_wp2
  go_loop [3, 9] (fun v i => ∃ j : Nat, j ≤ ss.length ∧ i = .int .i64 j ∧ v = .int .u64 (fnv sum0 (flat ss j))) (fun _ i => ss.length - (intOf i).toNat)
  case atStart => exact ⟨0, Nat.zero_le _, rfl, by rw [flat_zero]; rfl⟩
  case round =>
    obtain ⟨j, hj, rfl, rfl⟩ := hrel
    by_cases hlt : j < ss.length
    · have hcj := HC.out j hlt
      obtain ⟨s, hsj⟩ : ∃ s, s = ss.getD j ⟨#[]⟩ := ⟨_, rfl⟩
      rw [← hsj] at hcj
      have hsz : s.size ≤ 1048576 := hs s (by rw [hsj]; simp [List.getD, hlt])
      have HS : Hid (flat ss (j + 1) = flat ss j ++ s.data.toList) := by rw [hsj]; exact flat_succ ss j hlt
      clear hsj
      go_wp2
      go_loop [3, 15] (fun v i => ∃ k : Nat, k ≤ s.size ∧ i = .int .i64 k ∧ v = .int .u64 (fnv (fnv sum0 (flat ss j)) (s.data.toList.take k))) (fun _ i => s.size - (intOf i).toNat)
      case atStart => exact ⟨0, Nat.zero_le _, rfl, rfl⟩
      case round =>
        obtain ⟨k, hkk, rfl, rfl⟩ := hrel
        by_cases hlt2 : k < s.size
        · have HF : Hid (fstep (fnv (fnv sum0 (flat ss j)) (s.data.toList.take k)) s[k] = fnv (fnv sum0 (flat ss j)) (s.data.toList.take (k + 1))) := fnv_take _ s k hlt2
          go_wp2
          go_round
          case rel => exact ⟨k + 1, by omega, by go_num, by rw [← HF.out]; rfl⟩
          case measure => simp [intOf]; omega
        · have htk : s.data.toList.take k = s.data.toList := List.take_of_length_le (by rw [Array.length_toList]; exact Nat.le_of_not_lt hlt2)
          rw [htk]
          clear htk
          go_wp2
          go_round
          case rel => exact ⟨j + 1, by omega, by go_num, by rw [HS.out, fnv_append]⟩
          case measure => simp [intOf]; omega
    · obtain rfl : j = ss.length := by omega
      go_wp2
      go_ret
      exact ⟨rfl, rfl⟩

theorem specTag_any (body key : ByteArray) (n : Int) (w : World) (hb : body.size ≤ 1048576) (hk : key.size ≤ 1048576) :
    Calls Tryd.prog 13 #[.string body, .string key, .int .i64 n] w fun e w' => e = .returned (.string (tagOf body key n)) ∧ Below w.heap.size w w' := by
  by_cases h : 1 ≤ n ∧ n ≤ 8
  · by_cases h3 : key.size ≤ 30
    · rw [tagOf_yes (sealOk_mk ⟨h3, h.1, h.2⟩)]
      exact specTag_yes body key n w hb (by omega) h.1 h.2
    · rw [tagOf_no (sealOk_no (by omega))]
      go_enter Tryd.func13, Tryd.ntmps13
      go_wp2_with (go_at_call 7; refine (l1In_yes _ _ _ _ (by omega) (by omega)).mono ?_; rintro e w' ⟨rfl, rfl⟩)
      go_ret
      exact ⟨rfl, Below.refl _ _⟩
  · rw [tagOf_no (sealOk_no (by omega))]
    go_enter Tryd.func13, Tryd.ntmps13
    go_wp2_with (go_at_call 7; refine (l1In_no _ _ _ _ (by omega)).mono ?_; rintro e w' ⟨rfl, rfl⟩)
    go_ret
    exact ⟨rfl, Below.refl _ _⟩

theorem sumOf_three (key body : ByteArray) (w : World) (hb : body.size ≤ 1048576) (hk : key.size ≤ 1048576) :
    Calls Tryd.prog 20 #[.slice (some ⟨w.heap.size, 0, none⟩) 3 3] (w.alloc (.cells #[.string key, .string ⟨#[0]⟩, .string body] 9)) fun e w' => e = .returned (.int .u64 (sumAll key body)) ∧ (w.alloc (.cells #[.string key, .string ⟨#[0]⟩, .string body] 9)) = w' := by
  rw [← flat_three]
  refine sumOf_any w.heap.size [key, ⟨#[0]⟩, body] _ (Nat.le_refl _) ?_ ?_
  · intro s hs
    simp only [List.mem_cons, List.not_mem_nil, or_false] at hs
    rcases hs with rfl | rfl | rfl
    · exact hk
    · show 1 ≤ 1048576; omega
    · exact hb
  · intro j hj
    rw [World.cell?_alloc_at (hn := rfl)]
    simp only [List.length_cons, List.length_nil] at hj
    rcases (by omega : j = 0 ∨ j = 1 ∨ j = 2) with rfl | rfl | rfl <;> rfl

theorem implTag_any (body key : ByteArray) (n : Int) (w : World) (hb : body.size ≤ 1048576) (hk : key.size ≤ 1048576) :
    Calls Tryd.prog 16 #[.string body, .string key, .int .i64 n] w fun e w' => e = .returned (.string (tagOf body key n)) ∧ Below w.heap.size w w' := by
  by_cases h : sealOk key.size n = true
  · rw [tagOf_yes h]
    have hh := sealOk_yes h
    obtain ⟨m, rfl⟩ : ∃ m : Nat, n = (m : Int) := ⟨n.toNat, by omega⟩
    rw [Int.toNat_natCast]
    have hsb := sumAll_bd key body
    go_enter Tryd.func16, Tryd.ntmps16
    go_wp2_with (first | (go_at_call 15; refine (isSeal_any _ _ _).mono ?_; rintro e w' ⟨rfl, rfl⟩) | (go_at_call 20; refine (sumOf_three key body w hb hk).mono ?_; rintro e w' ⟨rfl, rfl⟩) | (go_at_call 19; refine (numberText_any _ m _ hsb (by omega)).mono ?_; rintro e w2 ⟨rfl, hb2⟩))
    go_ret
    exact ⟨rfl, ((Below.refl _ _).alloc (Nat.le_refl _) _).trans (hb2.mono (by simp))⟩
  · have h' : sealOk key.size n = false := by simpa using h
    rw [tagOf_no h']
    go_enter Tryd.func16, Tryd.ntmps16
    go_wp2_with (go_at_call 15; refine (isSeal_any _ _ _).mono ?_; rintro e w' ⟨rfl, rfl⟩)
    go_ret
    exact ⟨rfl, Below.refl _ _⟩

end Go.Proofs.YtdmlhfbnhhafmabDoor.tag

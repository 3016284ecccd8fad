/-
  THE WALKS of the tags: spec.Tag, impl.Tag and what they call.
-/
import Derived.Test.YtoogmlddikpplaeProg
import Derived.Test.YtoogmlddikpplaePlain
import Derived.WalkKit
import Derived.WalkSpells
import Derived.WalkLawsBesides
import Derived.Outline
namespace Go.Proofs.Ytoogmlddikpplae.tag
open Go.RowKit

theorem l1In_yes (n lo hi : Int) (w : World) (h1 : lo ≤ n) (h2 : n ≤ hi) :
    Calls Try.prog 67 #[.int .i64 n, .int .i64 lo, .int .i64 hi] w fun e w' => e = .returned (.bool true) ∧ w = w' := by
  go_enter Try.func67, Try.ntmps67
  go_wp2
  go_ret
  exact ⟨ret_bool (by simp), rfl⟩

theorem l1In_no (n lo hi : Int) (w : World) (h : n < lo ∨ hi < n) :
    Calls Try.prog 67 #[.int .i64 n, .int .i64 lo, .int .i64 hi] w fun e w' => e = .returned (.bool false) ∧ w = w' := by
  by_cases h1 : lo ≤ n
  · have h2 : hi < n := by omega
    clear h
    go_enter Try.func67, Try.ntmps67
    go_wp2
    go_ret
    exact ⟨ret_bool (by simp; omega), rfl⟩
  · clear h
    go_enter Try.func67, Try.ntmps67
    go_wp2
    go_ret
    exact ⟨ret_bool rfl, rfl⟩

theorem isSeal_any (key : ByteArray) (n : Int) (w : World) :
    Calls Try.prog 71 #[.string key, .int .i64 n] w fun e w' => e = .returned (.bool (sealOk key.size n)) ∧ w = w' := by
  go_enter Try.func71, Try.ntmps71
  go_wp2
  all_goals go_ret
  · exact ⟨ret_bool (by unfold sealOk; grind), rfl⟩
  · exact ⟨ret_bool (by rw [sealOk_no (by omega)]), rfl⟩
  · exact ⟨ret_bool (by rw [sealOk_no (by omega)]), rfl⟩

/-- 'string([]byte{z})': the one byte that was just laid -/
theorem conv_one (u : World) (z : Int) :
    (convert 67 9 (.slice (some ⟨u.heap.size, 0, none⟩) 1 1)).run Try.prog (u.alloc (.cells #[.int .u8 z] 5)) = .ok (.string (strOfNums [z])) (u.alloc (.cells #[.int .u8 z] 5)) :=
  run_convert_bytes_arg (P := Try.prog) _ 67 5 Try.underlying67 Try.underlying5 u.heap.size 0 1 1 [z] rfl
    (fun i hi => by
      obtain rfl : i = 0 := by omega
      rw [World.cell?_alloc_at (hn := rfl)]; rfl) 9 Try.underlying9

theorem specTag_yes (body key : ByteArray) (n : Int) (w : World) (hb : body.size ≤ 1048576) (hk : (key.size : Int) ≤ 30) (h1 : 1 ≤ n) (h2 : n ≤ 8) :
    Calls Try.prog 156 #[.string body, .string key, .int .i64 n] w fun e w' => e = .returned (.string (numStr (sumAll key body) n.toNat)) ∧ Below w.heap.size w w' := by
  have hz := allOf_size key body
  obtain ⟨al, hal⟩ : ∃ al, al = allOf key body := ⟨_, rfl⟩
  rw [← hal] at hz
  have hsum : Hid (sumAll key body = fnv sum0 al.data.toList) := by rw [hal]; rfl
  have hal2 : key ++ { data := #[0] } ++ body = al := hal.symm
  have hcv := conv_one
  clear hal
  go_enter Try.func156, Try.ntmps156
  go_wp2_with (go_at_call 67; refine (l1In_yes _ _ _ _ (by omega) (by omega)).mono ?_; rintro e w' ⟨rfl, rfl⟩)
  go_loop [8, 9] (fun v i => ∃ k : Nat, k ≤ al.size ∧ i = .int .i64 k ∧ v = .int .u64 (fnv sum0 (al.data.toList.take k))) (fun _ i => al.size - (intOf i).toNat)
  case atStart => exact ⟨0, Nat.zero_le _, rfl, rfl⟩
  case round =>
    obtain ⟨k, hkk, rfl, rfl⟩ := hrel
    by_cases hlt : k < al.size
    · have hf := fnv_take sum0 al k hlt
      have HF : Hid (fstep (fnv sum0 (al.data.toList.take k)) al[k] = fnv sum0 (al.data.toList.take (k + 1))) := hf
      clear hf
      go_wp2
      go_round
      case rel => exact ⟨k + 1, by omega, by go_num, by rw [← HF.out]; rfl⟩
      case measure => simp [intOf]; omega
    · go_wp2
      have htk : al.data.toList.take k = al.data.toList := List.take_of_length_le (by rw [Array.length_toList]; exact Nat.le_of_not_lt hlt)
      rw [htk]
      clear htk hlt hkk hal2
      obtain ⟨v, hv⟩ : ∃ v, v = fnv sum0 al.data.toList := ⟨_, rfl⟩
      have hvb := fnv_bd sum0 al.data.toList sum0_bd
      rw [← hv] at hvb ⊢
      have HV : Hid (sumAll key body = v) := by rw [hsum.out, hv]; rfl
      have hs1 := strOne_size
      clear hv hsum
      go_loopw [8, 10, 11] (fun y o i wr => ∃ k : Nat, k ≤ n.toNat ∧ i = .int .i64 k ∧ y = .int .u64 (shr8 v k) ∧ o = .string (numStr v k) ∧ Below w.heap.size w wr) (fun _ _ i _ => n.toNat - (intOf i).toNat)
      case atStart => exact ⟨0, Nat.zero_le _, rfl, by rw [shr8_zero], rfl, Below.refl _ _⟩
      case round =>
        obtain ⟨k, hkk, rfl, rfl, rfl, hbel⟩ := hrel
        have hxb := shr8_bd v k hvb
        have hns := numStr_size v k
        by_cases hlt : (k : Int) < n
        · go_wp2
          go_roundw
          case rel => exact ⟨k + 1, by omega, by go_num, by rw [shr8_succ], by rw [numStr_succ], hbel.alloc hbel.size _⟩
          case measure => simp [intOf]; omega
        · go_wp2
          go_ret
          exact ⟨ret_str (by rw [HV.out, show n.toNat = k by omega]), hbel⟩

theorem info_u8 : (Try.prog.info? 5).map (fun i => (i.zero, i.size, i.bytes)) = some (some (.int .u8 0), 1, 1) := by kernel_rfl

theorem specTag_any (body key : ByteArray) (n : Int) (w : World) (hb : body.size ≤ 1048576) (hk : key.size ≤ 1048576) :
    Calls Try.prog 156 #[.string body, .string key, .int .i64 n] w fun e w' => e = .returned (.string (tagOf body key n)) ∧ Below w.heap.size w w' := by
  by_cases h : 1 ≤ n ∧ n ≤ 8
  · by_cases h3 : key.size ≤ 30
    · rw [tagOf_yes (sealOk_mk ⟨h3, h.1, h.2⟩)]
      exact specTag_yes body key n w hb (by omega) h.1 h.2
    · rw [tagOf_no (sealOk_no (by omega))]
      go_enter Try.func156, Try.ntmps156
      go_wp2_with (go_at_call 67; refine (l1In_yes _ _ _ _ (by omega) (by omega)).mono ?_; rintro e w' ⟨rfl, rfl⟩)
      go_ret
      exact ⟨rfl, Below.refl _ _⟩
  · rw [tagOf_no (sealOk_no (by omega))]
    go_enter Try.func156, Try.ntmps156
    go_wp2_with (go_at_call 67; refine (l1In_no _ _ _ _ (by omega)).mono ?_; rintro e w' ⟨rfl, rfl⟩)
    go_ret
    exact ⟨rfl, Below.refl _ _⟩

end Go.Proofs.Ytoogmlddikpplae.tag

/-
  BOTH ReadPackets GIVE ONE ANSWER.
-/
import Derived.Test.YtdmlhfbnhhafmabDoorReadE
namespace Go.Proofs.YtdmlhfbnhhafmabDoor.tag
open Go.RowKit
set_option linter.unusedVariables false

theorem specRead_early (s key : ByteArray) (n : Int) (w : World) (h : ¬ (1 ≤ n ∧ n ≤ 8) ∨ (s.size : Int) < n + 11) :
    Calls Tryd.prog 4 #[.string s, .string key, .int .i64 n] w fun e w' => e = .returned (.tuple #[.agg #[.int .i64 0, .int .i64 0, .int .i64 0, .int .i64 0, .int .i64 0, .int .i64 0, .int .i64 0, .bool false, .string ⟨#[]⟩], .bool false]) ∧ Below w.heap.size w w' := by
  by_cases h1 : 1 ≤ n ∧ n ≤ 8
  · have h2 : (s.size : Int) < n + 11 := by omega
    clear h
    go_enter Tryd.func4, Tryd.ntmps4
    go_wp2_with (go_at_call 7; first | (refine (l1In_yes _ _ _ _ (by omega) (by omega)).mono ?_; rintro e w' ⟨rfl, rfl⟩) | (refine (l1In_no _ _ _ _ (by omega)).mono ?_; rintro e w' ⟨rfl, rfl⟩))
    exact bodyPost_ret (v := .tuple #[.agg #[.int .i64 0, .int .i64 0, .int .i64 0, .int .i64 0, .int .i64 0, .int .i64 0, .int .i64 0, .bool false, .string ⟨#[]⟩], .bool false]) (by simp [results, Tryd.results4, go_sem]) rfl ⟨rfl, (Below.refl _ _).alloc (Nat.le_refl _) _⟩
  · clear h
    go_enter Tryd.func4, Tryd.ntmps4
    go_wp2_with (go_at_call 7; first | (refine (l1In_yes _ _ _ _ (by omega) (by omega)).mono ?_; rintro e w' ⟨rfl, rfl⟩) | (refine (l1In_no _ _ _ _ (by omega)).mono ?_; rintro e w' ⟨rfl, rfl⟩))
    exact bodyPost_ret (v := .tuple #[.agg #[.int .i64 0, .int .i64 0, .int .i64 0, .int .i64 0, .int .i64 0, .int .i64 0, .int .i64 0, .bool false, .string ⟨#[]⟩], .bool false]) (by simp [results, Tryd.results4, go_sem]) rfl ⟨rfl, (Below.refl _ _).alloc (Nat.le_refl _) _⟩
theorem beq_list_eq {a b : ByteArray} : (a.toList == b.toList) = decide (a = b) := by
  rw [ByteArray.toList_eq, ByteArray.toList_eq]
  by_cases h : a = b
  · subst h; simp
  · simp only [h, decide_false, beq_eq_false_iff_ne]
    intro e
    exact h (ByteArray.ext (Array.toList_inj.1 e))
/-- what a reading that fails answers -/
theorem implRead_none (s key : ByteArray) (n : Int) (w : World) (hG : Gl w) (hs : s.size ≤ 1048576) (hk : key.size ≤ 1048576)
    (h : ¬ (sealOk key.size n = true ∧ n ≤ (s.size : Int) ∧ s.extract 0 n.toNat = tagOf (s.extract n.toNat s.size) key n ∧ (isWord (s.extract n.toNat s.size) ∨ isData (s.extract n.toNat s.size)))) :
    Calls Tryd.prog 5 #[.string s, .string key, .int .i64 n] w fun e w' => e = .returned (.tuple #[.agg #[.int .i64 0, .int .i64 0, .int .i64 0, .int .i64 0, .int .i64 0, .int .i64 0, .int .i64 0, .bool false, .string ⟨#[]⟩], .bool false]) ∧ Below w.heap.size w w' := by
  refine implRead_no s key n w (fun W hW => ?_)
  have G := hG.mono hW
  cases hse : sealOk key.size n
  · exact readForm_noseal s key n W G hse
  · by_cases hz : n ≤ (s.size : Int)
    · have hbm : (s.extract n.toNat s.size).size ≤ 1048576 := by rw [ByteArray.size_extract]; omega
      by_cases ht : s.extract 0 n.toNat = tagOf (s.extract n.toNat s.size) key n
      · have hno : ¬ isWord (s.extract n.toNat s.size) ∧ ¬ isData (s.extract n.toNat s.size) := ⟨fun x => h ⟨hse, hz, ht, .inl x⟩, fun x => h ⟨hse, hz, ht, .inr x⟩⟩
        exact readForm_err s key _ _ n W G hk hbm hse hz rfl rfl (by rw [beq_list_eq]; exact decide_eq_true ht) (fun W' hW' => readBody_isNone _ W' (G.mono hW') hbm hno.1 hno.2)
      · exact readForm_tag s key _ _ n W G hk hbm hse hz rfl rfl (by rw [beq_list_eq]; exact decide_eq_false ht)
    · exact readForm_short s key n W G hse (by omega)
theorem both (s key : ByteArray) (n : Int) (hs : s.size ≤ 1048576) (hk : key.size ≤ 1048576) : ∃ (k f m y nx mk sq : Int) (l : Bool) (p : ByteArray) (ok : Bool), (∀ w, Calls Tryd.prog 4 #[.string s, .string key, .int .i64 n] w fun e w' => e = .returned (.tuple #[.agg #[.int .i64 k, .int .i64 f, .int .i64 m, .int .i64 y, .int .i64 nx, .int .i64 mk, .int .i64 sq, .bool l, .string p], .bool ok]) ∧ Below w.heap.size w w') ∧ (∀ w, Gl w → Calls Tryd.prog 5 #[.string s, .string key, .int .i64 n] w fun e w' => e = .returned (.tuple #[.agg #[.int .i64 k, .int .i64 f, .int .i64 m, .int .i64 y, .int .i64 nx, .int .i64 mk, .int .i64 sq, .bool l, .string p], .bool ok]) ∧ Below w.heap.size w w') := by
  by_cases hE : ¬ (1 ≤ n ∧ n ≤ 8) ∨ (s.size : Int) < n + 11
  · refine ⟨0, 0, 0, 0, 0, 0, 0, false, ⟨#[]⟩, false, fun w => specRead_early s key n w hE, fun w hG => implRead_none s key n w hG hs hk ?_⟩
    rintro ⟨h1, h2, _, h4⟩
    have hse := sealOk_yes h1
    have hz : (s.extract n.toNat s.size).size < 11 := by rw [ByteArray.size_extract]; omega
    rcases h4 with h4 | h4
    · have := h4.1; omega
    · have := h4.1; omega
  · obtain ⟨b, hb⟩ : ∃ b, s.extract n.toNat s.size = b := ⟨_, rfl⟩
    have hbz : b.size = s.size - n.toNat := by rw [← hb, ByteArray.size_extract]; omega
    by_cases h0 : (bt b 0).toNat = 1
    · have hiff := formWord_iff s key b n (by omega) (by omega) hb h0
      have HS : ∀ q, ((formStr 1 (bt b 1).toNat (rdx b 2 4) (rdx b 4 6) (rdx b 6 10) (bt b 10).toNat 0 false ⟨#[]⟩ key n).toList == s.toList) = q → ∀ w, _ := fun q hq w => specRead_word s key b _ (bt b 0) (bt b 1) (bt b 10) n q w hs hk (by omega) (by omega) (by omega) hb (by omega) (by omega) (bt_get b 0 (by omega)) (bt_get b 1 (by omega)) (bt_get b 10 (by omega)) (by omega) rfl hq
      by_cases hF : formStr 1 (bt b 1).toNat (rdx b 2 4) (rdx b 4 6) (rdx b 6 10) (bt b 10).toNat 0 false ⟨#[]⟩ key n = s
      · obtain ⟨h1, h2, h3⟩ := hiff.1 hF
        refine ⟨1, (bt b 1).toNat, rdx b 2 4, rdx b 4 6, rdx b 6 10, (bt b 10).toNat, 0, false, ⟨#[]⟩, true, fun w => ?_, fun w hG => ?_⟩
        · refine (HS true (by rw [beq_list_eq]; exact decide_eq_true hF) w).mono fun e w' hh => ?_
          obtain ⟨hh | hh, hbel⟩ := hh
          · exact ⟨hh.2, hbel⟩
          · exact absurd hh.1 (by decide)
        · exact implRead_word s key _ _ _ _ _ n w (fun W hW => readForm_ok s key b _ n W (hG.mono hW) hk (by omega) h1 (by omega) hb rfl _ (by rw [beq_list_eq]; exact decide_eq_true h2) (fun W' hW' => readBody_isWord b W' ((hG.mono hW).mono hW') h3))
      · refine ⟨0, 0, 0, 0, 0, 0, 0, false, ⟨#[]⟩, false, fun w => ?_, fun w hG => ?_⟩
        · refine (HS false (by rw [beq_list_eq]; exact decide_eq_false hF) w).mono fun e w' hh => ?_
          obtain ⟨hh | hh, hbel⟩ := hh
          · exact absurd hh.1 (by decide)
          · exact ⟨hh.2, hbel⟩
        · refine implRead_none s key n w hG hs hk ?_
          rintro ⟨h1, _, h3, h4⟩
          rw [hb] at h3 h4
          refine hF (hiff.2 ⟨h1, h3, ?_⟩)
          rcases h4 with h4 | h4
          · exact h4
          · have := h4.2.1; omega
    · have hiff := formData_iff s key b n (by omega) (by omega) hb (by omega) h0
      have HS : ∀ q, ((formStr (bt b 0).toNat (bt b 1).toNat (rdx b 2 4) (rdx b 4 6) 0 0 (rdx b 6 10) (((bt b 10).toNat : Int) == 1) (b.extract 11 b.size) key n).toList == s.toList) = q → ∀ w, _ := fun q hq w => specRead_other s key b _ (bt b 0) (bt b 1) (bt b 10) n q w hs hk (by omega) (by omega) (by omega) hb (by omega) (by omega) (bt_get b 0 (by omega)) (bt_get b 1 (by omega)) (bt_get b 10 (by omega)) (by simp; omega) rfl hq
      by_cases hF : formStr (bt b 0).toNat (bt b 1).toNat (rdx b 2 4) (rdx b 4 6) 0 0 (rdx b 6 10) (((bt b 10).toNat : Int) == 1) (b.extract 11 b.size) key n = s
      · obtain ⟨h1, h2, h3⟩ := hiff.1 hF
        have h02 : ((bt b 0).toNat : Int) = 2 := by have := h3.2.1; omega
        refine ⟨2, (bt b 1).toNat, rdx b 2 4, rdx b 4 6, 0, 0, rdx b 6 10, (((bt b 10).toNat : Int) == 1), b.extract 11 b.size, true, fun w => ?_, fun w hG => ?_⟩
        · refine (HS true (by rw [beq_list_eq]; exact decide_eq_true hF) w).mono fun e w' hh => ?_
          obtain ⟨hh | hh, hbel⟩ := hh
          · rw [h02] at hh; exact ⟨hh.2, hbel⟩
          · exact absurd hh.1 (by decide)
        · exact implRead_data s key _ _ _ _ _ _ n w (fun W hW => readForm_ok s key b _ n W (hG.mono hW) hk (by omega) h1 (by omega) hb rfl _ (by rw [beq_list_eq]; exact decide_eq_true h2) (fun W' hW' => readBody_isData b W' ((hG.mono hW).mono hW') (by omega) h3))
      · refine ⟨0, 0, 0, 0, 0, 0, 0, false, ⟨#[]⟩, false, fun w => ?_, fun w hG => ?_⟩
        · refine (HS false (by rw [beq_list_eq]; exact decide_eq_false hF) w).mono fun e w' hh => ?_
          obtain ⟨hh | hh, hbel⟩ := hh
          · exact absurd hh.1 (by decide)
          · exact ⟨hh.2, hbel⟩
        · refine implRead_none s key n w hG hs hk ?_
          rintro ⟨h1, _, h3, h4⟩
          rw [hb] at h3 h4
          refine hF (hiff.2 ⟨h1, h3, ?_⟩)
          rcases h4 with h4 | h4
          · exact absurd h4.2.1 h0
          · exact h4
theorem eqPacket_same (k f m y nx mk sq : Int) (l : Bool) (p : ByteArray) (w : World) :
    Calls Tryd.prog 6 #[.agg #[.int .i64 k, .int .i64 f, .int .i64 m, .int .i64 y, .int .i64 nx, .int .i64 mk, .int .i64 sq, .bool l, .string p], .agg #[.int .i64 k, .int .i64 f, .int .i64 m, .int .i64 y, .int .i64 nx, .int .i64 mk, .int .i64 sq, .bool l, .string p]] w fun e w' => e = .returned (.bool true) ∧ Below w.heap.size w w' := by
  go_enter Tryd.func6, Tryd.ntmps6
  go_wp2
  go_ret
  exact ⟨rfl, ((Below.refl _ _).alloc (Nat.le_refl _) _).alloc (by simp) _⟩
end Go.Proofs.YtdmlhfbnhhafmabDoor.tag

/-
  THE WALKS of FormPacket, last part: the program's FormPacket.
-/
import Derived.Test.YtdmlhfbnhhafmaaFormD
import Derived.WalkKit
import Derived.WalkSpells
import Derived.WalkLawsBesides
import Derived.Laws.StructEq
import Derived.Laws.ResultCell
import Derived.Deep.RegionHeld3
import Derived.Outline
namespace Go.Proofs.Ytdmlhfbnhhafmaa.tag
open Go.RowKit


theorem letterOf_no (k f m y nx mk sq : Int) (l : Bool) (p : ByteArray) (w : World) (h : pkOk k f m y nx mk sq l p = false) :
    Calls Try.prog 50 #[.agg #[.int .i64 k, .int .i64 f, .int .i64 m, .int .i64 y, .int .i64 nx, .int .i64 mk, .int .i64 sq, .bool l, .string p]] w fun e w' => e = .returned (.tuple #[.nilIface, .bool false]) ∧ Below w.heap.size w w' := by
  by_cases h1 : k = 1
  · subst h1
    cases hw : wordOk f m y nx mk
    · exact letterOf_word_no f m y nx mk sq l p w hw
    · by_cases h2 : sq = 0
      · subst h2
        cases l
        · refine letterOf_word_p f m y nx mk p w hw ?_
          rw [isEmpty_size]
          simpa [pkOk, hw] using h
        · exact letterOf_word_l f m y nx mk p w hw
      · exact letterOf_word_sq f m y nx mk sq l p w hw h2
  · by_cases h2 : k = 2
    · subst h2
      cases hw : dataOk f m y sq p.size
      · exact letterOf_data_no f m y nx mk sq l p w hw
      · by_cases h3 : nx = 0
        · subst h3
          refine letterOf_data_mk f m y mk sq l p w hw ?_
          simpa [pkOk, hw] using h
        · exact letterOf_data_nx f m y nx mk sq l p w hw h3
    · exact letterOf_other k f m y nx mk sq l p w h1 h2

theorem implForm_no (k f m y nx mk sq : Int) (l : Bool) (p key : ByteArray) (n : Int) (w : World) (h : pkOk k f m y nx mk sq l p = false) :
    Calls Try.prog 29 #[.agg #[.int .i64 k, .int .i64 f, .int .i64 m, .int .i64 y, .int .i64 nx, .int .i64 mk, .int .i64 sq, .bool l, .string p], .string key, .int .i64 n] w fun e w' => e = .returned (.string ⟨#[]⟩) ∧ Below w.heap.size w w' := by
  go_enter Try.func29, Try.ntmps29
  go_wp2_with (first | (go_at_call 50; refine (letterOf_no k f m y nx mk sq l p _ h).mono ?_; rintro e w1 ⟨rfl, hb1⟩) | (go_at_call 36; refine (isSeal_any _ _ _).mono ?_; rintro e w' ⟨rfl, rfl⟩))
  go_ret
  exact ⟨rfl, below_box hb1⟩
theorem implForm_word (f m y nx mk : Int) (key : ByteArray) (n : Int) (w : World) (hkey : key.size ≤ 1048576) (h : wordOk f m y nx mk = true) :
    Calls Try.prog 29 #[.agg #[.int .i64 1, .int .i64 f, .int .i64 m, .int .i64 y, .int .i64 nx, .int .i64 mk, .int .i64 0, .bool false, .string ⟨#[]⟩], .string key, .int .i64 n] w fun e w' => e = .returned (.string (formStr 1 f m y nx mk 0 false ⟨#[]⟩ key n)) ∧ Below w.heap.size w w' := by
  have hok : pkOk 1 f m y nx mk 0 false ⟨#[]⟩ = true := by simp [pkOk, h]; rfl
  cases hs : sealOk key.size n
  · rw [formStr_noseal hs]
    go_enter Try.func29, Try.ntmps29
    go_wp2_with (first | (go_at_call 50; refine (letterOf_word_yes f m y nx mk _ h).mono ?_; rintro e w1 ⟨rfl, hb1⟩) | (go_at_call 36; refine (isSeal_any _ _ _).mono ?_; rintro e w' ⟨rfl, rfl⟩))
    go_ret
    exact ⟨rfl, below_box hb1⟩
  · rw [formStr_yes hok hs, bodyStr_word]
    have hbz := wordStr_size f m y nx mk
    have HB : Hid (∀ w : World, Calls Try.prog 83 #[.agg #[.int .i64 f, .int .i64 m, .int .i64 y, .int .i64 nx, .int .i64 mk]] w fun e w' => e = .returned (.string (wordStr f m y nx mk)) ∧ Below w.heap.size w w') := fun w => wordBody_any f m y nx mk w h
    obtain ⟨B, hB⟩ : ∃ B, B = wordStr f m y nx mk := ⟨_, rfl⟩
    rw [← hB] at hbz HB ⊢
    clear hB hok
    have HT : Hid (∀ w : World, Calls Try.prog 10 #[.string B, .string key, .int .i64 n] w fun e w' => e = .returned (.string (tagOf B key n)) ∧ Below w.heap.size w w') := fun w => implTag_any B key n w (by omega) hkey
    have htz := tagOf_size B key n
    obtain ⟨T, hT⟩ : ∃ T, T = tagOf B key n := ⟨_, rfl⟩
    rw [← hT] at htz HT ⊢
    clear hT
    have m1 := me_wb
    go_enter Try.func29, Try.ntmps29
    go_wp2_with (first | (go_at_call 50; refine (letterOf_word_yes f m y nx mk _ h).mono ?_; rintro e w1 ⟨rfl, hb1⟩) | (go_at_call 36; refine (isSeal_any _ _ _).mono ?_; rintro e w' ⟨rfl, rfl⟩) | (go_at_call 83; refine (HB.out _).mono ?_; rintro e w2 ⟨rfl, hb2⟩) | (go_at_call 10; refine (HT.out _).mono ?_; rintro e w3 ⟨rfl, hb3⟩))
    go_ret
    exact ⟨rfl, ((below_box hb1).trans (hb2.mono (below_box hb1).size)).trans (hb3.mono (Nat.le_trans (below_box hb1).size hb2.size))⟩
theorem implForm_data (f m y sq : Int) (l : Bool) (p key : ByteArray) (n : Int) (w : World) (hkey : key.size ≤ 1048576) (h : dataOk f m y sq p.size = true) :
    Calls Try.prog 29 #[.agg #[.int .i64 2, .int .i64 f, .int .i64 m, .int .i64 y, .int .i64 0, .int .i64 0, .int .i64 sq, .bool l, .string p], .string key, .int .i64 n] w fun e w' => e = .returned (.string (formStr 2 f m y 0 0 sq l p key n)) ∧ Below w.heap.size w w' := by
  have hok : pkOk 2 f m y 0 0 sq l p = true := by simp [pkOk, h]
  cases hs : sealOk key.size n
  · rw [formStr_noseal hs]
    go_enter Try.func29, Try.ntmps29
    go_wp2_with (first | (go_at_call 50; refine (letterOf_data_yes f m y sq l p _ h).mono ?_; rintro e w1 ⟨rfl, hb1⟩) | (go_at_call 36; refine (isSeal_any _ _ _).mono ?_; rintro e w' ⟨rfl, rfl⟩))
    go_ret
    exact ⟨rfl, below_box hb1⟩
  · rw [formStr_yes hok hs, bodyStr_data]
    have hbz := dataStr_size f m y sq l p
    have hpz := (dataOk_yes h).2.2
    have HB : Hid (∀ w : World, Calls Try.prog 87 #[.agg #[.int .i64 f, .int .i64 m, .int .i64 y, .int .i64 sq, .bool l, .string p]] w fun e w' => e = .returned (.string (dataStr f m y sq l p)) ∧ Below w.heap.size w w') := fun w => dataBody_any f m y sq l p w h
    obtain ⟨B, hB⟩ : ∃ B, B = dataStr f m y sq l p := ⟨_, rfl⟩
    rw [← hB] at hbz HB ⊢
    clear hB hok
    have HT : Hid (∀ w : World, Calls Try.prog 10 #[.string B, .string key, .int .i64 n] w fun e w' => e = .returned (.string (tagOf B key n)) ∧ Below w.heap.size w w') := fun w => implTag_any B key n w (by omega) hkey
    have htz := tagOf_size B key n
    obtain ⟨T, hT⟩ : ∃ T, T = tagOf B key n := ⟨_, rfl⟩
    rw [← hT] at htz HT ⊢
    clear hT
    have m1 := me_db
    go_enter Try.func29, Try.ntmps29
    go_wp2_with (first | (go_at_call 50; refine (letterOf_data_yes f m y sq l p _ h).mono ?_; rintro e w1 ⟨rfl, hb1⟩) | (go_at_call 36; refine (isSeal_any _ _ _).mono ?_; rintro e w' ⟨rfl, rfl⟩) | (go_at_call 87; refine (HB.out _).mono ?_; rintro e w2 ⟨rfl, hb2⟩) | (go_at_call 10; refine (HT.out _).mono ?_; rintro e w3 ⟨rfl, hb3⟩))
    go_ret
    exact ⟨rfl, ((below_box hb1).trans (hb2.mono (below_box hb1).size)).trans (hb3.mono (Nat.le_trans (below_box hb1).size hb2.size))⟩
theorem implForm_any (k f m y nx mk sq : Int) (l : Bool) (p key : ByteArray) (n : Int) (w : World) (hkey : key.size ≤ 1048576) :
    Calls Try.prog 29 #[.agg #[.int .i64 k, .int .i64 f, .int .i64 m, .int .i64 y, .int .i64 nx, .int .i64 mk, .int .i64 sq, .bool l, .string p], .string key, .int .i64 n] w fun e w' => e = .returned (.string (formStr k f m y nx mk sq l p key n)) ∧ Below w.heap.size w w' := by
  cases h : pkOk k f m y nx mk sq l p
  · rw [formStr_nopk h]
    exact implForm_no k f m y nx mk sq l p key n w h
  · by_cases h1 : k = 1
    · subst h1
      obtain ⟨hw, rfl, rfl, rfl⟩ := pkOk_word h
      exact implForm_word f m y nx mk key n w hkey hw
    · by_cases h2 : k = 2
      · subst h2
        obtain ⟨hw, rfl, rfl⟩ := pkOk_data h
        exact implForm_data f m y sq l p key n w hkey hw
      · rw [pkOk_other h1 h2] at h; cases h
end Go.Proofs.Ytdmlhfbnhhafmaa.tag

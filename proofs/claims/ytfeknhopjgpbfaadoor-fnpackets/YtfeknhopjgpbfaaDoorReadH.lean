/-
  READING BACK: a packet's form tells the packet.
-/
import Derived.Test.YtfeknhopjgpbfaaDoorReadF
namespace Go.Proofs.YtfeknhopjgpbfaaDoor.tag
open Go.RowKit
set_option linter.unusedVariables false

theorem rd_num (n : Nat) : ∀ (x : Int), 0 ≤ x → x < 256 ^ n → rd (numBytes x n) = x := by
  induction n with
  | zero =>
    intro x h0 h1
    have : x < 1 := h1
    have e : x = 0 := by omega
    rw [e]; rfl
  | succ n ih =>
    intro x h0 h1
    have hp : (0 : Int) < 256 ^ n := Int.pow_pos (by omega)
    have hx : x = x / 256 ^ n * 256 ^ n + x % 256 ^ n := by rw [Int.mul_comm]; exact (Int.mul_ediv_add_emod x (256 ^ n)).symm
    have hr0 := Int.emod_nonneg x (Int.ne_of_gt hp)
    have hr1 := Int.emod_lt_of_pos x hp
    have hq0 : 0 ≤ x / 256 ^ n := Int.ediv_nonneg h0 (Int.le_of_lt hp)
    have hq1 : x / 256 ^ n < 256 := Int.ediv_lt_of_lt_mul hp (by rw [Int.pow_succ, Int.mul_comm] at h1; exact h1)
    have e1 : numBytes x n = numBytes (x % 256 ^ n) n := by
      conv => lhs; rw [hx]
      exact numBytes_add _ _ _ _ (Nat.le_refl _)
    rw [numBytes, rd_cons, e1, numBytes_length, ih _ hr0 hr1]
    have e2 : ((byteAt x n).toNat : Int) = x / 256 ^ n := by
      unfold byteAt shr8
      have e : (UInt8.ofNat (x / 256 ^ n % 256).toNat).toNat = (x / 256 ^ n % 256).toNat % 256 := UInt8.toNat_ofNat'
      rw [e]
      omega
    rw [e2]
    exact hx.symm
theorem num_inj {x y : Int} {n : Nat} (hx : 0 ≤ x ∧ x < 256 ^ n) (hy : 0 ≤ y ∧ y < 256 ^ n) (h : numStr x n = numStr y n) : x = y := by
  have e : numBytes x n = numBytes y n := by
    have := congrArg (fun z => z.data.toList) h
    simpa [numStr] using this
  rw [← rd_num n x hx.1 hx.2, e, rd_num n y hy.1 hy.2]
theorem ba_inj {a b c d : ByteArray} (h : a ++ b = c ++ d) (hs : a.size = c.size) : a = c ∧ b = d := by
  have e := congrArg (fun z => z.data.toList) h
  simp only [ByteArray.data_append, Array.toList_append] at e
  have hl : a.data.toList.length = c.data.toList.length := by rw [Array.length_toList, Array.length_toList]; exact hs
  obtain ⟨e1, e2⟩ := List.append_inj e hl
  exact ⟨ByteArray.ext (Array.toList_inj.1 e1), ByteArray.ext (Array.toList_inj.1 e2)⟩
theorem body_inj {k f m y e g k' f' m' y' e' g' : Int} {p p' : ByteArray} (h : headStr k f m y ++ numStr e 4 ++ numStr g 1 ++ p = headStr k' f' m' y' ++ numStr e' 4 ++ numStr g' 1 ++ p')
    (a0 : 0 ≤ k ∧ k < 256) (a1 : 0 ≤ f ∧ f < 256) (a2 : 0 ≤ m ∧ m < 65536) (a3 : 0 ≤ y ∧ y < 65536) (a4 : 0 ≤ e ∧ e < 4294967296) (a5 : 0 ≤ g ∧ g < 256)
    (b0 : 0 ≤ k' ∧ k' < 256) (b1 : 0 ≤ f' ∧ f' < 256) (b2 : 0 ≤ m' ∧ m' < 65536) (b3 : 0 ≤ y' ∧ y' < 65536) (b4 : 0 ≤ e' ∧ e' < 4294967296) (b5 : 0 ≤ g' ∧ g' < 256) :
    k = k' ∧ f = f' ∧ m = m' ∧ y = y' ∧ e = e' ∧ g = g' ∧ p = p' := by
  obtain ⟨h, hp⟩ := ba_inj h (by simp [ByteArray.size_append, headStr_size, numStr_size])
  obtain ⟨h, hg⟩ := ba_inj h (by simp [ByteArray.size_append, headStr_size, numStr_size])
  obtain ⟨h, he⟩ := ba_inj h (by simp [headStr_size])
  unfold headStr at h
  obtain ⟨h, hy⟩ := ba_inj h (by simp [ByteArray.size_append, numStr_size])
  obtain ⟨h, hm⟩ := ba_inj h (by simp [ByteArray.size_append, numStr_size])
  obtain ⟨hk, hf⟩ := ba_inj h (by simp [numStr_size])
  exact ⟨num_inj (by simpa using a0) (by simpa using b0) hk, num_inj (by simpa using a1) (by simpa using b1) hf, num_inj (by simpa using a2) (by simpa using b2) hm, num_inj (by simpa using a3) (by simpa using b3) hy, num_inj (by simpa using a4) (by simpa using b4) he, num_inj (by simpa using a5) (by simpa using b5) hg, hp⟩
theorem rdx_lt (b : ByteArray) (i j m : Nat) (h : j - i = m) (hj : j ≤ b.size) : 0 ≤ rdx b i j ∧ rdx b i j < 256 ^ m := by
  have := rd_bd (b.extract i j).data.toList
  have e : (b.extract i j).data.toList.length = m := by rw [Array.length_toList]; show (b.extract i j).size = m; rw [ByteArray.size_extract]; omega
  rw [e] at this
  exact this
theorem bt_lt (b : ByteArray) (i : Nat) : 0 ≤ ((bt b i).toNat : Int) ∧ ((bt b i).toNat : Int) < 256 := by have := (bt b i).toNat_lt; omega
theorem vals {k f m y e g : Int} {p b : ByteArray} (hb : headStr k f m y ++ numStr e 4 ++ numStr g 1 ++ p = b) (a0 : 0 ≤ k ∧ k < 256) (a1 : 0 ≤ f ∧ f < 256) (a2 : 0 ≤ m ∧ m < 65536) (a3 : 0 ≤ y ∧ y < 65536) (a4 : 0 ≤ e ∧ e < 4294967296) (a5 : 0 ≤ g ∧ g < 256) :
    ((bt b 0).toNat : Int) = k ∧ ((bt b 1).toNat : Int) = f ∧ rdx b 2 4 = m ∧ rdx b 4 6 = y ∧ rdx b 6 10 = e ∧ ((bt b 10).toNat : Int) = g ∧ b.extract 11 b.size = p ∧ b.size = 11 + p.size := by
  have hz : b.size = 11 + p.size := by rw [← hb]; simp [ByteArray.size_append, headStr_size, numStr_size]
  have h2 := rdx_lt b 2 4 2 rfl (by omega)
  have h3 := rdx_lt b 4 6 2 rfl (by omega)
  have h4 := rdx_lt b 6 10 4 rfl (by omega)
  obtain ⟨c0, c1, c2, c3, c4, c5, c6⟩ := body_inj ((again b (by omega)).trans hb.symm) (bt_lt b 0) (bt_lt b 1) (by simpa using h2) (by simpa using h3) (by simpa using h4) (bt_lt b 10) a0 a1 a2 a3 a4 a5
  exact ⟨c0, c1, c2, c3, c4, c5, c6, hz⟩
theorem form_split {K F M Y NX MK SQ : Int} {LL : Bool} {P key s : ByteArray} {n : Int} (hp : pkOk K F M Y NX MK SQ LL P = true) (hse : sealOk key.size n = true) (hEq : formStr K F M Y NX MK SQ LL P key n = s) :
    n.toNat ≤ s.size ∧ s.extract 0 n.toNat = tagOf (s.extract n.toNat s.size) key n ∧ s.extract n.toNat s.size = bodyStr K F M Y NX MK SQ LL P ∧ s.size = n.toNat + (bodyStr K F M Y NX MK SQ LL P).size := by
  rw [formStr_yes hp hse] at hEq
  have hT := tag_exact (bodyStr K F M Y NX MK SQ LL P) key n hse
  have hz : s.size = n.toNat + (bodyStr K F M Y NX MK SQ LL P).size := by rw [← hEq, ByteArray.size_append, hT]
  obtain ⟨h1, h2⟩ := (split_iff _ _ s n.toNat hT (by omega)).1 hEq
  exact ⟨by omega, by rw [← h2]; exact h1.symm, h2.symm, hz⟩
theorem body_big {K F M Y NX MK SQ : Int} {LL : Bool} {P : ByteArray} (hp : pkOk K F M Y NX MK SQ LL P = true) : 11 ≤ (bodyStr K F M Y NX MK SQ LL P).size := by
  by_cases h1 : K = 1
  · subst h1; rw [bodyStr_word, wordStr_size]; exact Nat.le_refl _
  · by_cases h2 : K = 2
    · subst h2; rw [bodyStr_data, dataStr_size]; omega
    · rw [pkOk_other h1 h2] at hp; cases hp
theorem form_short {K F M Y NX MK SQ : Int} {LL : Bool} {P key s : ByteArray} {n : Int} (hp : pkOk K F M Y NX MK SQ LL P = true) (hse : sealOk key.size n = true) (hEq : formStr K F M Y NX MK SQ LL P key n = s) (hE : ¬ (1 ≤ n ∧ n ≤ 8) ∨ (s.size : Int) < n + 11) : False := by
  have h1 := sealOk_yes hse
  have h2 := form_split hp hse hEq
  have h3 := body_big hp
  omega
theorem tell_kind {K F M Y NX MK SQ : Int} {LL : Bool} {P b : ByteArray} (hp : pkOk K F M Y NX MK SQ LL P = true) (hb : b = bodyStr K F M Y NX MK SQ LL P) : (K = 1 ∧ isWord b) ∨ (K = 2 ∧ isData b) := by
  by_cases h1 : K = 1
  · subst h1
    left
    obtain ⟨hw, -, -, -⟩ := pkOk_word hp
    have hr := wordOk_yes hw
    have hb2 : headStr 1 F M Y ++ numStr NX 4 ++ numStr MK 1 ++ ⟨#[]⟩ = b := by rw [hb, bodyStr_word]; unfold wordStr; exact ByteArray.append_empty
    obtain ⟨c0, c1, c2, c3, c4, c5, c6, c7⟩ := vals hb2 (by omega) (by omega) (by omega) (by omega) (by omega) (by omega)
    refine ⟨rfl, c7, by omega, ?_⟩
    rw [c1, c2, c3, c4, c5]
    exact hw
  · by_cases h2 : K = 2
    · subst h2
      right
      obtain ⟨hw, -, -⟩ := pkOk_data hp
      have hr := dataOk_yes hw
      have hb2 : headStr 2 F M Y ++ numStr SQ 4 ++ numStr (if LL then 1 else 0) 1 ++ P = b := by rw [hb, bodyStr_data]; rfl
      obtain ⟨c0, c1, c2, c3, c4, c5, c6, c7⟩ := vals hb2 (by omega) (by omega) (by omega) (by omega) (by omega) (by split <;> omega)
      refine ⟨rfl, by omega, by omega, by rw [c5]; split <;> omega, ?_⟩
      rw [c1, c2, c3, c4, c6]
      exact hw
    · rw [pkOk_other h1 h2] at hp; cases hp
theorem tell_word {K F M Y NX MK SQ : Int} {LL : Bool} {P key s b : ByteArray} {n : Int} (hp : pkOk K F M Y NX MK SQ LL P = true) (hse : sealOk key.size n = true) (hEq : formStr K F M Y NX MK SQ LL P key n = s) (h1 : 1 ≤ n) (hb : s.extract n.toNat s.size = b) (h0 : (bt b 0).toNat = 1) :
    sealOk key.size n = true ∧ s.extract 0 n.toNat = tagOf b key n ∧ isWord b := by
  obtain ⟨-, h2, h3, -⟩ := form_split hp hse hEq
  rw [hb] at h2 h3
  rcases tell_kind hp h3 with ⟨-, q⟩ | ⟨-, q⟩
  · exact ⟨hse, h2, q⟩
  · have := q.2.1; omega
theorem tell_data {K F M Y NX MK SQ : Int} {LL : Bool} {P key s b : ByteArray} {n : Int} (hp : pkOk K F M Y NX MK SQ LL P = true) (hse : sealOk key.size n = true) (hEq : formStr K F M Y NX MK SQ LL P key n = s) (h1 : 1 ≤ n) (hb : s.extract n.toNat s.size = b) (h0 : ¬ (bt b 0).toNat = 1) :
    sealOk key.size n = true ∧ s.extract 0 n.toNat = tagOf b key n ∧ isData b := by
  obtain ⟨-, h2, h3, -⟩ := form_split hp hse hEq
  rw [hb] at h2 h3
  rcases tell_kind hp h3 with ⟨-, q⟩ | ⟨-, q⟩
  · exact absurd q.2.1 h0
  · exact ⟨hse, h2, q⟩
theorem form_inj {K F M Y NX MK SQ k f m y nx mk sq : Int} {LL l : Bool} {P p key : ByteArray} {n : Int} (hp : pkOk K F M Y NX MK SQ LL P = true) (hq : pkOk k f m y nx mk sq l p = true) (hse : sealOk key.size n = true) (h : formStr K F M Y NX MK SQ LL P key n = formStr k f m y nx mk sq l p key n) :
    K = k ∧ F = f ∧ M = m ∧ Y = y ∧ NX = nx ∧ MK = mk ∧ SQ = sq ∧ LL = l ∧ P = p := by
  obtain ⟨-, -, h1, -⟩ := form_split hp hse h
  obtain ⟨-, -, h2, -⟩ := form_split hq hse rfl
  have hb := h1.symm.trans h2
  rcases tell_kind hp rfl with ⟨rfl, q1⟩ | ⟨rfl, q1⟩ <;> rcases tell_kind hq rfl with ⟨rfl, q2⟩ | ⟨rfl, q2⟩
  · obtain ⟨w1, s1, l1, p1⟩ := pkOk_word hp
    obtain ⟨w2, s2, l2, p2⟩ := pkOk_word hq
    have r1 := wordOk_yes w1
    have r2 := wordOk_yes w2
    have e : headStr 1 F M Y ++ numStr NX 4 ++ numStr MK 1 ++ ⟨#[]⟩ = headStr 1 f m y ++ numStr nx 4 ++ numStr mk 1 ++ ⟨#[]⟩ := by
      have e1 : wordStr F M Y NX MK = wordStr f m y nx mk := hb
      unfold wordStr at e1
      rw [e1]
    obtain ⟨c0, c1, c2, c3, c4, c5, c6⟩ := body_inj e (by omega) (by omega) (by omega) (by omega) (by omega) (by omega) (by omega) (by omega) (by omega) (by omega) (by omega) (by omega)
    exact ⟨rfl, c1, c2, c3, c4, c5, s1.trans s2.symm, l1.trans l2.symm, p1.trans p2.symm⟩
  · have := q1.2.1; have := q2.2.1; rw [hb] at q1; have := q1.2.1; omega
  · have := q2.2.1; rw [← hb] at q2; have := q2.2.1; have := q1.2.1; omega
  · obtain ⟨w1, n1, m1⟩ := pkOk_data hp
    obtain ⟨w2, n2, m2⟩ := pkOk_data hq
    have r1 := dataOk_yes w1
    have r2 := dataOk_yes w2
    have e : headStr 2 F M Y ++ numStr SQ 4 ++ numStr (if LL then 1 else 0) 1 ++ P = headStr 2 f m y ++ numStr sq 4 ++ numStr (if l then 1 else 0) 1 ++ p := hb
    obtain ⟨c0, c1, c2, c3, c4, c5, c6⟩ := body_inj e (by omega) (by omega) (by omega) (by omega) (by omega) (by split <;> omega) (by omega) (by omega) (by omega) (by omega) (by omega) (by split <;> omega)
    refine ⟨rfl, c1, c2, c3, n1.trans n2.symm, m1.trans m2.symm, c4, ?_, c6⟩
    cases LL <;> cases l <;> simp at c5 ⊢
theorem read2 (s key : ByteArray) (n : Int) (hs : s.size ≤ 1048576) (hk : key.size ≤ 1048576) : ∃ (k f m y nx mk sq : Int) (l : Bool) (p : ByteArray) (ok : Bool), (∀ w, Calls Tryd.prog 8 #[.string s, .string key, .int .i64 n] w fun e w' => e = .returned (.tuple #[.agg #[.int .i64 k, .int .i64 f, .int .i64 m, .int .i64 y, .int .i64 nx, .int .i64 mk, .int .i64 sq, .bool l, .string p], .bool ok]) ∧ Below w.heap.size w w') ∧ (∀ w, Gl w → Calls Tryd.prog 7 #[.string s, .string key, .int .i64 n] w fun e w' => e = .returned (.tuple #[.agg #[.int .i64 k, .int .i64 f, .int .i64 m, .int .i64 y, .int .i64 nx, .int .i64 mk, .int .i64 sq, .bool l, .string p], .bool ok]) ∧ Below w.heap.size w w') ∧ (ok = true → formStr k f m y nx mk sq l p key n = s) ∧ (ok = false → ∀ (K F M Y NX MK SQ : Int) (LL : Bool) (P : ByteArray), pkOk K F M Y NX MK SQ LL P = true → sealOk key.size n = true → formStr K F M Y NX MK SQ LL P key n ≠ s) := by
  by_cases hE : ¬ (1 ≤ n ∧ n ≤ 8) ∨ (s.size : Int) < n + 11
  · refine ⟨0, 0, 0, 0, 0, 0, 0, false, ⟨#[]⟩, false, fun w => specRead_early s key n w hE, fun w hG => implRead_none s key n w hG hs hk ?_, (fun h => by cases h), fun _ => fun K F M Y NX MK SQ LL P hp hse hEq => form_short hp hse hEq hE⟩
    rintro ⟨h1, h2, _, h4⟩
    have hse := sealOk_yes h1
    have hz : (s.extract n.toNat s.size).size < 11 := by rw [ByteArray.size_extract]; omega
    rcases h4 with h4 | h4
    · have := h4.1; omega
    · have := h4.1; omega
  · obtain ⟨b, hb⟩ : ∃ b, s.extract n.toNat s.size = b := ⟨_, rfl⟩
    have hbz : b.size = s.size - n.toNat := by rw [← hb, ByteArray.size_extract]; omega
    by_cases h0 : (bt b 0).toNat = 1
    · have hiff := formWord_iff s key b n (by omega) (by omega) hb h0
      have HS : ∀ q, ((formStr 1 (bt b 1).toNat (rdx b 2 4) (rdx b 4 6) (rdx b 6 10) (bt b 10).toNat 0 false ⟨#[]⟩ key n).toList == s.toList) = q → ∀ w, _ := fun q hq w => specRead_word s key b _ (bt b 0) (bt b 1) (bt b 10) n q w hs hk (by omega) (by omega) (by omega) hb (by omega) (by omega) (bt_get b 0 (by omega)) (bt_get b 1 (by omega)) (bt_get b 10 (by omega)) (by omega) rfl hq
      by_cases hF : formStr 1 (bt b 1).toNat (rdx b 2 4) (rdx b 4 6) (rdx b 6 10) (bt b 10).toNat 0 false ⟨#[]⟩ key n = s
      · obtain ⟨h1, h2, h3⟩ := hiff.1 hF
        refine ⟨1, (bt b 1).toNat, rdx b 2 4, rdx b 4 6, rdx b 6 10, (bt b 10).toNat, 0, false, ⟨#[]⟩, true, fun w => ?_, fun w hG => ?_, (fun _ => hF), (fun h => by cases h)⟩
        · refine (HS true (by rw [beq_list_eq]; exact decide_eq_true hF) w).mono fun e w' hh => ?_
          obtain ⟨hh | hh, hbel⟩ := hh
          · exact ⟨hh.2, hbel⟩
          · exact absurd hh.1 (by decide)
        · exact implRead_word s key _ _ _ _ _ n w (fun W hW => readForm_ok s key b _ n W (hG.mono hW) hk (by omega) h1 (by omega) hb rfl _ (by rw [beq_list_eq]; exact decide_eq_true h2) (fun W' hW' => readBody_isWord b W' ((hG.mono hW).mono hW') h3))
      · refine ⟨0, 0, 0, 0, 0, 0, 0, false, ⟨#[]⟩, false, fun w => ?_, fun w hG => ?_, (fun h => by cases h), fun _ => fun K F M Y NX MK SQ LL P hp hse hEq => hF (hiff.2 (tell_word hp hse hEq (by omega) hb h0))⟩
        · refine (HS false (by rw [beq_list_eq]; exact decide_eq_false hF) w).mono fun e w' hh => ?_
          obtain ⟨hh | hh, hbel⟩ := hh
          · exact absurd hh.1 (by decide)
          · exact ⟨hh.2, hbel⟩
        · refine implRead_none s key n w hG hs hk ?_
          rintro ⟨h1, _, h3, h4⟩
          rw [hb] at h3 h4
          refine hF (hiff.2 ⟨h1, h3, ?_⟩)
          rcases h4 with h4 | h4
          · exact h4
          · have := h4.2.1; omega
    · have hiff := formData_iff s key b n (by omega) (by omega) hb (by omega) h0
      have HS : ∀ q, ((formStr (bt b 0).toNat (bt b 1).toNat (rdx b 2 4) (rdx b 4 6) 0 0 (rdx b 6 10) (((bt b 10).toNat : Int) == 1) (b.extract 11 b.size) key n).toList == s.toList) = q → ∀ w, _ := fun q hq w => specRead_other s key b _ (bt b 0) (bt b 1) (bt b 10) n q w hs hk (by omega) (by omega) (by omega) hb (by omega) (by omega) (bt_get b 0 (by omega)) (bt_get b 1 (by omega)) (bt_get b 10 (by omega)) (by simp; omega) rfl hq
      by_cases hF : formStr (bt b 0).toNat (bt b 1).toNat (rdx b 2 4) (rdx b 4 6) 0 0 (rdx b 6 10) (((bt b 10).toNat : Int) == 1) (b.extract 11 b.size) key n = s
      · obtain ⟨h1, h2, h3⟩ := hiff.1 hF
        have h02 : ((bt b 0).toNat : Int) = 2 := by have := h3.2.1; omega
        refine ⟨2, (bt b 1).toNat, rdx b 2 4, rdx b 4 6, 0, 0, rdx b 6 10, (((bt b 10).toNat : Int) == 1), b.extract 11 b.size, true, fun w => ?_, fun w hG => ?_, (fun _ => by rw [h02] at hF; exact hF), (fun h => by cases h)⟩
        · refine (HS true (by rw [beq_list_eq]; exact decide_eq_true hF) w).mono fun e w' hh => ?_
          obtain ⟨hh | hh, hbel⟩ := hh
          · rw [h02] at hh; exact ⟨hh.2, hbel⟩
          · exact absurd hh.1 (by decide)
        · exact implRead_data s key _ _ _ _ _ _ n w (fun W hW => readForm_ok s key b _ n W (hG.mono hW) hk (by omega) h1 (by omega) hb rfl _ (by rw [beq_list_eq]; exact decide_eq_true h2) (fun W' hW' => readBody_isData b W' ((hG.mono hW).mono hW') (by omega) h3))
      · refine ⟨0, 0, 0, 0, 0, 0, 0, false, ⟨#[]⟩, false, fun w => ?_, fun w hG => ?_, (fun h => by cases h), fun _ => fun K F M Y NX MK SQ LL P hp hse hEq => hF (hiff.2 (tell_data hp hse hEq (by omega) hb h0))⟩
        · refine (HS false (by rw [beq_list_eq]; exact decide_eq_false hF) w).mono fun e w' hh => ?_
          obtain ⟨hh | hh, hbel⟩ := hh
          · exact absurd hh.1 (by decide)
          · exact ⟨hh.2, hbel⟩
        · refine implRead_none s key n w hG hs hk ?_
          rintro ⟨h1, _, h3, h4⟩
          rw [hb] at h3 h4
          refine hF (hiff.2 ⟨h1, h3, ?_⟩)
          rcases h4 with h4 | h4
          · exact absurd h4.2.1 h0
          · exact h4
end Go.Proofs.YtfeknhopjgpbfaaDoor.tag

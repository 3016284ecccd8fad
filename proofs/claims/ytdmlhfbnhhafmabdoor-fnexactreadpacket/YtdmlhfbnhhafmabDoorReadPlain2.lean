/-
  PLAIN MATHEMATICS for reading packets: what is written is what was read.
-/
import Derived.Test.YtdmlhfbnhhafmabDoorReadPlain
namespace Go.Proofs.YtdmlhfbnhhafmabDoor.tag
open Go.RowKit

/-- the byte at place i -/
def bt (b : ByteArray) (i : Nat) : UInt8 := b.data.toList.getD i 0
theorem bt_get (b : ByteArray) (i : Nat) (h : i < b.size) : b[i] = bt b i := by
  unfold bt
  have h' : i < b.data.toList.length := by rw [Array.length_toList]; exact h
  have e : b.data.toList[i]? = some b[i] := by
    rw [List.getElem?_eq_getElem h']; rfl
  simp only [List.getD, e, Option.getD_some]
theorem eleven (b : ByteArray) (h : 11 ≤ b.size) : ∃ c0 c1 c2 c3 c4 c5 c6 c7 c8 c9 c10 r, b = ⟨(c0 :: c1 :: c2 :: c3 :: c4 :: c5 :: c6 :: c7 :: c8 :: c9 :: c10 :: r).toArray⟩ := by
  obtain ⟨⟨l⟩⟩ := b
  have hl : 11 ≤ l.length := h
  match l, hl with
  | c0 :: c1 :: c2 :: c3 :: c4 :: c5 :: c6 :: c7 :: c8 :: c9 :: c10 :: r, _ => exact ⟨c0, c1, c2, c3, c4, c5, c6, c7, c8, c9, c10, r, rfl⟩
theorem ba_append (x y : List UInt8) : (ByteArray.mk x.toArray) ++ (ByteArray.mk y.toArray) = ByteArray.mk (x ++ y).toArray := ByteArray.mk_append_mk x y
/-- what was read, written again -/
theorem again (b : ByteArray) (h : 11 ≤ b.size) :
    headStr (bt b 0).toNat (bt b 1).toNat (rdx b 2 4) (rdx b 4 6) ++ numStr (rdx b 6 10) 4 ++ numStr (bt b 10).toNat 1 ++ b.extract 11 b.size = b := by
  obtain ⟨c0, c1, c2, c3, c4, c5, c6, c7, c8, c9, c10, r, rfl⟩ := eleven b h
  have e1 : rdx ⟨(c0 :: c1 :: c2 :: c3 :: c4 :: c5 :: c6 :: c7 :: c8 :: c9 :: c10 :: r).toArray⟩ 2 4 = rd [c2, c3] := by unfold rdx; congr 1
  have e2 : rdx ⟨(c0 :: c1 :: c2 :: c3 :: c4 :: c5 :: c6 :: c7 :: c8 :: c9 :: c10 :: r).toArray⟩ 4 6 = rd [c4, c5] := by unfold rdx; congr 1
  have e3 : rdx ⟨(c0 :: c1 :: c2 :: c3 :: c4 :: c5 :: c6 :: c7 :: c8 :: c9 :: c10 :: r).toArray⟩ 6 10 = rd [c6, c7, c8, c9] := by unfold rdx; congr 1
  rw [e1, e2, e3]
  unfold headStr
  rw [numStr_rd [c2, c3] 2 rfl, numStr_rd [c4, c5] 2 rfl, numStr_rd [c6, c7, c8, c9] 4 rfl, numStr_one, numStr_one, numStr_one]
  apply ByteArray.ext
  simp [ByteArray.data_append, ByteArray.data_extract, bt]
  exact List.take_of_length_le (by show r.length ≤ r.length + 11 - 11; omega)
theorem wordB (b : ByteArray) (h : b.size = 11) (h0 : (bt b 0).toNat = 1) : wordStr (bt b 1).toNat (rdx b 2 4) (rdx b 4 6) (rdx b 6 10) (bt b 10).toNat = b := by
  have e := again b (by omega)
  have hz : b.extract 11 b.size = ByteArray.empty := by
    apply ByteArray.ext
    rw [ByteArray.data_extract]
    apply Array.eq_empty_of_size_eq_zero
    rw [Array.size_extract]
    have : b.data.size = 11 := h
    omega
  rw [hz, ByteArray.append_empty, h0] at e
  exact e
theorem mark01 (c : UInt8) (h : (c.toNat : Int) ≤ 1) : (if ((c.toNat : Int) == 1) = true then (1 : Int) else 0) = c.toNat := by
  by_cases e : (c.toNat : Int) = 1
  · simp [e]
  · simp [e]; omega
theorem dataB (b : ByteArray) (h : 11 ≤ b.size) (h0 : (bt b 0).toNat = 2) (h10 : ((bt b 10).toNat : Int) ≤ 1) : dataStr (bt b 1).toNat (rdx b 2 4) (rdx b 4 6) (rdx b 6 10) (((bt b 10).toNat : Int) == 1) (b.extract 11 b.size) = b := by
  have e := again b h
  rw [h0] at e
  unfold dataStr
  rw [mark01 _ h10]
  exact e
theorem bt_mid (x y z : ByteArray) (i : Nat) (hx : x.size = i) (hy : y.size = 1) : bt (x ++ y ++ z) i = bt y 0 := by
  unfold bt
  have hxl : x.data.toList.length = i := by rw [Array.length_toList]; exact hx
  have hyl : y.data.toList.length = 1 := by rw [Array.length_toList]; exact hy
  simp only [ByteArray.data_append, Array.toList_append, List.getD, List.append_assoc]
  rw [List.getElem?_append_right (by omega), List.getElem?_append_left (by omega), hxl, Nat.sub_self]
theorem dataMark (f m y sq : Int) (q : Bool) (p : ByteArray) : ((bt (dataStr f m y sq q p) 10).toNat : Int) ≤ 1 := by
  unfold dataStr
  rw [bt_mid _ _ _ 10 (by rw [ByteArray.size_append, headStr_size, numStr_size]) (numStr_size _ _)]
  cases q
  · decide
  · decide
theorem split_iff (T B s : ByteArray) (n : Nat) (hT : T.size = n) (hn : n ≤ s.size) : T ++ B = s ↔ T = s.extract 0 n ∧ B = s.extract n s.size := by
  constructor
  · rintro rfl
    subst hT
    constructor
    · apply ByteArray.ext; simp [ByteArray.data_extract, ByteArray.data_append]
      have e : T.size = T.data.size := rfl
      rw [e, Array.extract_size]
    · apply ByteArray.ext; simp [ByteArray.data_extract, ByteArray.data_append]
      have e : T.size = T.data.size := rfl
      have e2 : B.size = B.data.size := rfl
      rw [e2, Array.extract_size, Array.extract_empty_of_size_le_start (by rw [e]; exact Nat.le_refl _), Array.empty_append]
  · rintro ⟨rfl, rfl⟩
    apply ByteArray.ext
    simp
/-- a word was read: the body is the word's -/
def isWord (b : ByteArray) : Prop := b.size = 11 ∧ (bt b 0).toNat = 1 ∧ wordOk (bt b 1).toNat (rdx b 2 4) (rdx b 4 6) (rdx b 6 10) (bt b 10).toNat = true
def isData (b : ByteArray) : Prop := 11 ≤ b.size ∧ (bt b 0).toNat = 2 ∧ ((bt b 10).toNat : Int) ≤ 1 ∧ dataOk (bt b 1).toNat (rdx b 2 4) (rdx b 4 6) (rdx b 6 10) (b.extract 11 b.size).size = true
theorem tag_exact (body key : ByteArray) (n : Int) (h : sealOk key.size n = true) : (tagOf body key n).size = n.toNat := by rw [tagOf_yes h, numStr_size]
theorem emp_ne {s : ByteArray} {n : Int} (h1 : 1 ≤ n) (h3 : n + 11 ≤ s.size) : ¬ (⟨#[]⟩ : ByteArray) = s := by
  rintro rfl
  have : ((⟨#[]⟩ : ByteArray).size : Int) = 0 := rfl
  omega
theorem formWord_iff (s key b : ByteArray) (n : Int) (h1 : 1 ≤ n) (h3 : n + 11 ≤ s.size) (hb : s.extract n.toNat s.size = b) (h0 : (bt b 0).toNat = 1) :
    formStr 1 (bt b 1).toNat (rdx b 2 4) (rdx b 4 6) (rdx b 6 10) (bt b 10).toNat 0 false ⟨#[]⟩ key n = s ↔ sealOk key.size n = true ∧ s.extract 0 n.toNat = tagOf b key n ∧ isWord b := by
  constructor
  · intro hF
    cases hs : sealOk key.size n
    · rw [formStr_noseal hs] at hF; exact absurd hF (emp_ne h1 h3)
    · cases hp : pkOk 1 (bt b 1).toNat (rdx b 2 4) (rdx b 4 6) (rdx b 6 10) (bt b 10).toNat 0 false ⟨#[]⟩
      · rw [formStr_nopk hp] at hF; exact absurd hF (emp_ne h1 h3)
      · rw [formStr_yes hp hs, bodyStr_word, split_iff _ _ _ n.toNat (tag_exact _ _ _ hs) (by omega), hb] at hF
        obtain ⟨hT, hB⟩ := hF
        refine ⟨rfl, ?_, ?_, h0, (pkOk_word hp).1⟩
        · rw [← hT, hB]
        · rw [← hB, wordStr_size]
  · rintro ⟨hs, hT, hz, _, hw⟩
    have hp : pkOk 1 (bt b 1).toNat (rdx b 2 4) (rdx b 4 6) (rdx b 6 10) (bt b 10).toNat 0 false ⟨#[]⟩ = true := by simp [pkOk, hw]; rfl
    rw [formStr_yes hp hs, bodyStr_word, wordB b hz h0, split_iff _ _ _ n.toNat (tag_exact _ _ _ hs) (by omega)]
    exact ⟨hT.symm, hb.symm⟩
theorem formData_iff (s key b : ByteArray) (n : Int) (h1 : 1 ≤ n) (h3 : n + 11 ≤ s.size) (hb : s.extract n.toNat s.size = b) (hbz : 11 ≤ b.size) (h0 : ¬ (bt b 0).toNat = 1) :
    formStr (bt b 0).toNat (bt b 1).toNat (rdx b 2 4) (rdx b 4 6) 0 0 (rdx b 6 10) (((bt b 10).toNat : Int) == 1) (b.extract 11 b.size) key n = s ↔ sealOk key.size n = true ∧ s.extract 0 n.toNat = tagOf b key n ∧ isData b := by
  constructor
  · intro hF
    cases hs : sealOk key.size n
    · rw [formStr_noseal hs] at hF; exact absurd hF (emp_ne h1 h3)
    · cases hp : pkOk (bt b 0).toNat (bt b 1).toNat (rdx b 2 4) (rdx b 4 6) 0 0 (rdx b 6 10) (((bt b 10).toNat : Int) == 1) (b.extract 11 b.size)
      · rw [formStr_nopk hp] at hF; exact absurd hF (emp_ne h1 h3)
      · have h2 : ((bt b 0).toNat : Int) = 2 := by
          by_cases e : ((bt b 0).toNat : Int) = 2
          · exact e
          · rw [pkOk_other (by omega) e] at hp; cases hp
        rw [h2] at hp hF
        rw [formStr_yes hp hs, bodyStr_data, split_iff _ _ _ n.toNat (tag_exact _ _ _ hs) (by omega), hb] at hF
        obtain ⟨hT, hB⟩ := hF
        refine ⟨rfl, ?_, hbz, by omega, ?_, (pkOk_data hp).1⟩
        · rw [← hT, hB]
        · have := dataMark (bt b 1).toNat (rdx b 2 4) (rdx b 4 6) (rdx b 6 10) (((bt b 10).toNat : Int) == 1) (b.extract 11 b.size)
          rw [hB] at this
          exact this
  · rintro ⟨hs, hT, hz, h2, hm, hd⟩
    have h2' : ((bt b 0).toNat : Int) = 2 := by omega
    rw [h2']
    have hp : pkOk 2 (bt b 1).toNat (rdx b 2 4) (rdx b 4 6) 0 0 (rdx b 6 10) (((bt b 10).toNat : Int) == 1) (b.extract 11 b.size) = true := by
      unfold pkOk
      rw [if_neg (by omega), if_pos rfl, hd]
      rfl
    rw [formStr_yes hp hs, bodyStr_data, dataB b hz h2 hm, split_iff _ _ _ n.toNat (tag_exact _ _ _ hs) (by omega)]
    exact ⟨hT.symm, hb.symm⟩
end Go.Proofs.YtdmlhfbnhhafmabDoor.tag

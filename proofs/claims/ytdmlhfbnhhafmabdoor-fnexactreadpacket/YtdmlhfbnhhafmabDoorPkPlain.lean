/-
  PLAIN MATHEMATICS for the packets.
-/
import Derived.Test.YtdmlhfbnhhafmabDoorBase
namespace Go.Proofs.YtdmlhfbnhhafmabDoor.tag
open Go.RowKit

def headOk (f m y : Int) : Bool := decide ((1 ≤ f ∧ f ≤ 2) ∧ (1 ≤ m ∧ m ≤ 1000) ∧ 0 ≤ y ∧ y ≤ 1000)
def wordOk (f m y nx mk : Int) : Bool := decide (((1 ≤ f ∧ f ≤ 2) ∧ (1 ≤ m ∧ m ≤ 1000) ∧ 0 ≤ y ∧ y ≤ 1000) ∧ (0 ≤ nx ∧ nx ≤ 1000000) ∧ 0 ≤ mk ∧ mk ≤ 255)
def dataOk (f m y sq : Int) (ps : Nat) : Bool := decide (((1 ≤ f ∧ f ≤ 2) ∧ (1 ≤ m ∧ m ≤ 1000) ∧ 0 ≤ y ∧ y ≤ 1000) ∧ (0 ≤ sq ∧ sq ≤ 999999) ∧ ps ≤ 20)
/-- a packet is valid -/
def pkOk (k f m y nx mk sq : Int) (l : Bool) (p : ByteArray) : Bool :=
  if k = 1 then wordOk f m y nx mk && decide (sq = 0 ∧ l = false ∧ p.size = 0)
  else if k = 2 then dataOk f m y sq p.size && decide (nx = 0 ∧ mk = 0) else false
theorem headOk_yes {f m y : Int} (h : headOk f m y = true) : (1 ≤ f ∧ f ≤ 2) ∧ (1 ≤ m ∧ m ≤ 1000) ∧ 0 ≤ y ∧ y ≤ 1000 := of_decide_eq_true h
theorem headOk_mk {f m y : Int} (h : (1 ≤ f ∧ f ≤ 2) ∧ (1 ≤ m ∧ m ≤ 1000) ∧ 0 ≤ y ∧ y ≤ 1000) : headOk f m y = true := decide_eq_true h
theorem headOk_no {f m y : Int} (h : ¬ ((1 ≤ f ∧ f ≤ 2) ∧ (1 ≤ m ∧ m ≤ 1000) ∧ 0 ≤ y ∧ y ≤ 1000)) : headOk f m y = false := decide_eq_false h
theorem wordOk_yes {f m y nx mk : Int} (h : wordOk f m y nx mk = true) : ((1 ≤ f ∧ f ≤ 2) ∧ (1 ≤ m ∧ m ≤ 1000) ∧ 0 ≤ y ∧ y ≤ 1000) ∧ (0 ≤ nx ∧ nx ≤ 1000000) ∧ 0 ≤ mk ∧ mk ≤ 255 := of_decide_eq_true h
theorem wordOk_mk {f m y nx mk : Int} (h1 : (1 ≤ f ∧ f ≤ 2) ∧ (1 ≤ m ∧ m ≤ 1000) ∧ 0 ≤ y ∧ y ≤ 1000) (h2 : 0 ≤ nx ∧ nx ≤ 1000000) (h3 : 0 ≤ mk ∧ mk ≤ 255) : wordOk f m y nx mk = true := decide_eq_true ⟨h1, h2, h3⟩
theorem dataOk_mk {f m y sq : Int} {ps : Nat} (h1 : (1 ≤ f ∧ f ≤ 2) ∧ (1 ≤ m ∧ m ≤ 1000) ∧ 0 ≤ y ∧ y ≤ 1000) (h2 : 0 ≤ sq ∧ sq ≤ 999999) (h3 : ps ≤ 20) : dataOk f m y sq ps = true := decide_eq_true ⟨h1, h2, h3⟩
theorem wordOk_no {f m y nx mk : Int} (h : ¬ (((1 ≤ f ∧ f ≤ 2) ∧ (1 ≤ m ∧ m ≤ 1000) ∧ 0 ≤ y ∧ y ≤ 1000) ∧ (0 ≤ nx ∧ nx ≤ 1000000) ∧ 0 ≤ mk ∧ mk ≤ 255)) : wordOk f m y nx mk = false := decide_eq_false h
theorem dataOk_yes {f m y sq : Int} {ps : Nat} (h : dataOk f m y sq ps = true) : ((1 ≤ f ∧ f ≤ 2) ∧ (1 ≤ m ∧ m ≤ 1000) ∧ 0 ≤ y ∧ y ≤ 1000) ∧ (0 ≤ sq ∧ sq ≤ 999999) ∧ ps ≤ 20 := of_decide_eq_true h
theorem dataOk_no {f m y sq : Int} {ps : Nat} (h : ¬ (((1 ≤ f ∧ f ≤ 2) ∧ (1 ≤ m ∧ m ≤ 1000) ∧ 0 ≤ y ∧ y ≤ 1000) ∧ (0 ≤ sq ∧ sq ≤ 999999) ∧ ps ≤ 20)) : dataOk f m y sq ps = false := decide_eq_false h
theorem pkOk_other {k f m y nx mk sq : Int} {l : Bool} {p : ByteArray} (h1 : k ≠ 1) (h2 : k ≠ 2) : pkOk k f m y nx mk sq l p = false := by simp [pkOk, h1, h2]
theorem pkOk_word {f m y nx mk sq : Int} {l : Bool} {p : ByteArray} (h : pkOk 1 f m y nx mk sq l p = true) : wordOk f m y nx mk = true ∧ sq = 0 ∧ l = false ∧ p = ⟨#[]⟩ := by
  simp [pkOk] at h
  exact ⟨h.1, h.2.1, h.2.2.1, h.2.2.2.trans rfl⟩
theorem pkOk_data {f m y nx mk sq : Int} {l : Bool} {p : ByteArray} (h : pkOk 2 f m y nx mk sq l p = true) : dataOk f m y sq p.size = true ∧ nx = 0 ∧ mk = 0 := by
  simpa [pkOk] using h

theorem shr8_bd63 (v : Int) (k : Nat) (h : 0 ≤ v ∧ v ≤ 9223372036854775807) : 0 ≤ shr8 v k ∧ shr8 v k ≤ 9223372036854775807 := by
  induction k with
  | zero => rw [shr8_zero]; exact h
  | succ k ih => rw [← shr8_succ]; omega

theorem wrapu {v : Int} (h : 0 ≤ v ∧ v ≤ 9223372036854775807) : IntKind.u64.wrap v = v := by
  rw [IntKind.wrap_u64]; omega
theorem pkOk_nohead {k f m y nx mk sq : Int} {l : Bool} {p : ByteArray} (h : ¬ ((1 ≤ f ∧ f ≤ 2) ∧ (1 ≤ m ∧ m ≤ 1000) ∧ 0 ≤ y ∧ y ≤ 1000)) : pkOk k f m y nx mk sq l p = false := by
  unfold pkOk
  rw [wordOk_no (fun x => h x.1), dataOk_no (fun x => h x.1)]
  simp

/-- the text of a head, a word, data -/
def headStr (k f m y : Int) : ByteArray := numStr k 1 ++ numStr f 1 ++ numStr m 2 ++ numStr y 2
def wordStr (f m y nx mk : Int) : ByteArray := headStr 1 f m y ++ numStr nx 4 ++ numStr mk 1
def dataStr (f m y sq : Int) (l : Bool) (p : ByteArray) : ByteArray := headStr 2 f m y ++ numStr sq 4 ++ numStr (if l then 1 else 0) 1 ++ p
theorem headStr_size (k f m y : Int) : (headStr k f m y).size = 6 := by simp [headStr, ByteArray.size_append, numStr_size]
theorem wordStr_size (f m y nx mk : Int) : (wordStr f m y nx mk).size = 11 := by simp [wordStr, ByteArray.size_append, numStr_size, headStr_size]
theorem dataStr_size (f m y sq : Int) (l : Bool) (p : ByteArray) : (dataStr f m y sq l p).size = 11 + p.size := by simp [dataStr, ByteArray.size_append, numStr_size, headStr_size]
def bodyStr (k f m y nx mk sq : Int) (l : Bool) (p : ByteArray) : ByteArray := if k = 1 then wordStr f m y nx mk else dataStr f m y sq l p
/-- what FormPacket answers -/
def formStr (k f m y nx mk sq : Int) (l : Bool) (p key : ByteArray) (n : Int) : ByteArray :=
  if pkOk k f m y nx mk sq l p && sealOk key.size n then tagOf (bodyStr k f m y nx mk sq l p) key n ++ bodyStr k f m y nx mk sq l p else ⟨#[]⟩
theorem bodyStr_word (f m y nx mk sq : Int) (l : Bool) (p : ByteArray) : bodyStr 1 f m y nx mk sq l p = wordStr f m y nx mk := rfl
theorem bodyStr_data (f m y nx mk sq : Int) (l : Bool) (p : ByteArray) : bodyStr 2 f m y nx mk sq l p = dataStr f m y sq l p := rfl
theorem bodyStr_size {k f m y nx mk sq : Int} {l : Bool} {p : ByteArray} (h : pkOk k f m y nx mk sq l p = true) : (bodyStr k f m y nx mk sq l p).size ≤ 31 := by
  by_cases h1 : k = 1
  · subst h1; rw [bodyStr_word, wordStr_size]; omega
  · by_cases h2 : k = 2
    · subst h2; rw [bodyStr_data, dataStr_size]; have := (dataOk_yes (pkOk_data h).1).2.2; omega
    · rw [pkOk_other h1 h2] at h; cases h
theorem formStr_yes {k f m y nx mk sq : Int} {l : Bool} {p key : ByteArray} {n : Int} (h : pkOk k f m y nx mk sq l p = true) (hs : sealOk key.size n = true) :
    formStr k f m y nx mk sq l p key n = tagOf (bodyStr k f m y nx mk sq l p) key n ++ bodyStr k f m y nx mk sq l p := by simp [formStr, h, hs]
theorem formStr_nopk {k f m y nx mk sq : Int} {l : Bool} {p key : ByteArray} {n : Int} (h : pkOk k f m y nx mk sq l p = false) : formStr k f m y nx mk sq l p key n = ⟨#[]⟩ := by simp [formStr, h]
theorem formStr_noseal {k f m y nx mk sq : Int} {l : Bool} {p key : ByteArray} {n : Int} (h : sealOk key.size n = false) : formStr k f m y nx mk sq l p key n = ⟨#[]⟩ := by simp [formStr, h]
theorem tagOf_size (body key : ByteArray) (n : Int) : (tagOf body key n).size ≤ 8 := by
  cases h : sealOk key.size n
  · rw [tagOf_no h]; show 0 ≤ 8; omega
  · rw [tagOf_yes h, numStr_size]; have := sealOk_yes h; omega
end Go.Proofs.YtdmlhfbnhhafmabDoor.tag

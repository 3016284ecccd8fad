/-
  PLAIN MATHEMATICS for the tags: nothing of the program in sight.
-/
import Derived.WalkKit
import Derived.Laws.BytesArg
namespace Go.Proofs.Ytfjedpnagnnobaa.tag
open Go.RowKit

def sealOk (k : Nat) (n : Int) : Bool := decide (k ≤ 30) && (decide (1 ≤ n) && decide (n ≤ 8))
theorem sealOk_yes {k : Nat} {n : Int} (h : sealOk k n = true) : k ≤ 30 ∧ 1 ≤ n ∧ n ≤ 8 := by
  simpa [sealOk] using h
theorem sealOk_mk {k : Nat} {n : Int} (h : k ≤ 30 ∧ 1 ≤ n ∧ n ≤ 8) : sealOk k n = true := by
  simpa [sealOk] using h
theorem sealOk_no {k : Nat} {n : Int} (h : ¬ (k ≤ 30 ∧ 1 ≤ n ∧ n ≤ 8)) : sealOk k n = false := by
  cases e : sealOk k n
  · rfl
  · exact absurd (sealOk_yes e) h
theorem ret_bool {a b : Bool} (h : a = b) : Ending.returned (.bool a) = .returned (.bool b) := by rw [h]
theorem ret_str {a b : ByteArray} (h : a = b) : Ending.returned (.string a) = .returned (.string b) := by rw [h]
theorem ret_u64 {a b : Int} (h : a = b) : Ending.returned (.int .u64 a) = .returned (.int .u64 b) := by rw [h]

/-- one byte combined into the sum, as the walk spells it -/
def fstep (v : Int) (c : UInt8) : Int := IntKind.u64.wrap (bits BinOp.xor IntKind.u64 v (IntKind.u64.wrap (c.toNat : Int)) * 1099511628211)
def fnv (v : Int) (l : List UInt8) : Int := l.foldl fstep v
theorem fnv_nil (v : Int) : fnv v [] = v := rfl
theorem fnv_append (v : Int) (a b : List UInt8) : fnv v (a ++ b) = fnv (fnv v a) b := by simp [fnv]
theorem fnv_snoc (v : Int) (a : List UInt8) (c : UInt8) : fnv v (a ++ [c]) = fstep (fnv v a) c := by simp [fnv]
theorem fstep_bd (v : Int) (c : UInt8) : 0 ≤ fstep v c ∧ fstep v c ≤ 18446744073709551615 := by
  unfold fstep
  rw [IntKind.wrap_u64]
  omega
theorem fnv_bd (v : Int) (l : List UInt8) (h : 0 ≤ v ∧ v ≤ 18446744073709551615) : 0 ≤ fnv v l ∧ fnv v l ≤ 18446744073709551615 := by
  induction l generalizing v with
  | nil => exact h
  | cons c l ih => exact ih (fstep v c) (fstep_bd v c)
theorem take_snoc (s : ByteArray) (k : Nat) (h : k < s.size) : s.data.toList.take (k + 1) = s.data.toList.take k ++ [s[k]] := by
  rw [List.take_succ_eq_append_getElem (by simpa using h)]; rfl
theorem fnv_take (v : Int) (s : ByteArray) (k : Nat) (h : k < s.size) : fstep (fnv v (s.data.toList.take k)) s[k] = fnv v (s.data.toList.take (k + 1)) := by
  rw [take_snoc s k h, fnv_snoc]

/-- the number without its last k bytes -/
def shr8 (v : Int) (k : Nat) : Int := v / 256 ^ k
theorem shr8_zero (v : Int) : shr8 v 0 = v := by simp [shr8]
theorem shr8_succ (v : Int) (k : Nat) : shr8 v k / 256 = shr8 v (k + 1) := by
  unfold shr8
  rw [Int.ediv_ediv_of_nonneg (by exact Int.pow_nonneg (by omega)), Int.pow_succ]
theorem shr8_bd (v : Int) (k : Nat) (h : 0 ≤ v ∧ v ≤ 18446744073709551615) : 0 ≤ shr8 v k ∧ shr8 v k ≤ 18446744073709551615 := by
  induction k with
  | zero => rw [shr8_zero]; exact h
  | succ k ih => rw [← shr8_succ]; omega
def byteAt (v : Int) (j : Nat) : UInt8 := UInt8.ofNat (shr8 v j % 256).toNat
/-- the number's last k bytes, the highest first -/
def numBytes (v : Int) : Nat → List UInt8
  | 0 => []
  | k + 1 => byteAt v k :: numBytes v k
theorem numBytes_length (v : Int) (k : Nat) : (numBytes v k).length = k := by
  induction k with
  | zero => rfl
  | succ k ih => simp [numBytes, ih]
def numStr (v : Int) (k : Nat) : ByteArray := ⟨(numBytes v k).toArray⟩
theorem numStr_size (v : Int) (k : Nat) : (numStr v k).size = k := by
  show (numBytes v k).toArray.size = k
  simp [numBytes_length]
theorem numStr_zero (v : Int) : numStr v 0 = { data := #[] } := rfl
theorem numStr_succ (v : Int) (k : Nat) : strOfNums [shr8 v k % 256] ++ numStr v k = numStr v (k + 1) := by
  apply ByteArray.ext
  simp [ByteArray.data_append, numStr, strOfNums, numBytes, byteAt]

theorem strOne_size (z : Int) : (strOfNums [z]).size = 1 := by rw [strOfNums_size]; rfl
/-- the bytes as the walk's numbers -/
def nums (l : List UInt8) : List Int := l.map fun c => (c.toNat : Int)
theorem nums_length (l : List UInt8) : (nums l).length = l.length := by simp [nums]
theorem strOfNums_nums (l : List UInt8) : strOfNums (nums l) = ⟨l.toArray⟩ := by
  simp only [strOfNums, nums, List.map_map]
  congr
  refine List.map_id'' (fun c => ?_) l
  simp [Function.comp]
/-- the cells of the text of size n behind k rounds -/
def txt (v : Int) (n k : Nat) : List Int := List.replicate (n - k) 0 ++ nums (numBytes v k)
theorem txt_length (v : Int) (n k : Nat) (h : k ≤ n) : (txt v n k).length = n := by simp [txt, nums_length, numBytes_length]; omega
theorem txt_zero (v : Int) (n : Nat) : txt v n 0 = List.replicate n 0 := by simp [txt, nums, numBytes]
theorem txt_full (v : Int) (n : Nat) : txt v n n = nums (numBytes v n) := by simp [txt]
theorem txt_succ (v : Int) (n k : Nat) (h : k < n) : (txt v n k).set (n - 1 - k) (shr8 v k % 256) = txt v n (k + 1) := by
  unfold txt
  have e : n - k = (n - 1 - k) + 1 := by omega
  have e2 : n - (k + 1) = n - 1 - k := by omega
  rw [e, e2, List.replicate_succ', List.append_assoc]
  rw [List.set_append_right _ _ (by simp)]
  simp only [List.length_replicate, Nat.sub_self, List.cons_append, List.nil_append, List.set_cons_zero, numBytes, nums, List.map_cons, byteAt]
  have : ((UInt8.ofNat (shr8 v k % 256).toNat).toNat : Int) = shr8 v k % 256 := by
    simp only [UInt8.toNat_ofNat']
    omega
  rw [this]

def sum0 : Int := 14695981039346656037
theorem sum0_bd : 0 ≤ sum0 ∧ sum0 ≤ 18446744073709551615 := by unfold sum0; omega
def allOf (key body : ByteArray) : ByteArray := key ++ { data := #[0] } ++ body
theorem allOf_size (key body : ByteArray) : (allOf key body).size = key.size + 1 + body.size := by
  unfold allOf; simp [ByteArray.size_append]; rfl
def sumAll (key body : ByteArray) : Int := fnv sum0 (allOf key body).data.toList
theorem sumAll_bd (key body : ByteArray) : 0 ≤ sumAll key body ∧ sumAll key body ≤ 18446744073709551615 := fnv_bd _ _ sum0_bd
def tagOf (body key : ByteArray) (n : Int) : ByteArray := if sealOk key.size n then numStr (sumAll key body) n.toNat else { data := #[] }
theorem tagOf_yes {body key : ByteArray} {n : Int} (h : sealOk key.size n = true) : tagOf body key n = numStr (sumAll key body) n.toNat := by simp [tagOf, h]
theorem tagOf_no {body key : ByteArray} {n : Int} (h : sealOk key.size n = false) : tagOf body key n = { data := #[] } := by simp [tagOf, h]

/-- the bytes of the first j pieces -/
def flat (ss : List ByteArray) (j : Nat) : List UInt8 := (ss.take j).flatMap (·.data.toList)
theorem flat_zero (ss : List ByteArray) : flat ss 0 = [] := by simp [flat]
theorem flat_succ (ss : List ByteArray) (j : Nat) (h : j < ss.length) : flat ss (j + 1) = flat ss j ++ (ss.getD j ⟨#[]⟩).data.toList := by
  unfold flat
  rw [List.take_succ_eq_append_getElem h, List.flatMap_append]
  simp [List.getD, h]
theorem flat_three (key body : ByteArray) : fnv sum0 (flat [key, ⟨#[0]⟩, body] 3) = sumAll key body := by
  unfold sumAll allOf flat
  simp [ByteArray.data_append]
end Go.Proofs.Ytfjedpnagnnobaa.tag

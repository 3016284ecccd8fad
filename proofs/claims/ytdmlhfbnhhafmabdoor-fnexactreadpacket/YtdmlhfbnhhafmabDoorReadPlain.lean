/-
  PLAIN MATHEMATICS for reading packets.
-/
import Derived.Test.YtdmlhfbnhhafmabDoorPkPlain
import Derived.Laws.BitsAllLaws
namespace Go.Proofs.YtdmlhfbnhhafmabDoor.tag
open Go.RowKit

/-- the number that the bytes make, the highest first -/
def rd (l : List UInt8) : Int := l.foldl (fun v c => v * 256 + (c.toNat : Int)) 0
theorem rd_snoc (l : List UInt8) (c : UInt8) : rd (l ++ [c]) = rd l * 256 + (c.toNat : Int) := by simp [rd]
theorem rd_acc (l : List UInt8) (v : Int) : l.foldl (fun v c => v * 256 + (c.toNat : Int)) v = v * 256 ^ l.length + rd l := by
  induction l generalizing v with
  | nil => simp [rd]
  | cons c l ih =>
    have h := ih (c.toNat : Int)
    have e : rd (c :: l) = (c.toNat : Int) * 256 ^ l.length + rd l := by
      rw [← h]; simp [rd]
    rw [List.foldl_cons, ih, e, List.length_cons, Int.pow_succ, Int.add_mul, Int.mul_assoc, Int.mul_comm 256 (256 ^ l.length), Int.add_assoc]
theorem rd_cons (c : UInt8) (l : List UInt8) : rd (c :: l) = (c.toNat : Int) * 256 ^ l.length + rd l := by
  have := rd_acc l (0 * 256 + (c.toNat : Int))
  simpa [rd] using this
theorem rd_bd (l : List UInt8) : 0 ≤ rd l ∧ rd l < 256 ^ l.length := by
  induction l with
  | nil => simp [rd]
  | cons c l ih =>
    rw [rd_cons, List.length_cons, Int.pow_succ]
    have hc : (c.toNat : Int) ≤ 255 := by have := c.toNat_lt; omega
    have hp : (0 : Int) < 256 ^ l.length := Int.pow_pos (by omega)
    have h1 : (c.toNat : Int) * 256 ^ l.length ≤ 255 * 256 ^ l.length := Int.mul_le_mul_of_nonneg_right hc (Int.le_of_lt hp)
    have h2 : 0 ≤ (c.toNat : Int) * 256 ^ l.length := Int.mul_nonneg (by omega) (Int.le_of_lt hp)
    omega
theorem rd_take (s : ByteArray) (k : Nat) (h : k < s.size) : rd (s.data.toList.take k) * 256 + (s[k].toNat : Int) = rd (s.data.toList.take (k + 1)) := by
  rw [take_snoc s k h, rd_snoc]
theorem rd_small (l : List UInt8) (h : l.length ≤ 4) : 0 ≤ rd l ∧ rd l ≤ 4294967295 := by
  have h1 := rd_bd l
  have e0 : (256 : Int) ^ 0 = 1 := by decide
  have e1 : (256 : Int) ^ 1 = 256 := by decide
  have e2 : (256 : Int) ^ 2 = 65536 := by decide
  have e3 : (256 : Int) ^ 3 = 16777216 := by decide
  have e4 : (256 : Int) ^ 4 = 4294967296 := by decide
  rcases (by omega : l.length = 0 ∨ l.length = 1 ∨ l.length = 2 ∨ l.length = 3 ∨ l.length = 4) with q | q | q | q | q <;> rw [q] at h1 <;> omega
/-- the number at the places i to j -/
def rdx (b : ByteArray) (i j : Nat) : Int := rd (b.extract i j).data.toList
theorem ext_le (b : ByteArray) (i j : Nat) (h : j - i ≤ 4) : (b.extract i j).size ≤ 4 := by
  rw [ByteArray.size_extract]; omega
theorem rdx_small (b : ByteArray) (i j : Nat) (h : j - i ≤ 4) : 0 ≤ rdx b i j ∧ rdx b i j ≤ 4294967295 := rd_small _ (by rw [Array.length_toList]; exact ext_le b i j h)
theorem shr8_add (a r : Int) (k j : Nat) (h : j < k) : (a * 256 ^ k + r) / 256 ^ j % 256 = r / 256 ^ j % 256 := by
  obtain ⟨d, rfl⟩ : ∃ d, k = j + 1 + d := ⟨k - j - 1, by omega⟩
  have hp : (256 : Int) ^ j ≠ 0 := Int.ne_of_gt (Int.pow_pos (by omega))
  have e : a * 256 ^ (j + 1 + d) + r = r + (a * 256 ^ d * 256) * 256 ^ j := by
    rw [Int.pow_add, Int.pow_add]
    grind
  rw [e, Int.add_mul_ediv_right _ _ hp]
  omega
theorem byteAt_add (a r : Int) (k j : Nat) (h : j < k) : byteAt (a * 256 ^ k + r) j = byteAt r j := by
  unfold byteAt shr8
  rw [shr8_add a r k j h]
theorem numBytes_add (a r : Int) (k n : Nat) (h : n ≤ k) : numBytes (a * 256 ^ k + r) n = numBytes r n := by
  induction n with
  | zero => rfl
  | succ n ih => rw [numBytes, numBytes, ih (by omega), byteAt_add a r k n (by omega)]
theorem byteAt_top (c : UInt8) (r : Int) (k : Nat) (h : 0 ≤ r ∧ r < 256 ^ k) : byteAt ((c.toNat : Int) * 256 ^ k + r) k = c := by
  unfold byteAt shr8
  have hp : (256 : Int) ^ k ≠ 0 := Int.ne_of_gt (Int.pow_pos (by omega))
  rw [Int.add_comm, Int.add_mul_ediv_right _ _ hp, Int.ediv_eq_zero_of_lt h.1 h.2]
  have hc : (c.toNat : Int) ≤ 255 := by have := c.toNat_lt; omega
  have e : ((0 + (c.toNat : Int)) % 256).toNat = c.toNat := by omega
  rw [e]
  simp
theorem numBytes_rd (l : List UInt8) : numBytes (rd l) l.length = l := by
  induction l with
  | nil => rfl
  | cons c l ih =>
    rw [List.length_cons, numBytes, rd_cons, byteAt_top c _ _ (rd_bd l), numBytes_add _ _ _ _ (Nat.le_refl _), ih]
theorem numStr_rd (l : List UInt8) (n : Nat) (h : l.length = n) : numStr (rd l) n = ⟨l.toArray⟩ := by
  subst h; unfold numStr; rw [numBytes_rd]
theorem numStr_one (c : UInt8) : numStr (c.toNat : Int) 1 = ⟨#[c]⟩ := by
  have := numStr_rd [c] 1 rfl
  simpa [rd] using this
theorem or_join (x c : Int) (hx : 0 ≤ x ∧ x ≤ 4294967295) (hc : 0 ≤ c ∧ c ≤ 255) : bits BinOp.or IntKind.i64 (x * 256) c = x * 256 + c := by
  obtain ⟨X, rfl⟩ := Int.eq_ofNat_of_zero_le hx.1
  obtain ⟨C, rfl⟩ := Int.eq_ofNat_of_zero_le hc.1
  show IntKind.i64.wrap ((BitVec.ofInt 64 ((X * 256 : Nat) : Int) ||| BitVec.ofInt 64 (C : Int)).toNat : Int) = _
  rw [BitVec.toNat_or, ofInt_u64 (X * 256) (by omega), ofInt_u64 C (by omega), nat_join 8 (X * 256) C (by omega) (by omega), IntKind.wrap_i64]
  omega
end Go.Proofs.YtdmlhfbnhhafmabDoor.tag

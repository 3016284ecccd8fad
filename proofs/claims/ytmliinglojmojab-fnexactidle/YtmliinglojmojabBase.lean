import Derived.WalkKit
import Derived.Laws.BytesArg
import Derived.Test.YtmliinglojmojabProg
import Derived.WalkSpells
import Derived.WalkLawsBesides
import Derived.Outline
import Derived.Maps.AppendAt
import Derived.Maps.RangeWalk
import Derived.Deep.RegionHeld3
import Derived.Laws.ResultCell
import Derived.Deep.AppendLies
import Derived.Laws.AppendOwnNone
/-
  PLAIN MATHEMATICS for the tags: nothing of the program in sight.
-/
namespace Go.Proofs.Ytmliinglojmojab.tag
open Go.RowKit

def sealOk (k : Nat) (n : Int) : Bool := decide (k ≤ 30) && (decide (1 ≤ n) && decide (n ≤ 8))
theorem sealOk_yes {k : Nat} {n : Int} (h : sealOk k n = true) : k ≤ 30 ∧ 1 ≤ n ∧ n ≤ 8 := by
  simpa [sealOk] using h
theorem sealOk_mk {k : Nat} {n : Int} (h : k ≤ 30 ∧ 1 ≤ n ∧ n ≤ 8) : sealOk k n = true := by
  simpa [sealOk] using h
theorem sealOk_no {k : Nat} {n : Int} (h : ¬ (k ≤ 30 ∧ 1 ≤ n ∧ n ≤ 8)) : sealOk k n = false := by
  cases e : sealOk k n
  · rfl
  · exact absurd (sealOk_yes e) h
theorem ret_bool {a b : Bool} (h : a = b) : Ending.returned (.bool a) = .returned (.bool b) := by rw [h]
theorem ret_str {a b : ByteArray} (h : a = b) : Ending.returned (.string a) = .returned (.string b) := by rw [h]
theorem ret_u64 {a b : Int} (h : a = b) : Ending.returned (.int .u64 a) = .returned (.int .u64 b) := by rw [h]

/-- one byte combined into the sum, as the walk spells it -/
def fstep (v : Int) (c : UInt8) : Int := IntKind.u64.wrap (bits BinOp.xor IntKind.u64 v (IntKind.u64.wrap (c.toNat : Int)) * 1099511628211)
def fnv (v : Int) (l : List UInt8) : Int := l.foldl fstep v
theorem fnv_nil (v : Int) : fnv v [] = v := rfl
theorem fnv_append (v : Int) (a b : List UInt8) : fnv v (a ++ b) = fnv (fnv v a) b := by simp [fnv]
theorem fnv_snoc (v : Int) (a : List UInt8) (c : UInt8) : fnv v (a ++ [c]) = fstep (fnv v a) c := by simp [fnv]
theorem fstep_bd (v : Int) (c : UInt8) : 0 ≤ fstep v c ∧ fstep v c ≤ 18446744073709551615 := by
  unfold fstep
  rw [IntKind.wrap_u64]
  omega
theorem fnv_bd (v : Int) (l : List UInt8) (h : 0 ≤ v ∧ v ≤ 18446744073709551615) : 0 ≤ fnv v l ∧ fnv v l ≤ 18446744073709551615 := by
  induction l generalizing v with
  | nil => exact h
  | cons c l ih => exact ih (fstep v c) (fstep_bd v c)
theorem take_snoc (s : ByteArray) (k : Nat) (h : k < s.size) : s.data.toList.take (k + 1) = s.data.toList.take k ++ [s[k]] := by
  rw [List.take_succ_eq_append_getElem (by simpa using h)]; rfl
theorem fnv_take (v : Int) (s : ByteArray) (k : Nat) (h : k < s.size) : fstep (fnv v (s.data.toList.take k)) s[k] = fnv v (s.data.toList.take (k + 1)) := by
  rw [take_snoc s k h, fnv_snoc]

/-- the number without its last k bytes -/
def shr8 (v : Int) (k : Nat) : Int := v / 256 ^ k
theorem shr8_zero (v : Int) : shr8 v 0 = v := by simp [shr8]
theorem shr8_succ (v : Int) (k : Nat) : shr8 v k / 256 = shr8 v (k + 1) := by
  unfold shr8
  rw [Int.ediv_ediv_of_nonneg (by exact Int.pow_nonneg (by omega)), Int.pow_succ]
theorem shr8_bd (v : Int) (k : Nat) (h : 0 ≤ v ∧ v ≤ 18446744073709551615) : 0 ≤ shr8 v k ∧ shr8 v k ≤ 18446744073709551615 := by
  induction k with
  | zero => rw [shr8_zero]; exact h
  | succ k ih => rw [← shr8_succ]; omega
def byteAt (v : Int) (j : Nat) : UInt8 := UInt8.ofNat (shr8 v j % 256).toNat
/-- the number's last k bytes, the highest first -/
def numBytes (v : Int) : Nat → List UInt8
  | 0 => []
  | k + 1 => byteAt v k :: numBytes v k
theorem numBytes_length (v : Int) (k : Nat) : (numBytes v k).length = k := by
  induction k with
  | zero => rfl
  | succ k ih => simp [numBytes, ih]
def numStr (v : Int) (k : Nat) : ByteArray := ⟨(numBytes v k).toArray⟩
theorem numStr_size (v : Int) (k : Nat) : (numStr v k).size = k := by
  show (numBytes v k).toArray.size = k
  simp [numBytes_length]
theorem numStr_zero (v : Int) : numStr v 0 = { data := #[] } := rfl
theorem numStr_succ (v : Int) (k : Nat) : strOfNums [shr8 v k % 256] ++ numStr v k = numStr v (k + 1) := by
  apply ByteArray.ext
  simp [ByteArray.data_append, numStr, strOfNums, numBytes, byteAt]

theorem strOne_size (z : Int) : (strOfNums [z]).size = 1 := by rw [strOfNums_size]; rfl
/-- the bytes as the walk's numbers -/
def nums (l : List UInt8) : List Int := l.map fun c => (c.toNat : Int)
theorem nums_length (l : List UInt8) : (nums l).length = l.length := by simp [nums]
theorem strOfNums_nums (l : List UInt8) : strOfNums (nums l) = ⟨l.toArray⟩ := by
  simp only [strOfNums, nums, List.map_map]
  congr
  refine List.map_id'' (fun c => ?_) l
  simp [Function.comp]
/-- the cells of the text of size n behind k rounds -/
def txt (v : Int) (n k : Nat) : List Int := List.replicate (n - k) 0 ++ nums (numBytes v k)
theorem txt_length (v : Int) (n k : Nat) (h : k ≤ n) : (txt v n k).length = n := by simp [txt, nums_length, numBytes_length]; omega
theorem txt_zero (v : Int) (n : Nat) : txt v n 0 = List.replicate n 0 := by simp [txt, nums, numBytes]
theorem txt_full (v : Int) (n : Nat) : txt v n n = nums (numBytes v n) := by simp [txt]
theorem txt_succ (v : Int) (n k : Nat) (h : k < n) : (txt v n k).set (n - 1 - k) (shr8 v k % 256) = txt v n (k + 1) := by
  unfold txt
  have e : n - k = (n - 1 - k) + 1 := by omega
  have e2 : n - (k + 1) = n - 1 - k := by omega
  rw [e, e2, List.replicate_succ', List.append_assoc]
  rw [List.set_append_right _ _ (by simp)]
  simp only [List.length_replicate, Nat.sub_self, List.cons_append, List.nil_append, List.set_cons_zero, numBytes, nums, List.map_cons, byteAt]
  have : ((UInt8.ofNat (shr8 v k % 256).toNat).toNat : Int) = shr8 v k % 256 := by
    simp only [UInt8.toNat_ofNat']
    omega
  rw [this]

def sum0 : Int := 14695981039346656037
theorem sum0_bd : 0 ≤ sum0 ∧ sum0 ≤ 18446744073709551615 := by unfold sum0; omega
def allOf (key body : ByteArray) : ByteArray := key ++ { data := #[0] } ++ body
theorem allOf_size (key body : ByteArray) : (allOf key body).size = key.size + 1 + body.size := by
  unfold allOf; simp [ByteArray.size_append]; rfl
def sumAll (key body : ByteArray) : Int := fnv sum0 (allOf key body).data.toList
theorem sumAll_bd (key body : ByteArray) : 0 ≤ sumAll key body ∧ sumAll key body ≤ 18446744073709551615 := fnv_bd _ _ sum0_bd
def tagOf (body key : ByteArray) (n : Int) : ByteArray := if sealOk key.size n then numStr (sumAll key body) n.toNat else { data := #[] }
theorem tagOf_yes {body key : ByteArray} {n : Int} (h : sealOk key.size n = true) : tagOf body key n = numStr (sumAll key body) n.toNat := by simp [tagOf, h]
theorem tagOf_no {body key : ByteArray} {n : Int} (h : sealOk key.size n = false) : tagOf body key n = { data := #[] } := by simp [tagOf, h]

/-- the bytes of the first j pieces -/
def flat (ss : List ByteArray) (j : Nat) : List UInt8 := (ss.take j).flatMap (·.data.toList)
theorem flat_zero (ss : List ByteArray) : flat ss 0 = [] := by simp [flat]
theorem flat_succ (ss : List ByteArray) (j : Nat) (h : j < ss.length) : flat ss (j + 1) = flat ss j ++ (ss.getD j ⟨#[]⟩).data.toList := by
  unfold flat
  rw [List.take_succ_eq_append_getElem h, List.flatMap_append]
  simp [List.getD, h]
theorem flat_three (key body : ByteArray) : fnv sum0 (flat [key, ⟨#[0]⟩, body] 3) = sumAll key body := by
  unfold sumAll allOf flat
  simp [ByteArray.data_append]
end Go.Proofs.Ytmliinglojmojab.tag
/-
  MARKS: the text of a number, and what the laws' eq, mark and held functions do to a slice of parts.
-/
namespace Go.Proofs.Ytmliinglojmojab.mk
open Go.RowKit
set_option linter.unusedVariables false

/-- the decimal text, digit by digit ahead of what there is -/
def fin (m : Nat) (o : ByteArray) : ByteArray :=
  if h : m = 0 then ⟨#[109]⟩ ++ o else fin (m / 10) (strOfNums [((48 + m % 10 : Nat) : Int)] ++ o)
termination_by m
decreasing_by omega
theorem fin_zero (o : ByteArray) : fin 0 o = ⟨#[109]⟩ ++ o := by rw [fin]; simp
theorem fin_step (m : Nat) (o : ByteArray) (h : 0 < m) : fin m o = fin (m / 10) (strOfNums [((48 + m % 10 : Nat) : Int)] ++ o) := by
  rw [fin, dif_neg (by omega)]
def mkt (k : Nat) : ByteArray := fin k ⟨#[]⟩
theorem strOne_size (z : Int) : (strOfNums [z]).size = 1 := by rw [strOfNums_size]; rfl
/-! ### slices of parts -/
def ps (xs : List (ByteArray × Bool)) : List Value := xs.flatMap fun x => [.string x.1, .bool x.2]
theorem ps_length (xs : List (ByteArray × Bool)) : (ps xs).length = xs.length * 2 := by
  induction xs with
  | nil => rfl
  | cons x xs ih => simp only [ps, List.flatMap_cons, List.length_append, List.length_cons, List.length_nil] at ih ⊢; omega
theorem ps_append (xs ys : List (ByteArray × Bool)) : ps (xs ++ ys) = ps xs ++ ps ys := by simp [ps]
theorem ps_at (xs : List (ByteArray × Bool)) (i : Nat) (h : i < xs.length) : (ps xs)[i * 2]? = some (.string xs[i].1) ∧ (ps xs)[i * 2 + 1]? = some (.bool xs[i].2) := by
  induction xs generalizing i with
  | nil => simp at h
  | cons x xs ih =>
    cases i with
    | zero => simp [ps]
    | succ i =>
      have := ih i (by simpa using h)
      have e : (i + 1) * 2 = i * 2 + 2 := by omega
      rw [e]
      simpa [ps] using this
theorem eqPart_same (a : ByteArray) (b : Bool) (w : World) :
    Calls Try.prog 82 #[.agg #[.string a, .bool b], .agg #[.string a, .bool b]] w fun e w' => e = .returned (.bool true) ∧ Below w.heap.size w w' := by
  go_enter Try.func82, Try.ntmps82
  go_wp2
  go_ret
  exact ⟨rfl, ((Below.refl _ _).alloc (Nat.le_refl _) _).alloc (by simp) _⟩
theorem kp {w w1 w2 : World} {p : Addr} {v : Value} (h : w1.cell? p = some v) (hb1 : Below w.heap.size w w1) (hb2 : Below w1.heap.size w1 w2) (hp : p.block < w.heap.size) : w2.cell? p = some v :=
  (hb2.cell (Nat.lt_of_lt_of_le hp hb1.size)).trans h
theorem kb {B : Nat} {w w1 w2 : World} (hb1 : Below B w w1) (hb2 : Below w1.heap.size w1 w2) (hB : B ≤ w.heap.size) : Below B w w2 :=
  hb1.trans (hb2.mono (Nat.le_trans hB hb1.size))
/-- a slice whose cells are xs, to be read -/
structure Rs (w : World) (ao : Option Addr) (n : Nat) (xs : List Value) : Prop where
  ex : n = 0 ∨ ∃ g, ao = some ⟨g, 0, none⟩ ∧ g < w.heap.size ∧ ∀ j, j < xs.length → w.cell? ⟨g, j, none⟩ = xs[j]?
theorem Rs.keep {w w' : World} {ao : Option Addr} {n : Nat} {xs : List Value} (h : Rs w ao n xs) (hb : Below w.heap.size w w') : Rs w' ao n xs := by
  rcases h.ex with h | ⟨g, h1, h2, h3⟩
  · exact ⟨.inl h⟩
  · exact ⟨.inr ⟨g, h1, Nat.lt_of_lt_of_le h2 hb.size, fun j hj => (hb.cell (p := ⟨g, j, none⟩) h2).trans (h3 j hj)⟩⟩
theorem rs_of_owns {w : World} {base : Nat} {e : TypeId} {size : Nat} {v : Value} {n : Nat} {xs : List Value} (h : w.ownsRow base e size v n xs) : ∃ ao cap, v = .slice ao n cap ∧ n ≤ cap ∧ cap ≤ maxLen ∧ Rs w ao n xs := by
  rcases h.2 with ⟨rfl, rfl⟩ | ⟨g, cap, cur, rfl, h1, h2, h3, h4, h5, h6⟩
  · exact ⟨none, 0, rfl, Nat.le_refl _, Nat.zero_le _, ⟨.inl rfl⟩⟩
  · refine ⟨_, cap, rfl, h3, h4, ⟨.inr ⟨g, rfl, (Array.getElem?_eq_some_iff.1 h2).1, fun j hj => ?_⟩⟩⟩
    exact h.cellAt j (by rw [← h.1]; exact hj)
/-- the cells as the marks from k on have left them -/
def Mp (k n : Nat) (cs : List Value) : Prop := ∀ i, i < n → cs[i * 2]? = some (.string (mkt (k + i * 2))) ∧ cs[i * 2 + 1]? = some (.bool ((((k + i * 2 : Nat) : Int) + 1) % 3 == 0))
theorem grow_below {w w' : World} (row : Option Nat) (h : Below w.heap.size w w') : w.grownBy w' row := ⟨h.os, h.tape, h.output, h.size, fun k hk _ => h.block k hk⟩
theorem below_grow {w w' : World} (h : w.grownBy w' none) : Below w.heap.size w w' := ⟨h.os, h.tape, h.output, h.size, fun k hk => h.block k hk (by simp)⟩
theorem grow_set (w : World) (p : Addr) (u : Value) : w.grownBy (w.setCell p u) (some p.block) :=
  ⟨rfl, rfl, rfl, by simp, fun k _ hk => Below.heap_setCell _ _ _ k (fun e => hk (by rw [e]))⟩
theorem Mp.step {k i : Nat} {cs : List Value} (h : Mp k i cs) (hl : i * 2 + 1 < cs.length) :
    Mp k (i + 1) ((cs.set (i * 2) (.string (mkt (k + i * 2)))).set (i * 2 + 1) (.bool ((((k + i * 2 : Nat) : Int) + 1) % 3 == 0))) := by
  intro j hj
  rcases Nat.lt_or_ge j i with h1 | h1
  · have := h j h1
    rw [List.getElem?_set_ne (by omega), List.getElem?_set_ne (by omega), List.getElem?_set_ne (by omega), List.getElem?_set_ne (by omega)]
    exact this
  · obtain rfl : j = i := by omega
    rw [List.getElem?_set_ne (by omega), List.getElem?_set_self (by omega), List.getElem?_set_self (by simp; omega)]
    exact ⟨rfl, rfl⟩
theorem grow1 {w wr w2 : World} {g a n cap : Nat} (u : Value) (h : w.grownBy wr (Value.slice (some ⟨g, 0, none⟩) n cap).ownBlock) (hb : Below wr.heap.size wr w2) : w.grownBy (w2.setCell ⟨g, a, none⟩ u) (Value.slice (some ⟨g, 0, none⟩) n cap).ownBlock :=
  (World.grownBy.trans h (grow_below _ hb)).trans (grow_set _ _ _)
/-- what is owned lies on where all that lay lies on -/
theorem owns_keep {w w' : World} {base : Nat} {e : TypeId} {size : Nat} {v : Value} {n : Nat} {xs : List Value} (h : w.ownsRow base e size v n xs) (hb : Below w.heap.size w w') : w'.ownsRow base e size v n xs :=
  h.kept (grow_below none hb) (by cases v.ownBlock <;> simp)
/-- a slice that is read lies on where another's own block turned -/
theorem Rs.other {w w' : World} {ao : Option Addr} {n B : Nat} {xs : List Value} {row : Option Nat} (h : Rs w ao n xs) (hB : n = 0 ∨ ∃ a, ao = some a ∧ a.block < B) (hg : w.grownBy w' row) (hr : ∀ k, row = some k → B ≤ k) : Rs w' ao n xs := by
  rcases h.ex with h | ⟨g, h1, h2, h3⟩
  · exact ⟨.inl h⟩
  rcases hB with h | ⟨a, ha, hlt⟩
  · exact ⟨.inl h⟩
  · subst h1
    obtain rfl : (⟨g, 0, none⟩ : Addr) = a := by simpa using ha
    have hb : w'.heap[g]? = w.heap[g]? := hg.block g h2 (fun e => by have := hr g e.symm; simp at hlt; omega)
    exact ⟨.inr ⟨g, rfl, Nat.lt_of_lt_of_le h2 hg.size, fun j hj => (World.cell?_of_block (w := w) (a := ⟨g, j, none⟩) hb).trans (h3 j hj)⟩⟩
theorem Rs.lt {w : World} {ao : Option Addr} {n : Nat} {xs : List Value} (h : Rs w ao n xs) : n = 0 ∨ ∃ a, ao = some a ∧ a.block < w.heap.size := by
  rcases h.ex with h | ⟨g, h1, h2, h3⟩
  · exact .inl h
  · exact .inr ⟨_, h1, h2⟩
theorem owns_rs {w : World} {base : Nat} {e : TypeId} {size : Nat} {ao : Option Addr} {n cap : Nat} {xs : List Value} (h : w.ownsRow base e size (.slice ao n cap) n xs) : Rs w ao n xs := by
  obtain ⟨_, _, e, _, _, hr⟩ := rs_of_owns h
  cases e
  exact hr
theorem rows_lt {v v' : Value} {B : Nat} (h : ∀ k, v.ownBlock = some k → k < B) (h' : ∀ k, v'.ownBlock = some k → B ≤ k) : v.ownBlock = none ∨ v.ownBlock ≠ v'.ownBlock := by
  cases e : v.ownBlock with
  | none => exact .inl rfl
  | some k =>
    refine .inr fun e2 => ?_
    have := h k e
    have := h' k e2.symm
    omega
end Go.Proofs.Ytmliinglojmojab.mk
/-
  MARKS: what the laws' eq, mark and held functions do to a slice of strings.
-/
namespace Go.Proofs.Ytmliinglojmojab.mk
open Go.RowKit
set_option linter.unusedVariables false

def ss (xs : List ByteArray) : List Value := xs.map Value.string
theorem ss_length (xs : List ByteArray) : (ss xs).length = xs.length := by simp [ss]
theorem ss_append (xs ys : List ByteArray) : ss (xs ++ ys) = ss xs ++ ss ys := by simp [ss]
theorem ss_at (xs : List ByteArray) (i : Nat) (h : i < xs.length) : (ss xs)[i]? = some (.string xs[i]) := by simp [ss, h]
theorem eqStringS_same (ao bo : Option Addr) (ca cb : Nat) (xs : List ByteArray) (w : World) (hl : xs.length ≤ 1000000000) (ha : Rs w ao xs.length (ss xs)) (hb : Rs w bo xs.length (ss xs)) :
    Calls Try.prog 68 #[.slice ao xs.length ca, .slice bo xs.length cb] w fun e w' => e = .returned (.bool true) ∧ Below w.heap.size w w' := by
  have HA : Hid (Rs w ao xs.length (ss xs)) := ha
  have HB : Hid (Rs w bo xs.length (ss xs)) := hb
  clear ha hb
  go_enter Try.func68, Try.ntmps68
  go_wp2
  go_loopw [5] (fun i wr => ∃ k : Nat, k ≤ xs.length ∧ i = .int .i64 k ∧ Below w.heap.size w wr) (fun i _ => xs.length - (intOf i).toNat)
  case atStart => exact ⟨0, Nat.zero_le _, rfl, Below.refl _ _⟩
  case round =>
    obtain ⟨k, hk, rfl, hbel⟩ := hrel
    by_cases hlt : k < xs.length
    · rcases HA.out.ex with h | ⟨g, rfl, hg, hgc⟩
      · omega
      rcases HB.out.ex with h | ⟨g', rfl, hg', hgc'⟩
      · omega
      have hx := ss_at xs k hlt
      have hpl := ss_length xs
      have a0 : wr.cell? ⟨g, k, none⟩ = some (.string xs[k]) := (hbel.cell (p := ⟨g, k, none⟩) hg).trans ((hgc _ (by omega)).trans hx)
      have b0 : wr.cell? ⟨g', k, none⟩ = some (.string xs[k]) := (hbel.cell (p := ⟨g', k, none⟩) hg').trans ((hgc' _ (by omega)).trans hx)
      clear hx hgc hgc'
      generalize xs[k] = s at *
      go_wp2
      go_region_held3 (fun w' => w'.cell? ⟨g, k, none⟩ = some (.string s) ∧ w'.cell? ⟨g', k, none⟩ = some (.string s) ∧ Below wr.heap.size wr w')
        (first | assumption | exact ⟨a0, b0, (Below.refl _ _).drew⟩)
        (fail)
      go_wp2
      go_roundw
      case rel => exact ⟨k + 1, by omega, by go_num, hbel.drew⟩
      case measure => simp [intOf]; omega
    · obtain rfl : k = xs.length := by omega
      go_wp2
      go_ret
      exact ⟨rfl, hbel⟩
/-- the cells as the marks from k on have left them -/
def Ms (k n : Nat) (cs : List Value) : Prop := ∀ i, i < n → cs[i]? = some (.string (mkt (k + i)))
theorem Ms.step {k i : Nat} {cs : List Value} (h : Ms k i cs) (hl : i < cs.length) : Ms k (i + 1) (cs.set i (.string (mkt (k + i)))) := by
  intro j hj
  rcases Nat.lt_or_ge j i with h1 | h1
  · rw [List.getElem?_set_ne (by omega)]
    exact h j h1
  · obtain rfl : j = i := by omega
    rw [List.getElem?_set_self (by omega)]
end Go.Proofs.Ytmliinglojmojab.mk
/-
  ITEMS: a slice of items as cells; what the laws' eq functions say of two that are alike.
-/
namespace Go.Proofs.Ytmliinglojmojab.mk
open Go.RowKit
set_option linter.unusedVariables false

/-- an item: its text, last, has, since -/
structure It where
  text : ByteArray
  last : Bool
  has : Bool
  since : Int
instance : Inhabited It := ⟨⟨⟨#[]⟩, false, false, 0⟩⟩
def It.vals (x : It) : List Value := [.string x.text, .bool x.last, .bool x.has, .int .i64 x.since]
def is (xs : List It) : List Value := xs.flatMap It.vals
theorem is_length (xs : List It) : (is xs).length = xs.length * 4 := by
  induction xs with
  | nil => rfl
  | cons x xs ih => simp only [is, It.vals, List.flatMap_cons, List.length_append, List.length_cons, List.length_nil] at ih ⊢; omega
theorem is_append (xs ys : List It) : is (xs ++ ys) = is xs ++ is ys := by simp [is]
theorem is_at (xs : List It) (i : Nat) (h : i < xs.length) : (is xs)[i * 4]? = some (.string xs[i].text) ∧ (is xs)[i * 4 + 1]? = some (.bool xs[i].last) ∧ (is xs)[i * 4 + 2]? = some (.bool xs[i].has) ∧ (is xs)[i * 4 + 3]? = some (.int .i64 xs[i].since) := by
  induction xs generalizing i with
  | nil => simp at h
  | cons x xs ih =>
    cases i with
    | zero => simp [is, It.vals]
    | succ i =>
      have := ih i (by simpa using h)
      have e : (i + 1) * 4 = i * 4 + 4 := by omega
      rw [e]
      simpa [is, It.vals] using this
/-- the cells of item i, in a world that keeps what lay -/
theorem Rs.item {w wr : World} {g n : Nat} {xs : List It} (hg : g < w.heap.size) (h : ∀ j, j < (is xs).length → w.cell? ⟨g, j, none⟩ = (is xs)[j]?) (hb : Below w.heap.size w wr) (i : Nat) (hi : i < xs.length) :
    wr.cell? ⟨g, i * 4, none⟩ = some (.string xs[i].text) ∧ wr.cell? ⟨g, i * 4 + 1, none⟩ = some (.bool xs[i].last) ∧ wr.cell? ⟨g, i * 4 + 2, none⟩ = some (.bool xs[i].has) ∧ wr.cell? ⟨g, i * 4 + 3, none⟩ = some (.int .i64 xs[i].since) := by
  have hx := is_at xs i hi
  have hl := is_length xs
  exact ⟨(hb.cell (p := ⟨g, i * 4, none⟩) hg).trans ((h _ (by omega)).trans hx.1), (hb.cell (p := ⟨g, i * 4 + 1, none⟩) hg).trans ((h _ (by omega)).trans hx.2.1), (hb.cell (p := ⟨g, i * 4 + 2, none⟩) hg).trans ((h _ (by omega)).trans hx.2.2.1), (hb.cell (p := ⟨g, i * 4 + 3, none⟩) hg).trans ((h _ (by omega)).trans hx.2.2.2)⟩
theorem eqItem_same (s : ByteArray) (l h : Bool) (n : Int) (w : World) :
    Calls Try.prog 75 #[.agg #[.string s, .bool l, .bool h, .int .i64 n], .agg #[.string s, .bool l, .bool h, .int .i64 n]] w fun e w' => e = .returned (.bool true) ∧ Below w.heap.size w w' := by
  go_enter Try.func75, Try.ntmps75
  go_wp2_with (go_at_call 82; refine (eqPart_same _ _ _).mono ?_; rintro e w1 ⟨rfl, hb1⟩; (have c1 := hb1.cell (p := ⟨w.heap.size, 2, none⟩) (by simp; omega)); (have c2 := hb1.cell (p := ⟨w.heap.size + 1, 2, none⟩) (by simp)); (have c3 := hb1.cell (p := ⟨w.heap.size, 3, none⟩) (by simp; omega)); (have c4 := hb1.cell (p := ⟨w.heap.size + 1, 3, none⟩) (by simp)); simp [go_sem] at c1 c2 c3 c4)
  go_ret
  exact ⟨rfl, (((Below.refl _ _).alloc (Nat.le_refl _) _).alloc (by simp) _).trans (hb1.mono (by simp; omega))⟩
theorem eqItemS_same (ao bo : Option Addr) (ca cb : Nat) (xs : List It) (w : World) (hl : xs.length ≤ 1000000000) (ha : Rs w ao xs.length (is xs)) (hb : Rs w bo xs.length (is xs)) :
    Calls Try.prog 66 #[.slice ao xs.length ca, .slice bo xs.length cb] w fun e w' => e = .returned (.bool true) ∧ Below w.heap.size w w' := by
  have HA : Hid (Rs w ao xs.length (is xs)) := ha
  have HB : Hid (Rs w bo xs.length (is xs)) := hb
  clear ha hb
  go_enter Try.func66, Try.ntmps66
  go_wp2
  go_loopw [5] (fun i wr => ∃ k : Nat, k ≤ xs.length ∧ i = .int .i64 k ∧ Below w.heap.size w wr) (fun i _ => xs.length - (intOf i).toNat)
  case atStart => exact ⟨0, Nat.zero_le _, rfl, Below.refl _ _⟩
  case round =>
    obtain ⟨k, hk, rfl, hbel⟩ := hrel
    by_cases hlt : k < xs.length
    · rcases HA.out.ex with h | ⟨g, rfl, hg, hgc⟩
      · omega
      rcases HB.out.ex with h | ⟨g', rfl, hg', hgc'⟩
      · omega
      obtain ⟨a0, a1, a2, a3⟩ := Rs.item (n := 0) hg hgc hbel k hlt
      obtain ⟨b0, b1, b2, b3⟩ := Rs.item (n := 0) hg' hgc' hbel k hlt
      have hgr : g < wr.heap.size := Nat.lt_of_lt_of_le hg hbel.size
      have hgr' : g' < wr.heap.size := Nat.lt_of_lt_of_le hg' hbel.size
      clear hgc hgc'
      generalize xs[k].text = s at *
      generalize xs[k].last = l at *
      generalize xs[k].has = h at *
      generalize xs[k].since = n at *
      go_wp2
      go_region_held3 (fun w' => w'.cell? ⟨g, k * 4, none⟩ = some (.string s) ∧ w'.cell? ⟨g, k * 4 + 1, none⟩ = some (.bool l) ∧ w'.cell? ⟨g, k * 4 + 2, none⟩ = some (.bool h) ∧ w'.cell? ⟨g, k * 4 + 3, none⟩ = some (.int .i64 n) ∧ w'.cell? ⟨g', k * 4, none⟩ = some (.string s) ∧ w'.cell? ⟨g', k * 4 + 1, none⟩ = some (.bool l) ∧ w'.cell? ⟨g', k * 4 + 2, none⟩ = some (.bool h) ∧ w'.cell? ⟨g', k * 4 + 3, none⟩ = some (.int .i64 n) ∧ Below wr.heap.size wr w')
        (first | assumption | exact ⟨a0, a1, a2, a3, b0, b1, b2, b3, (Below.refl _ _).drew⟩ | (go_split_ands; refine ⟨kp (by assumption) (by assumption) hb2 hgr, kp (by assumption) (by assumption) hb2 hgr, kp (by assumption) (by assumption) hb2 hgr, kp (by assumption) (by assumption) hb2 hgr, kp (by assumption) (by assumption) hb2 hgr', kp (by assumption) (by assumption) hb2 hgr', kp (by assumption) (by assumption) hb2 hgr', kp (by assumption) (by assumption) hb2 hgr', kb (by assumption) hb2 (Nat.le_refl _)⟩))
        (first | (go_at_call 75; refine (eqItem_same _ _ _ _ _).mono ?_; rintro e w2 ⟨rfl, hb2⟩))
      have hbl : Below wr.heap.size wr w2 := by go_split_ands; assumption
      go_wp2
      go_roundw
      case rel => exact ⟨k + 1, by omega, by go_num, hbel.trans (hbl.mono hbel.size)⟩
      case measure => simp [intOf]; omega
    · obtain rfl : k = xs.length := by omega
      go_wp2
      go_ret
      exact ⟨rfl, hbel⟩
theorem eqSend_same (z : Int) (ao bo : Option Addr) (ca cb : Nat) (xs : List It) (w : World) (hl : xs.length ≤ 1000000000) (ha : Rs w ao xs.length (is xs)) (hb : Rs w bo xs.length (is xs)) :
    Calls Try.prog 50 #[.agg #[.int .i64 z, .slice ao xs.length ca], .agg #[.int .i64 z, .slice bo xs.length cb]] w fun e w' => e = .returned (.bool true) ∧ Below w.heap.size w w' := by
  have HA : Hid (Rs w ao xs.length (is xs)) := ha
  have HB : Hid (Rs w bo xs.length (is xs)) := hb
  clear ha hb
  have b0 : ∀ (o p : Obj), Below w.heap.size w ((w.alloc o).alloc p) := fun o p => ((Below.refl _ _).alloc (Nat.le_refl _) _).alloc (by simp) _
  have HB0 : Hid (∀ (o p : Obj), Below w.heap.size w ((w.alloc o).alloc p)) := b0
  clear b0
  go_enter Try.func50, Try.ntmps50
  go_wp2_with (go_at_call 66; refine (eqItemS_same _ _ _ _ xs _ hl (HA.out.keep (HB0.out _ _)) (HB.out.keep (HB0.out _ _))).mono ?_; rintro e w1 ⟨rfl, hb1⟩)
  go_ret
  exact ⟨rfl, (HB0.out _ _).trans (hb1.mono (by simp; omega))⟩
end Go.Proofs.Ytmliinglojmojab.mk
/-
  CUTTING: the parts of a message; spec.Cut.
-/
namespace Go.Proofs.Ytmliinglojmojab.mk
open Go.RowKit
set_option linter.unusedVariables false

def cut (s : ByteArray) : List (ByteArray × Bool) :=
  if h : 20 < s.size then (s.extract 0 20, false) :: cut (s.extract 20 s.size) else [(s, true)]
termination_by s.size
decreasing_by simp [ByteArray.size_extract]; omega
theorem cut_step (s : ByteArray) (h : 20 < s.size) : cut s = (s.extract 0 20, false) :: cut (s.extract 20 s.size) := by rw [cut, dif_pos h]
theorem cut_last (s : ByteArray) (h : ¬ 20 < s.size) : cut s = [(s, true)] := by rw [cut, dif_neg h]
def cutOf (s : ByteArray) : List (ByteArray × Bool) := if s.size ≤ 200 then cut s else []
theorem info_part : (Try.prog.info? 99).map (fun i => (i.zero, i.size, i.bytes)) = some (some (.agg #[.string ⟨#[]⟩, .bool false]), 2, 24) := by kernel_rfl
theorem part_news (W : World) (s : ByteArray) (b : Bool) : ∀ j u, ([.string s, .bool b] : List Value)[j]? = some u → (W.alloc (.cells #[.string s, .bool b] 99)).cell? ((⟨W.heap.size, 0, none⟩ : Addr).add j) = some u := by
  intro j u hj
  match j, hj with
  | 0, hj => simp at hj; subst hj; simp [Addr.add]
  | 1, hj => simp at hj; subst hj; simp [Addr.add]
theorem part_one (s : ByteArray) (b : Bool) : ∀ u ∈ ([.string s, .bool b] : List Value), u.oneCell' = true := by
  intro u hu; simp at hu; rcases hu with rfl | rfl <;> rfl
theorem ext_size (s : ByteArray) (h : 20 < s.size) : (s.extract 20 s.size).size = s.size - 20 := by rw [ByteArray.size_extract]; omega
theorem below_app2 {B base : Nat} {w wr w1 : World} {e : TypeId} {size n : Nat} {o : Value} {xs : List Value} {ob : Obj} (h : Below B w wr) (hown : wr.ownsRow base e size o n xs) (hg : (wr.alloc ob).grownBy w1 o.ownBlock) (hB : B ≤ base := by omega) (hw : B ≤ w.heap.size := by omega) : Below B w w1 :=
  (h.alloc (Nat.le_trans hw h.size) ob).grown hg (by have := h.size; simp; omega) (fun k hk => Nat.le_trans hB (hown.lt k hk).1)
def szOf : Value → Nat
  | .string r => r.size
  | _ => 0
theorem cut_length (s : ByteArray) : (cut s).length * 20 ≤ s.size + 20 := by
  induction h : s.size using Nat.strongRecOn generalizing s with
  | _ m ih =>
    by_cases hlt : 20 < s.size
    · rw [cut_step s hlt]
      have hz := ext_size s hlt
      have := ih (s.size - 20) (by omega) (s.extract 20 s.size) hz
      simp only [List.length_cons]
      omega
    · rw [cut_last s hlt]; simp
end Go.Proofs.Ytmliinglojmojab.mk
/-
  AN ARGUMENT THAT IS A SLICE OF PARTS: its size, and its copy.
-/
namespace Go.Proofs.Ytmliinglojmojab.mk
open Go.RowKit
set_option linter.unusedVariables false

/-- a slice of parts that came in -/
structure Ap (w : World) (ao : Option Addr) (xs : List (ByteArray × Bool)) : Prop where
  ex : xs.length = 0 ∨ ∃ g o, ao = some ⟨g, o, none⟩ ∧ ∀ i (h : i < xs.length), w.cell? ⟨g, o + i * 2, none⟩ = some (.string xs[i].1) ∧ w.cell? ⟨g, o + i * 2 + 1, none⟩ = some (.bool xs[i].2)
theorem cell_lt {w : World} {a : Addr} {v : Value} (h : w.cell? a = some v) : a.block < w.heap.size := by
  rcases Nat.lt_or_ge a.block w.heap.size with hl | hl
  · exact hl
  · have : w.heap[a.block]? = none := Array.getElem?_eq_none hl
    simp [World.cell?, this] at h
theorem cell_keep {w w' : World} {a : Addr} {v : Value} (h : w.cell? a = some v) (hb : Below w.heap.size w w') : w'.cell? a = some v := (hb.cell (cell_lt h)).trans h
theorem Ap.keep {w w' : World} {ao : Option Addr} {xs : List (ByteArray × Bool)} (h : Ap w ao xs) (hb : Below w.heap.size w w') : Ap w' ao xs := by
  rcases h.ex with h | ⟨g, o, h1, h2⟩
  · exact ⟨.inl h⟩
  · exact ⟨.inr ⟨g, o, h1, fun i hi => ⟨cell_keep (h2 i hi).1 hb, cell_keep (h2 i hi).2 hb⟩⟩⟩
theorem szPart_any (s : ByteArray) (b : Bool) (z : Int) (w : World) (hs : s.size ≤ maxLen) (hz : 0 ≤ z ∧ z ≤ 1048576) :
    Calls Try.prog 77 #[.agg #[.string s, .bool b], .int .i64 z] w fun e w' => e = .returned (.int .i64 (if z < s.size then -1 else z - s.size)) ∧ Below w.heap.size w w' := by
  have hs' : (s.size : Int) ≤ 9223372036854775807 := by unfold maxLen at hs; omega
  by_cases h : z < s.size
  · rw [if_pos h]
    go_enter Try.func77, Try.ntmps77
    go_wp2
    go_ret
    exact ⟨rfl, (Below.refl _ _).alloc (Nat.le_refl _) _⟩
  · rw [if_neg h]
    go_enter Try.func77, Try.ntmps77
    go_wp2
    go_ret
    exact ⟨rfl, (Below.refl _ _).alloc (Nat.le_refl _) _⟩
theorem toPart_any (s : ByteArray) (b : Bool) (w : World) :
    Calls Try.prog 78 #[.agg #[.string s, .bool b]] w fun e w' => e = .returned (.agg #[.string s, .bool b]) ∧ Below w.heap.size w w' := by
  go_enter Try.func78, Try.ntmps78
  go_wp2
  exact bodyPost_ret (v := .agg #[.string s, .bool b]) (by simp [results, Try.results78, go_sem]) rfl
    ⟨rfl, (((Below.refl _ _).alloc (Nat.le_refl _) _).alloc (by simp) _).alloc (by simp; omega) _⟩
/-- the first k parts have been laid -/
def Tp (xs : List (ByteArray × Bool)) (k : Nat) (cs : List Value) : Prop := ∀ i (h : i < xs.length), i < k → cs[i * 2]? = some (.string xs[i].1) ∧ cs[i * 2 + 1]? = some (.bool xs[i].2)
theorem Tp.step {xs : List (ByteArray × Bool)} {k : Nat} {cs : List Value} (h : Tp xs k cs) (hk : k < xs.length) (hl : k * 2 + 1 < cs.length) :
    Tp xs (k + 1) ((cs.set (k * 2) (.string xs[k].1)).set (k * 2 + 1) (.bool xs[k].2)) := by
  intro j hj hj2
  rcases Nat.lt_or_ge j k with h1 | h1
  · rw [List.getElem?_set_ne (by omega), List.getElem?_set_ne (by omega), List.getElem?_set_ne (by omega), List.getElem?_set_ne (by omega)]
    exact h j hj h1
  · obtain rfl : j = k := by omega
    rw [List.getElem?_set_ne (by omega), List.getElem?_set_self (by omega), List.getElem?_set_self (by simp; omega)]
    exact ⟨rfl, rfl⟩
theorem Tp.all {xs : List (ByteArray × Bool)} {cs : List Value} (h : Tp xs xs.length cs) (hl : cs.length = xs.length * 2) : cs = ps xs := by
  apply List.ext_getElem?
  intro j
  rcases Nat.lt_or_ge j (xs.length * 2) with hj | hj
  · have hi : j / 2 < xs.length := by omega
    have a := h (j / 2) hi hi
    have b := ps_at xs (j / 2) hi
    rcases (show j = j / 2 * 2 ∨ j = j / 2 * 2 + 1 by omega) with e | e
    · rw [e, a.1, b.1]
    · rw [e, a.2, b.2]
  · rw [List.getElem?_eq_none (by omega), List.getElem?_eq_none (by rw [ps_length]; omega)]
end Go.Proofs.Ytmliinglojmojab.mk
/-
  AN ARGUMENT THAT IS A SEND: its size, and its copy.
-/
namespace Go.Proofs.Ytmliinglojmojab.mk
open Go.RowKit
set_option linter.unusedVariables false

/-- a slice of items that came in -/
structure Ai (w : World) (ao : Option Addr) (xs : List It) : Prop where
  ex : xs.length = 0 ∨ ∃ g o, ao = some ⟨g, o, none⟩ ∧ ∀ i (h : i < xs.length), w.cell? ⟨g, o + i * 4, none⟩ = some (.string xs[i].text) ∧ w.cell? ⟨g, o + i * 4 + 1, none⟩ = some (.bool xs[i].last) ∧ w.cell? ⟨g, o + i * 4 + 2, none⟩ = some (.bool xs[i].has) ∧ w.cell? ⟨g, o + i * 4 + 3, none⟩ = some (.int .i64 xs[i].since)
theorem Ai.keep {w w' : World} {ao : Option Addr} {xs : List It} (h : Ai w ao xs) (hb : Below w.heap.size w w') : Ai w' ao xs := by
  rcases h.ex with h | ⟨g, o, h1, h2⟩
  · exact ⟨.inl h⟩
  · exact ⟨.inr ⟨g, o, h1, fun i hi => ⟨cell_keep (h2 i hi).1 hb, cell_keep (h2 i hi).2.1 hb, cell_keep (h2 i hi).2.2.1 hb, cell_keep (h2 i hi).2.2.2 hb⟩⟩⟩
theorem szItem_any (s : ByteArray) (l h : Bool) (n : Int) (z : Int) (w : World) (hs : s.size ≤ maxLen) (hz : 0 ≤ z ∧ z ≤ 1048576) :
    Calls Try.prog 69 #[.agg #[.string s, .bool l, .bool h, .int .i64 n], .int .i64 z] w fun e w' => e = .returned (.int .i64 (if z < s.size then -1 else z - s.size)) ∧ Below w.heap.size w w' := by
  by_cases hb : z < s.size
  · rw [if_pos hb]
    go_enter Try.func69, Try.ntmps69
    go_wp2_with (go_at_call 77; refine (szPart_any _ _ _ _ hs hz).mono ?_; rintro e w2 ⟨rfl, hb2⟩; rw [if_pos hb])
    go_ret
    exact ⟨rfl, ((Below.refl _ _).alloc (Nat.le_refl _) _).trans (hb2.mono (by simp))⟩
  · rw [if_neg hb]
    go_enter Try.func69, Try.ntmps69
    go_wp2_with (go_at_call 77; refine (szPart_any _ _ _ _ hs hz).mono ?_; rintro e w2 ⟨rfl, hb2⟩; rw [if_neg hb])
    go_ret
    exact ⟨rfl, ((Below.refl _ _).alloc (Nat.le_refl _) _).trans (hb2.mono (by simp))⟩
theorem szItemS_any (ao : Option Addr) (cap : Nat) (xs : List It) (z : Int) (w : World) (hz : 0 ≤ z ∧ z ≤ 1048576) (hm : xs.length ≤ maxLen) (hs : ∀ i (h : i < xs.length), xs[i].text.size ≤ maxLen) (ha : Ai w ao xs) :
    Calls Try.prog 52 #[.slice ao xs.length cap, .int .i64 z] w fun e w' => (∃ z : Int, e = .returned (.int .i64 z) ∧ (0 ≤ z → z ≤ 1048576 ∧ xs.length ≤ 1048576 ∧ ∀ i (h : i < xs.length), xs[i].text.size ≤ 1048576) ∧ -1 ≤ z) ∧ Below w.heap.size w w' := by
  have HA : Hid (Ai w ao xs) := ha
  have HS : Hid (∀ i (h : i < xs.length), xs[i].text.size ≤ maxLen) := hs
  have hm' : (xs.length : Int) ≤ 9223372036854775807 := by unfold maxLen at hm; omega
  clear ha hs
  by_cases h0 : z < xs.length
  · go_enter Try.func52, Try.ntmps52
    go_wp2
    go_ret
    exact ⟨⟨-1, rfl, fun h => by omega, by omega⟩, Below.refl _ _⟩
  · go_enter Try.func52, Try.ntmps52
    go_wp2
    go_loopw [1, 5] (fun q i wr => ∃ (k : Nat) (y : Int), k ≤ xs.length ∧ i = .int .i64 k ∧ q = .int .i64 y ∧ 0 ≤ y ∧ y ≤ 1048576 ∧ (∀ j (h : j < xs.length), j < k → xs[j].text.size ≤ 1048576) ∧ Below w.heap.size w wr) (fun _ i _ => xs.length - (intOf i).toNat)
    case atStart => exact ⟨0, z - xs.length, Nat.zero_le _, rfl, rfl, by omega, by omega, fun j _ h => absurd h (by omega), Below.refl _ _⟩
    case round =>
      obtain ⟨k, y, hk, rfl, rfl, hy0, hy1, hall, hbel⟩ := hrel
      have HL : Hid (∀ j (h : j < xs.length), j < k → xs[j].text.size ≤ 1048576) := hall
      clear hall
      by_cases hlt : k < xs.length
      · rcases HA.out.ex with h | ⟨g, o, rfl, hac⟩
        · omega
        have hsz := HS.out k hlt
        obtain ⟨q0, q1, q2, q3⟩ := hac k hlt
        have c0 := (hbel.cell (cell_lt q0)).trans q0
        have c1 := (hbel.cell (cell_lt q1)).trans q1
        have c2 := (hbel.cell (cell_lt q2)).trans q2
        have c3 := (hbel.cell (cell_lt q3)).trans q3
        clear hac q0 q1 q2 q3
        obtain ⟨s, hs⟩ : ∃ s, s = xs[k].text := ⟨_, rfl⟩
        rw [← hs] at hsz c0
        have HSZ : Hid (s = xs[k].text) := hs
        clear hs
        generalize xs[k].last = l at *
        generalize xs[k].has = h at *
        generalize xs[k].since = n at *
        by_cases hbig : y < s.size
        · go_wp2_with (go_at_call 69; refine (szItem_any _ _ _ _ _ _ hsz ⟨hy0, hy1⟩).mono ?_; rintro e w2 ⟨rfl, hb2⟩; rw [if_pos hbig])
          go_ret
          exact ⟨⟨-1, rfl, fun h => by omega, by omega⟩, hbel.trans (hb2.mono hbel.size)⟩
        · go_wp2_with (go_at_call 69; refine (szItem_any _ _ _ _ _ _ hsz ⟨hy0, hy1⟩).mono ?_; rintro e w2 ⟨rfl, hb2⟩; rw [if_neg hbig])
          go_roundw
          case rel =>
            refine ⟨k + 1, y - s.size, by omega, by go_num, rfl, by omega, by omega, fun j h hj => ?_, hbel.trans (hb2.mono hbel.size)⟩
            rcases Nat.lt_or_ge j k with h1 | h1
            · exact HL.out j h h1
            · obtain rfl : j = k := by omega
              rw [← HSZ.out]; omega
          case measure => simp [intOf]; omega
      · obtain rfl : k = xs.length := by omega
        go_wp2
        go_ret
        exact ⟨⟨y, rfl, fun _ => ⟨hy1, by omega, fun i h => HL.out i h h⟩, by omega⟩, hbel⟩
theorem szSend_any (b : Int) (ao : Option Addr) (cap : Nat) (xs : List It) (z : Int) (w : World) (hz : 0 ≤ z ∧ z ≤ 1048576) (hm : xs.length ≤ maxLen) (hs : ∀ i (h : i < xs.length), xs[i].text.size ≤ maxLen) (ha : Ai w ao xs) :
    Calls Try.prog 37 #[.agg #[.int .i64 b, .slice ao xs.length cap], .int .i64 z] w fun e w' => (∃ z : Int, e = .returned (.int .i64 z) ∧ (0 ≤ z → z ≤ 1048576 ∧ xs.length ≤ 1048576 ∧ ∀ i (h : i < xs.length), xs[i].text.size ≤ 1048576) ∧ -1 ≤ z) ∧ Below w.heap.size w w' := by
  have HA : Hid (Ai w ao xs) := ha
  have HS : Hid (∀ i (h : i < xs.length), xs[i].text.size ≤ maxLen) := hs
  have HB0 : Hid (∀ o : Obj, Below w.heap.size w (w.alloc o)) := fun o => (Below.refl _ _).alloc (Nat.le_refl _) _
  clear ha hs
  go_enter Try.func37, Try.ntmps37
  go_wp2_with (go_at_call 52; refine (szItemS_any ao cap xs _ _ hz hm HS.out (HA.out.keep (HB0.out _))).mono ?_; rintro e w1 ⟨⟨y, rfl, hy, hy1⟩, hb1⟩)
  · go_ret
    exact ⟨⟨-1, rfl, fun h => by omega, by omega⟩, (HB0.out _).trans (hb1.mono (by simp))⟩
  · go_ret
    exact ⟨⟨y, rfl, hy, hy1⟩, (HB0.out _).trans (hb1.mono (by simp))⟩
theorem toItem_any (s : ByteArray) (l h : Bool) (n : Int) (w : World) :
    Calls Try.prog 71 #[.agg #[.string s, .bool l, .bool h, .int .i64 n]] w fun e w' => e = .returned (.agg #[.string s, .bool l, .bool h, .int .i64 n]) ∧ Below w.heap.size w w' := by
  go_enter Try.func71, Try.ntmps71
  go_wp2_with (go_at_call 78; refine (toPart_any _ _ _).mono ?_; rintro e w1 ⟨rfl, hb1⟩; (have c2 := hb1.cell (p := ⟨w.heap.size, 2, none⟩) (by simp <;> omega)); (have c3 := hb1.cell (p := ⟨w.heap.size, 3, none⟩) (by simp <;> omega)); (have x0 := hb1.cell (p := ⟨w.heap.size + 1 + 1, 0, none⟩) (by simp <;> omega)); (have y0 := hb1.cell (p := ⟨w.heap.size + 1, 0, none⟩) (by simp <;> omega)); (have z0 := hb1.frozen (p := ⟨w.heap.size + 1 + 1, 0, none⟩) (by simp <;> omega)); (have u0 := hb1.frozen (p := ⟨w.heap.size + 1, 0, none⟩) (by simp <;> omega)); (have x1 := hb1.cell (p := ⟨w.heap.size + 1 + 1, 1, none⟩) (by simp <;> omega)); (have y1 := hb1.cell (p := ⟨w.heap.size + 1, 1, none⟩) (by simp <;> omega)); (have z1 := hb1.frozen (p := ⟨w.heap.size + 1 + 1, 1, none⟩) (by simp <;> omega)); (have u1 := hb1.frozen (p := ⟨w.heap.size + 1, 1, none⟩) (by simp <;> omega)); (have x2 := hb1.cell (p := ⟨w.heap.size + 1 + 1, 2, none⟩) (by simp <;> omega)); (have y2 := hb1.cell (p := ⟨w.heap.size + 1, 2, none⟩) (by simp <;> omega)); (have z2 := hb1.frozen (p := ⟨w.heap.size + 1 + 1, 2, none⟩) (by simp <;> omega)); (have u2 := hb1.frozen (p := ⟨w.heap.size + 1, 2, none⟩) (by simp <;> omega)); (have x3 := hb1.cell (p := ⟨w.heap.size + 1 + 1, 3, none⟩) (by simp <;> omega)); (have y3 := hb1.cell (p := ⟨w.heap.size + 1, 3, none⟩) (by simp <;> omega)); (have z3 := hb1.frozen (p := ⟨w.heap.size + 1 + 1, 3, none⟩) (by simp <;> omega)); (have u3 := hb1.frozen (p := ⟨w.heap.size + 1, 3, none⟩) (by simp <;> omega)); simp [go_sem] at c2 c3 x0 y0 z0 u0 x1 y1 z1 u1 x2 y2 z2 u2 x3 y3 z3 u3)
  have b1 : Below w.heap.size w w1 := ((((Below.refl _ _).alloc (Nat.le_refl _) _).alloc (by simp) _).alloc (by simp; omega) _).trans (hb1.mono (by simp; omega))
  exact bodyPost_ret (v := .agg #[.string s, .bool l, .bool h, .int .i64 n]) (by simp [results, Try.results71, go_sem, y0, y1, y2, y3]) rfl ⟨rfl, ((((((((b1.setCell (p := ⟨w.heap.size + 1 + 1, 0, none⟩) (by simp <;> omega) _).setCell (p := ⟨w.heap.size + 1 + 1, 1, none⟩) (by simp <;> omega) _).setCell (p := ⟨w.heap.size + 1 + 1, 2, none⟩) (by simp <;> omega) _).setCell (p := ⟨w.heap.size + 1 + 1, 3, none⟩) (by simp <;> omega) _).setCell (p := ⟨w.heap.size + 1, 0, none⟩) (by simp <;> omega) _).setCell (p := ⟨w.heap.size + 1, 1, none⟩) (by simp <;> omega) _).setCell (p := ⟨w.heap.size + 1, 2, none⟩) (by simp <;> omega) _).setCell (p := ⟨w.heap.size + 1, 3, none⟩) (by simp <;> omega) _)⟩
/-- the first k items have been laid -/
def Ti (xs : List It) (k : Nat) (cs : List Value) : Prop := ∀ i (h : i < xs.length), i < k → cs[i * 4]? = some (.string xs[i].text) ∧ cs[i * 4 + 1]? = some (.bool xs[i].last) ∧ cs[i * 4 + 2]? = some (.bool xs[i].has) ∧ cs[i * 4 + 3]? = some (.int .i64 xs[i].since)
/-- item k is laid over four cells -/
def put4 (cs : List Value) (k : Nat) (a b c d : Value) : List Value := (((cs.set (k * 4) a).set (k * 4 + 1) b).set (k * 4 + 2) c).set (k * 4 + 3) d
theorem put4_at {cs : List Value} {k : Nat} {a b c d : Value} (hl : k * 4 + 3 < cs.length) : (put4 cs k a b c d)[k * 4]? = some a ∧ (put4 cs k a b c d)[k * 4 + 1]? = some b ∧ (put4 cs k a b c d)[k * 4 + 2]? = some c ∧ (put4 cs k a b c d)[k * 4 + 3]? = some d := by
  unfold put4
  refine ⟨?_, ?_, ?_, ?_⟩
  · rw [List.getElem?_set_ne (by omega), List.getElem?_set_ne (by omega), List.getElem?_set_ne (by omega), List.getElem?_set_self (by omega)]
  · rw [List.getElem?_set_ne (by omega), List.getElem?_set_ne (by omega), List.getElem?_set_self (by simp; omega)]
  · rw [List.getElem?_set_ne (by omega), List.getElem?_set_self (by simp; omega)]
  · rw [List.getElem?_set_self (by simp; omega)]
theorem put4_other {cs : List Value} {k j : Nat} {a b c d : Value} (h : j < k * 4 ∨ k * 4 + 3 < j) : (put4 cs k a b c d)[j]? = cs[j]? := by
  unfold put4
  rw [List.getElem?_set_ne (by omega), List.getElem?_set_ne (by omega), List.getElem?_set_ne (by omega), List.getElem?_set_ne (by omega)]
theorem put4_length (cs : List Value) (k : Nat) (a b c d : Value) : (put4 cs k a b c d).length = cs.length := by simp [put4]
theorem Ti.step {xs : List It} {k : Nat} {cs : List Value} (h : Ti xs k cs) (hk : k < xs.length) (hl : k * 4 + 3 < cs.length) :
    Ti xs (k + 1) (put4 cs k (.string xs[k].text) (.bool xs[k].last) (.bool xs[k].has) (.int .i64 xs[k].since)) := by
  intro j hj hj2
  rcases Nat.lt_or_ge j k with h1 | h1
  · rw [put4_other (by omega), put4_other (by omega), put4_other (by omega), put4_other (by omega)]
    exact h j hj h1
  · obtain rfl : j = k := by omega
    exact put4_at hl
theorem Ti.all {xs : List It} {cs : List Value} (h : Ti xs xs.length cs) (hl : cs.length = xs.length * 4) : cs = is xs := by
  apply List.ext_getElem?
  intro j
  rcases Nat.lt_or_ge j (xs.length * 4) with hj | hj
  · have hi : j / 4 < xs.length := by omega
    have a := h (j / 4) hi hi
    have b := is_at xs (j / 4) hi
    rcases (show j = j / 4 * 4 ∨ j = j / 4 * 4 + 1 ∨ j = j / 4 * 4 + 2 ∨ j = j / 4 * 4 + 3 by omega) with e | e | e | e
    · rw [e, a.1, b.1]
    · rw [e, a.2.1, b.2.1]
    · rw [e, a.2.2.1, b.2.2.1]
    · rw [e, a.2.2.2, b.2.2.2]
  · rw [List.getElem?_eq_none (by omega), List.getElem?_eq_none (by rw [is_length]; omega)]
theorem owns_put4 {w : World} {base g n cap : Nat} {e : TypeId} {cs : List Value} (h : w.ownsRow base e 4 (.slice (some ⟨g, 0, none⟩) n cap) n cs) (k : Nat) (a b c d : Value) :
    ((((w.setCell ⟨g, k * 4, none⟩ a).setCell ⟨g, k * 4 + 1, none⟩ b).setCell ⟨g, k * 4 + 2, none⟩ c).setCell ⟨g, k * 4 + 3, none⟩ d).ownsRow base e 4 (.slice (some ⟨g, 0, none⟩) n cap) n (put4 cs k a b c d) :=
  ((((h.stored (k * 4) a).1.stored (k * 4 + 1) b).1.stored (k * 4 + 2) c).1.stored (k * 4 + 3) d).1
theorem below_put4 {B g : Nat} {w w1 : World} (h : Below B w w1) (hg : B ≤ g) (k : Nat) (a b c d : Value) :
    Below B w ((((w1.setCell ⟨g, k * 4, none⟩ a).setCell ⟨g, k * 4 + 1, none⟩ b).setCell ⟨g, k * 4 + 2, none⟩ c).setCell ⟨g, k * 4 + 3, none⟩ d) :=
  (((h.setCell (p := ⟨g, k * 4, none⟩) hg _).setCell (p := ⟨g, k * 4 + 1, none⟩) hg _).setCell (p := ⟨g, k * 4 + 2, none⟩) hg _).setCell (p := ⟨g, k * 4 + 3, none⟩) hg _
theorem info_item : (Try.prog.info? 101).map (fun i => (i.zero, i.size, i.bytes)) = some (some (.agg #[.string ⟨#[]⟩, .bool false, .bool false, .int .i64 0]), 4, 40) := by kernel_rfl
set_option maxRecDepth 100000 in
theorem toItemS_any (ao : Option Addr) (cap : Nat) (xs : List It) (w : World) (hm : xs.length ≤ 1048576) (ha : Ai w ao xs) :
    Calls Try.prog 57 #[.slice ao xs.length cap] w fun e w' => (∃ g, e = .returned (.slice (some ⟨g, 0, none⟩) xs.length xs.length) ∧ w'.ownsRow w.heap.size 101 4 (.slice (some ⟨g, 0, none⟩) xs.length xs.length) xs.length (is xs)) ∧ Below w.heap.size w w' := by
  have HA : Hid (Ai w ao xs) := ha
  clear ha
  obtain ⟨i0, hi, hz0, hz1, hz2⟩ := info_parts info_item
  go_enter Try.func57, Try.ntmps57
  go_wp2_with (at_make; refine wpList_make_full _ rfl _ _ 40 rfl w.heap.size 101 i0 (.agg #[.string ⟨#[]⟩, .bool false, .bool false, .int .i64 0]) 4 Try.underlying40 hi hz0 hz1 _ _ _ _ xs.length rfl rfl rfl rfl (by rw [hz2]; omega) (by unfold maxLen; omega) (Nat.le_refl _) ?_)
  intro w1 hown hgrow
  have hb1 : Below w.heap.size w w1 := (Below.refl _ _).grown hgrow (Nat.le_refl _) (fun k h => by cases h)
  go_wp2
  go_loopw [4] (fun i wr => ∃ (k : Nat) (cs : List Value), k ≤ xs.length ∧ i = .int .i64 k ∧ wr.ownsRow w.heap.size 101 4 (.slice (some ⟨w.heap.size, 0, none⟩) xs.length xs.length) xs.length cs ∧ Ti xs k cs ∧ Below w.heap.size w wr) (fun i _ => xs.length - (intOf i).toNat)
  case atStart => exact ⟨0, _, Nat.zero_le _, rfl, hown, fun i _ h => absurd h (by omega), hb1⟩
  case round =>
    clear hown hgrow hb1
    obtain ⟨k, cs, hk, rfl, hown, hT, hbel⟩ := hrel
    by_cases hlt : k < xs.length
    · rcases HA.out.ex with h | ⟨g, o, rfl, hac⟩
      · omega
      have hcl := hown.1
      obtain ⟨q0, q1, q2, q3⟩ := hac k hlt
      have c0 := (hbel.cell (cell_lt q0)).trans q0
      have c1 := (hbel.cell (cell_lt q1)).trans q1
      have c2 := (hbel.cell (cell_lt q2)).trans q2
      have c3 := (hbel.cell (cell_lt q3)).trans q3
      clear hac q0 q1 q2 q3
      have HT : Hid (Ti xs (k + 1) (put4 cs k (.string xs[k].text) (.bool xs[k].last) (.bool xs[k].has) (.int .i64 xs[k].since))) := hT.step hlt (by omega)
      generalize xs[k].text = s at *
      generalize xs[k].last = l at *
      generalize xs[k].has = h at *
      generalize xs[k].since = n at *
      have HW : Hid (wr.ownsRow w.heap.size 101 4 (.slice (some ⟨w.heap.size, 0, none⟩) xs.length xs.length) xs.length cs) := hown
      clear hown hT
      go_wp2_with (go_at_call 71; refine (toItem_any _ _ _ _ _).mono ?_; rintro e w2 ⟨rfl, hb2⟩; (have ho2 := HW.out.kept (grow_below none hb2) (.inr (by simp [Value.ownBlock]))); (have e0 := ho2.cellAt (k * 4) (by omega)); (have e1 := ho2.cellAt (k * 4 + 1) (by omega)); (have e2 := ho2.cellAt (k * 4 + 2) (by omega)); (have e3 := ho2.cellAt (k * 4 + 3) (by omega)); (rw [List.getElem?_eq_getElem (by omega)] at e0 e1 e2 e3); (have f0 := ho2.frozenAt (k * 4)); (have f1 := ho2.frozenAt (k * 4 + 1)); (have f2 := ho2.frozenAt (k * 4 + 2)); (have f3 := ho2.frozenAt (k * 4 + 3)))
      go_roundw
      case rel => exact ⟨k + 1, _, by omega, by go_num, owns_put4 ho2 k _ _ _ _, HT.out, below_put4 (hbel.trans (hb2.mono hbel.size)) (Nat.le_refl _) k _ _ _ _⟩
      case measure => simp [intOf]; omega
    · obtain rfl : k = xs.length := by omega
      have hcs := hT.all hown.1
      subst hcs
      go_wp2
      go_ret
      exact ⟨⟨w.heap.size, rfl, hown⟩, hbel⟩
theorem owns_mono {w : World} {base base' : Nat} {e : TypeId} {size : Nat} {v : Value} {n : Nat} {xs : List Value} (h : w.ownsRow base e size v n xs) (hb : base' ≤ base) : w.ownsRow base' e size v n xs := by
  refine ⟨h.1, ?_⟩
  rcases h.2 with h2 | ⟨g, cap, cur, h1, h2, h3⟩
  · exact .inl h2
  · exact .inr ⟨g, cap, cur, h1, Nat.le_trans hb h2, h3⟩
theorem toSend_any (b : Int) (ao : Option Addr) (cap : Nat) (xs : List It) (w : World) (hm : xs.length ≤ 1048576) (ha : Ai w ao xs) :
    Calls Try.prog 43 #[.agg #[.int .i64 b, .slice ao xs.length cap]] w fun e w' => (∃ g, e = .returned (.agg #[.int .i64 b, .slice (some ⟨g, 0, none⟩) xs.length xs.length]) ∧ w'.ownsRow w.heap.size 101 4 (.slice (some ⟨g, 0, none⟩) xs.length xs.length) xs.length (is xs)) ∧ Below w.heap.size w w' := by
  have HA : Hid (Ai w ao xs) := ha
  have HB0 : Hid (∀ o p q : Obj, Below w.heap.size w (((w.alloc o).alloc p).alloc q)) := fun o p q => (((Below.refl _ _).alloc (Nat.le_refl _) _).alloc (by simp) _).alloc (by simp; omega) _
  clear ha
  go_enter Try.func43, Try.ntmps43
  go_wp2_with (go_at_call 57; refine (toItemS_any ao cap xs _ hm (HA.out.keep (by first | exact HB0.out _ _ _ | exact ((HB0.out _ _ _).setCell (by simp <;> omega) _)))).mono ?_; rintro e w1 ⟨⟨g, rfl, ho1⟩, hb1⟩; (have x0 := hb1.cell (p := ⟨w.heap.size + 1 + 1, 0, none⟩) (by simp <;> omega)); (have y0 := hb1.cell (p := ⟨w.heap.size + 1, 0, none⟩) (by simp <;> omega)); (have z0 := hb1.frozen (p := ⟨w.heap.size + 1 + 1, 0, none⟩) (by simp <;> omega)); (have u0 := hb1.frozen (p := ⟨w.heap.size + 1, 0, none⟩) (by simp <;> omega)); (have x1 := hb1.cell (p := ⟨w.heap.size + 1 + 1, 1, none⟩) (by simp <;> omega)); (have y1 := hb1.cell (p := ⟨w.heap.size + 1, 1, none⟩) (by simp <;> omega)); (have z1 := hb1.frozen (p := ⟨w.heap.size + 1 + 1, 1, none⟩) (by simp <;> omega)); (have u1 := hb1.frozen (p := ⟨w.heap.size + 1, 1, none⟩) (by simp <;> omega)); simp [go_sem] at x0 y0 z0 u0 x1 y1 z1 u1)
  have b1 : Below w.heap.size w w1 := (HB0.out _ _ _).trans (hb1.mono (by simp; omega))
  have o1 := ownsRow_setCell_below (ownsRow_setCell_below (ownsRow_setCell_below ho1 (a := ⟨w.heap.size + 1 + 1, 1, none⟩) (by simp) (.slice (some ⟨g, 0, none⟩) xs.length xs.length)) (a := ⟨w.heap.size + 1, 0, none⟩) (by simp) (.int .i64 b)) (a := ⟨w.heap.size + 1, 1, none⟩) (by simp) (.slice (some ⟨g, 0, none⟩) xs.length xs.length)
  exact bodyPost_ret (v := .agg #[.int .i64 b, .slice (some ⟨g, 0, none⟩) xs.length xs.length]) (by simp [results, Try.results43, go_sem, y0, y1]) rfl ⟨⟨g, rfl, owns_mono o1 (by simp; omega)⟩, ((b1.setCell (p := ⟨w.heap.size + 1 + 1, 1, none⟩) (by simp <;> omega) _).setCell (p := ⟨w.heap.size + 1, 0, none⟩) (by simp <;> omega) _).setCell (p := ⟨w.heap.size + 1, 1, none⟩) (by simp <;> omega) _⟩
end Go.Proofs.Ytmliinglojmojab.mk
/-
  TAKES: a slice of held parts as cells; what the laws' eq functions say of two that are alike.
-/
namespace Go.Proofs.Ytmliinglojmojab.mk
open Go.RowKit
set_option linter.unusedVariables false

/-- a held part: its number, text, last -/
structure Hd where
  seq : Int
  text : ByteArray
  last : Bool
instance : Inhabited Hd := ⟨⟨0, ⟨#[]⟩, false⟩⟩
def Hd.vals (x : Hd) : List Value := [.int .i64 x.seq, .string x.text, .bool x.last]
def hs (xs : List Hd) : List Value := xs.flatMap Hd.vals
theorem hs_length (xs : List Hd) : (hs xs).length = xs.length * 3 := by
  induction xs with
  | nil => rfl
  | cons x xs ih => simp only [hs, Hd.vals, List.flatMap_cons, List.length_append, List.length_cons, List.length_nil] at ih ⊢; omega
theorem hs_append (xs ys : List Hd) : hs (xs ++ ys) = hs xs ++ hs ys := by simp [hs]
theorem hs_at (xs : List Hd) (i : Nat) (h : i < xs.length) : (hs xs)[i * 3]? = some (.int .i64 xs[i].seq) ∧ (hs xs)[i * 3 + 1]? = some (.string xs[i].text) ∧ (hs xs)[i * 3 + 2]? = some (.bool xs[i].last) := by
  induction xs generalizing i with
  | nil => simp at h
  | cons x xs ih =>
    cases i with
    | zero => simp [hs, Hd.vals]
    | succ i =>
      have := ih i (by simpa using h)
      have e : (i + 1) * 3 = i * 3 + 3 := by omega
      rw [e]
      simpa [hs, Hd.vals] using this
/-- the cells of held part i, in a world that keeps what lay -/
theorem Rs.held {w wr : World} {g n : Nat} {xs : List Hd} (hg : g < w.heap.size) (h : ∀ j, j < (hs xs).length → w.cell? ⟨g, j, none⟩ = (hs xs)[j]?) (hb : Below w.heap.size w wr) (i : Nat) (hi : i < xs.length) :
    wr.cell? ⟨g, i * 3, none⟩ = some (.int .i64 xs[i].seq) ∧ wr.cell? ⟨g, i * 3 + 1, none⟩ = some (.string xs[i].text) ∧ wr.cell? ⟨g, i * 3 + 2, none⟩ = some (.bool xs[i].last) := by
  have hx := hs_at xs i hi
  have hl := hs_length xs
  exact ⟨(hb.cell (p := ⟨g, i * 3, none⟩) hg).trans ((h _ (by omega)).trans hx.1), (hb.cell (p := ⟨g, i * 3 + 1, none⟩) hg).trans ((h _ (by omega)).trans hx.2.1), (hb.cell (p := ⟨g, i * 3 + 2, none⟩) hg).trans ((h _ (by omega)).trans hx.2.2)⟩
theorem eqHeld_same (n : Int) (s : ByteArray) (l : Bool) (w : World) :
    Calls Try.prog 76 #[.agg #[.int .i64 n, .string s, .bool l], .agg #[.int .i64 n, .string s, .bool l]] w fun e w' => e = .returned (.bool true) ∧ Below w.heap.size w w' := by
  go_enter Try.func76, Try.ntmps76
  go_wp2_with (go_at_call 82; refine (eqPart_same _ _ _).mono ?_; rintro e w1 ⟨rfl, hb1⟩)
  go_ret
  exact ⟨rfl, (((Below.refl _ _).alloc (Nat.le_refl _) _).alloc (by simp) _).trans (hb1.mono (by simp; omega))⟩
theorem eqHeldS_same (ao bo : Option Addr) (ca cb : Nat) (xs : List Hd) (w : World) (hl : xs.length ≤ 1000000000) (ha : Rs w ao xs.length (hs xs)) (hb : Rs w bo xs.length (hs xs)) :
    Calls Try.prog 67 #[.slice ao xs.length ca, .slice bo xs.length cb] w fun e w' => e = .returned (.bool true) ∧ Below w.heap.size w w' := by
  have HA : Hid (Rs w ao xs.length (hs xs)) := ha
  have HB : Hid (Rs w bo xs.length (hs xs)) := hb
  clear ha hb
  go_enter Try.func67, Try.ntmps67
  go_wp2
  go_loopw [5] (fun i wr => ∃ k : Nat, k ≤ xs.length ∧ i = .int .i64 k ∧ Below w.heap.size w wr) (fun i _ => xs.length - (intOf i).toNat)
  case atStart => exact ⟨0, Nat.zero_le _, rfl, Below.refl _ _⟩
  case round =>
    obtain ⟨k, hk, rfl, hbel⟩ := hrel
    by_cases hlt : k < xs.length
    · rcases HA.out.ex with h | ⟨g, rfl, hg, hgc⟩
      · omega
      rcases HB.out.ex with h | ⟨g', rfl, hg', hgc'⟩
      · omega
      obtain ⟨a0, a1, a2⟩ := Rs.held (n := 0) hg hgc hbel k hlt
      obtain ⟨b0, b1, b2⟩ := Rs.held (n := 0) hg' hgc' hbel k hlt
      have hgr : g < wr.heap.size := Nat.lt_of_lt_of_le hg hbel.size
      have hgr' : g' < wr.heap.size := Nat.lt_of_lt_of_le hg' hbel.size
      clear hgc hgc'
      generalize xs[k].text = s at *
      generalize xs[k].last = l at *
      generalize xs[k].seq = n at *
      go_wp2
      go_region_held3 (fun w' => w'.cell? ⟨g, k * 3, none⟩ = some (.int .i64 n) ∧ w'.cell? ⟨g, k * 3 + 1, none⟩ = some (.string s) ∧ w'.cell? ⟨g, k * 3 + 2, none⟩ = some (.bool l) ∧ w'.cell? ⟨g', k * 3, none⟩ = some (.int .i64 n) ∧ w'.cell? ⟨g', k * 3 + 1, none⟩ = some (.string s) ∧ w'.cell? ⟨g', k * 3 + 2, none⟩ = some (.bool l) ∧ Below wr.heap.size wr w')
        (first | assumption | exact ⟨a0, a1, a2, b0, b1, b2, (Below.refl _ _).drew⟩ | (go_split_ands; refine ⟨kp (by assumption) (by assumption) hb2 hgr, kp (by assumption) (by assumption) hb2 hgr, kp (by assumption) (by assumption) hb2 hgr, kp (by assumption) (by assumption) hb2 hgr', kp (by assumption) (by assumption) hb2 hgr', kp (by assumption) (by assumption) hb2 hgr', kb (by assumption) hb2 (Nat.le_refl _)⟩))
        (first | (go_at_call 76; refine (eqHeld_same _ _ _ _).mono ?_; rintro e w2 ⟨rfl, hb2⟩))
      have hbl : Below wr.heap.size wr w2 := by go_split_ands; assumption
      go_wp2
      go_roundw
      case rel => exact ⟨k + 1, by omega, by go_num, hbel.trans (hbl.mono hbel.size)⟩
      case measure => simp [intOf]; omega
    · obtain rfl : k = xs.length := by omega
      go_wp2
      go_ret
      exact ⟨rfl, hbel⟩
/-- a Take that is to be read: its held parts and its messages -/
structure Rt (w : World) (ao so : Option Addr) (xs : List Hd) (rs : List ByteArray) : Prop where
  held : Rs w ao xs.length (hs xs)
  ready : Rs w so rs.length (ss rs)
theorem Rt.keep {w w' : World} {ao so : Option Addr} {xs : List Hd} {rs : List ByteArray} (h : Rt w ao so xs rs) (hb : Below w.heap.size w w') : Rt w' ao so xs rs := ⟨h.held.keep hb, h.ready.keep hb⟩
theorem eqTake_same (z : Int) (ao so bo to : Option Addr) (ca cs cb ct : Nat) (xs : List Hd) (o : ByteArray) (rs : List ByteArray) (w : World) (hl : xs.length ≤ 1000000000) (hl2 : rs.length ≤ 1000000000) (ha : Rt w ao so xs rs) (hb : Rt w bo to xs rs) :
    Calls Try.prog 51 #[.agg #[.int .i64 z, .slice ao xs.length ca, .string o, .slice so rs.length cs], .agg #[.int .i64 z, .slice bo xs.length cb, .string o, .slice to rs.length ct]] w fun e w' => e = .returned (.bool true) ∧ Below w.heap.size w w' := by
  have HA : Hid (Rt w ao so xs rs) := ha
  have HB : Hid (Rt w bo to xs rs) := hb
  clear ha hb
  have b0 : ∀ (o p : Obj), Below w.heap.size w ((w.alloc o).alloc p) := fun o p => ((Below.refl _ _).alloc (Nat.le_refl _) _).alloc (by simp) _
  have HB0 : Hid (∀ (o p : Obj), Below w.heap.size w ((w.alloc o).alloc p)) := b0
  clear b0
  go_enter Try.func51, Try.ntmps51
  go_wp2_with (first
    | (go_at_call 67; refine (eqHeldS_same _ _ _ _ xs _ hl (HA.out.held.keep (HB0.out _ _)) (HB.out.held.keep (HB0.out _ _))).mono ?_; rintro e w1 ⟨rfl, hb1⟩; (have c2 := hb1.cell (p := ⟨w.heap.size, 2, none⟩) (by simp; omega)); (have c3 := hb1.cell (p := ⟨w.heap.size, 3, none⟩) (by simp; omega)); (have d2 := hb1.cell (p := ⟨w.heap.size + 1, 2, none⟩) (by simp)); (have d3 := hb1.cell (p := ⟨w.heap.size + 1, 3, none⟩) (by simp)); simp [go_sem] at c2 c3 d2 d3)
    | (go_at_call 68; refine (eqStringS_same _ _ _ _ rs _ hl2 ((HA.out.ready.keep (HB0.out _ _)).keep hb1) ((HB.out.ready.keep (HB0.out _ _)).keep hb1)).mono ?_; rintro e w2 ⟨rfl, hb2⟩))
  go_ret
  exact ⟨rfl, kb (kb (HB0.out _ _) hb1 (Nat.le_refl _)) hb2 (Nat.le_refl _)⟩
end Go.Proofs.Ytmliinglojmojab.mk
/-
  AN ARGUMENT THAT IS A TAKE: its size, and its copy.
-/
namespace Go.Proofs.Ytmliinglojmojab.mk
open Go.RowKit
set_option linter.unusedVariables false

/-- a slice of held parts that came in -/
structure Ah (w : World) (ao : Option Addr) (xs : List Hd) : Prop where
  ex : xs.length = 0 ∨ ∃ g o, ao = some ⟨g, o, none⟩ ∧ ∀ i (h : i < xs.length), w.cell? ⟨g, o + i * 3, none⟩ = some (.int .i64 xs[i].seq) ∧ w.cell? ⟨g, o + i * 3 + 1, none⟩ = some (.string xs[i].text) ∧ w.cell? ⟨g, o + i * 3 + 2, none⟩ = some (.bool xs[i].last)
theorem Ah.keep {w w' : World} {ao : Option Addr} {xs : List Hd} (h : Ah w ao xs) (hb : Below w.heap.size w w') : Ah w' ao xs := by
  rcases h.ex with h | ⟨g, o, h1, h2⟩
  · exact ⟨.inl h⟩
  · exact ⟨.inr ⟨g, o, h1, fun i hi => ⟨cell_keep (h2 i hi).1 hb, cell_keep (h2 i hi).2.1 hb, cell_keep (h2 i hi).2.2 hb⟩⟩⟩
/-- a slice of texts that came in -/
structure As (w : World) (ao : Option Addr) (xs : List ByteArray) : Prop where
  ex : xs.length = 0 ∨ ∃ g o, ao = some ⟨g, o, none⟩ ∧ ∀ i (h : i < xs.length), w.cell? ⟨g, o + i, none⟩ = some (.string xs[i])
theorem As.keep {w w' : World} {ao : Option Addr} {xs : List ByteArray} (h : As w ao xs) (hb : Below w.heap.size w w') : As w' ao xs := by
  rcases h.ex with h | ⟨g, o, h1, h2⟩
  · exact ⟨.inl h⟩
  · exact ⟨.inr ⟨g, o, h1, fun i hi => cell_keep (h2 i hi) hb⟩⟩
structure At (w : World) (ao so : Option Addr) (xs : List Hd) (rs : List ByteArray) : Prop where
  held : Ah w ao xs
  ready : As w so rs
theorem At.keep {w w' : World} {ao so : Option Addr} {xs : List Hd} {rs : List ByteArray} (h : At w ao so xs rs) (hb : Below w.heap.size w w') : At w' ao so xs rs := ⟨h.held.keep hb, h.ready.keep hb⟩
/-- sizes: at most so many -/
structure Sm (m : Nat) (xs : List Hd) (o : ByteArray) (rs : List ByteArray) : Prop where
  n : xs.length ≤ m
  t : ∀ i (h : i < xs.length), xs[i].text.size ≤ m
  o : o.size ≤ m
  k : rs.length ≤ m
  r : ∀ i (h : i < rs.length), rs[i].size ≤ m
theorem szHeld_any (n : Int) (s : ByteArray) (l : Bool) (z : Int) (w : World) (hs : s.size ≤ maxLen) (hz : 0 ≤ z ∧ z ≤ 1048576) :
    Calls Try.prog 70 #[.agg #[.int .i64 n, .string s, .bool l], .int .i64 z] w fun e w' => e = .returned (.int .i64 (if z < s.size then -1 else z - s.size)) ∧ Below w.heap.size w w' := by
  by_cases hb : z < s.size
  · rw [if_pos hb]
    go_enter Try.func70, Try.ntmps70
    go_wp2_with (go_at_call 77; refine (szPart_any _ _ _ _ hs hz).mono ?_; rintro e w2 ⟨rfl, hb2⟩; rw [if_pos hb])
    go_ret
    exact ⟨rfl, ((Below.refl _ _).alloc (Nat.le_refl _) _).trans (hb2.mono (by simp))⟩
  · rw [if_neg hb]
    go_enter Try.func70, Try.ntmps70
    go_wp2_with (go_at_call 77; refine (szPart_any _ _ _ _ hs hz).mono ?_; rintro e w2 ⟨rfl, hb2⟩; rw [if_neg hb])
    go_ret
    exact ⟨rfl, ((Below.refl _ _).alloc (Nat.le_refl _) _).trans (hb2.mono (by simp))⟩
theorem szHeldS_any (ao : Option Addr) (cap : Nat) (xs : List Hd) (z : Int) (w : World) (hz : 0 ≤ z ∧ z ≤ 1048576) (hm : xs.length ≤ maxLen) (hs : ∀ i (h : i < xs.length), xs[i].text.size ≤ maxLen) (ha : Ah w ao xs) :
    Calls Try.prog 53 #[.slice ao xs.length cap, .int .i64 z] w fun e w' => (∃ z : Int, e = .returned (.int .i64 z) ∧ z ≤ 1048576 ∧ -1 ≤ z ∧ (0 ≤ z → xs.length ≤ 1048576 ∧ ∀ i (h : i < xs.length), xs[i].text.size ≤ 1048576)) ∧ Below w.heap.size w w' := by
  have HA : Hid (Ah w ao xs) := ha
  have HS : Hid (∀ i (h : i < xs.length), xs[i].text.size ≤ maxLen) := hs
  have hm' : (xs.length : Int) ≤ 9223372036854775807 := by unfold maxLen at hm; omega
  clear ha hs
  by_cases h0 : z < xs.length
  · go_enter Try.func53, Try.ntmps53
    go_wp2
    go_ret
    exact ⟨⟨-1, rfl, by omega, by omega, fun h => by omega⟩, Below.refl _ _⟩
  · go_enter Try.func53, Try.ntmps53
    go_wp2
    go_loopw [1, 5] (fun q i wr => ∃ (k : Nat) (y : Int), k ≤ xs.length ∧ i = .int .i64 k ∧ q = .int .i64 y ∧ 0 ≤ y ∧ y ≤ 1048576 ∧ (∀ j (h : j < xs.length), j < k → xs[j].text.size ≤ 1048576) ∧ Below w.heap.size w wr) (fun _ i _ => xs.length - (intOf i).toNat)
    case atStart => exact ⟨0, z - xs.length, Nat.zero_le _, rfl, rfl, by omega, by omega, fun j _ h => absurd h (by omega), Below.refl _ _⟩
    case round =>
      obtain ⟨k, y, hk, rfl, rfl, hy0, hy1, hall, hbel⟩ := hrel
      have HL : Hid (∀ j (h : j < xs.length), j < k → xs[j].text.size ≤ 1048576) := hall
      clear hall
      by_cases hlt : k < xs.length
      · rcases HA.out.ex with h | ⟨g, o, rfl, hac⟩
        · omega
        have hsz := HS.out k hlt
        obtain ⟨q0, q1, q2⟩ := hac k hlt
        have c0 := (hbel.cell (cell_lt q0)).trans q0
        have c1 := (hbel.cell (cell_lt q1)).trans q1
        have c2 := (hbel.cell (cell_lt q2)).trans q2
        clear hac q0 q1 q2
        obtain ⟨s, hs⟩ : ∃ s, s = xs[k].text := ⟨_, rfl⟩
        rw [← hs] at hsz c1
        have HSZ : Hid (s = xs[k].text) := hs
        clear hs
        generalize xs[k].last = l at *
        generalize xs[k].seq = n at *
        by_cases hbig : y < s.size
        · go_wp2_with (go_at_call 70; refine (szHeld_any _ _ _ _ _ hsz ⟨hy0, hy1⟩).mono ?_; rintro e w2 ⟨rfl, hb2⟩; rw [if_pos hbig])
          go_ret
          exact ⟨⟨-1, rfl, by omega, by omega, fun h => by omega⟩, hbel.trans (hb2.mono hbel.size)⟩
        · go_wp2_with (go_at_call 70; refine (szHeld_any _ _ _ _ _ hsz ⟨hy0, hy1⟩).mono ?_; rintro e w2 ⟨rfl, hb2⟩; rw [if_neg hbig])
          go_roundw
          case rel =>
            refine ⟨k + 1, y - s.size, by omega, by go_num, rfl, by omega, by omega, fun j h hj => ?_, hbel.trans (hb2.mono hbel.size)⟩
            rcases Nat.lt_or_ge j k with h1 | h1
            · exact HL.out j h h1
            · obtain rfl : j = k := by omega
              rw [← HSZ.out]; omega
          case measure => simp [intOf]; omega
      · obtain rfl : k = xs.length := by omega
        go_wp2
        go_ret
        exact ⟨⟨y, rfl, hy1, by omega, fun _ => ⟨by omega, fun i h => HL.out i h h⟩⟩, hbel⟩
theorem szStringS_any (ao : Option Addr) (cap : Nat) (xs : List ByteArray) (z : Int) (w : World) (hz : 0 ≤ z ∧ z ≤ 1048576) (hm : xs.length ≤ maxLen) (hs : ∀ i (h : i < xs.length), xs[i].size ≤ maxLen) (ha : As w ao xs) :
    Calls Try.prog 54 #[.slice ao xs.length cap, .int .i64 z] w fun e w' => (∃ z : Int, e = .returned (.int .i64 z) ∧ z ≤ 1048576 ∧ -1 ≤ z ∧ (0 ≤ z → xs.length ≤ 1048576 ∧ ∀ i (h : i < xs.length), xs[i].size ≤ 1048576)) ∧ Below w.heap.size w w' := by
  have HA : Hid (As w ao xs) := ha
  have HS : Hid (∀ i (h : i < xs.length), xs[i].size ≤ maxLen) := hs
  have hm' : (xs.length : Int) ≤ 9223372036854775807 := by unfold maxLen at hm; omega
  clear ha hs
  by_cases h0 : z < xs.length
  · go_enter Try.func54, Try.ntmps54
    go_wp2
    go_ret
    exact ⟨⟨-1, rfl, by omega, by omega, fun h => by omega⟩, Below.refl _ _⟩
  · go_enter Try.func54, Try.ntmps54
    go_wp2
    go_loopw [1, 5] (fun q i wr => ∃ (k : Nat) (y : Int), k ≤ xs.length ∧ i = .int .i64 k ∧ q = .int .i64 y ∧ 0 ≤ y ∧ y ≤ 1048576 ∧ (∀ j (h : j < xs.length), j < k → xs[j].size ≤ 1048576) ∧ Below w.heap.size w wr) (fun _ i _ => xs.length - (intOf i).toNat)
    case atStart => exact ⟨0, z - xs.length, Nat.zero_le _, rfl, rfl, by omega, by omega, fun j _ h => absurd h (by omega), Below.refl _ _⟩
    case round =>
      obtain ⟨k, y, hk, rfl, rfl, hy0, hy1, hall, hbel⟩ := hrel
      have HL : Hid (∀ j (h : j < xs.length), j < k → xs[j].size ≤ 1048576) := hall
      clear hall
      by_cases hlt : k < xs.length
      · rcases HA.out.ex with h | ⟨g, o, rfl, hac⟩
        · omega
        have hsz := HS.out k hlt
        have c0 := (hbel.cell (cell_lt (hac k hlt))).trans (hac k hlt)
        clear hac
        obtain ⟨s, hs⟩ : ∃ s, s = xs[k] := ⟨_, rfl⟩
        rw [← hs] at hsz c0
        have HSZ : Hid (s = xs[k]) := hs
        have hsz' : (s.size : Int) ≤ 9223372036854775807 := by unfold maxLen at hsz; omega
        clear hs
        by_cases hbig : y < s.size
        · go_wp2
          go_ret
          exact ⟨⟨-1, rfl, by omega, by omega, fun h => by omega⟩, hbel⟩
        · go_wp2
          go_roundw
          case rel =>
            refine ⟨k + 1, y - s.size, by omega, by go_num, rfl, by omega, by omega, fun j h hj => ?_, hbel⟩
            rcases Nat.lt_or_ge j k with h1 | h1
            · exact HL.out j h h1
            · obtain rfl : j = k := by omega
              rw [← HSZ.out]; omega
          case measure => simp [intOf]; omega
      · obtain rfl : k = xs.length := by omega
        go_wp2
        go_ret
        exact ⟨⟨y, rfl, hy1, by omega, fun _ => ⟨by omega, fun i h => HL.out i h h⟩⟩, hbel⟩
theorem szTake_any (nx : Int) (ao so : Option Addr) (ca cs : Nat) (xs : List Hd) (o : ByteArray) (rs : List ByteArray) (z : Int) (w : World) (hz : 0 ≤ z ∧ z ≤ 1048576) (hm : Sm maxLen xs o rs) (ha : At w ao so xs rs) :
    Calls Try.prog 38 #[.agg #[.int .i64 nx, .slice ao xs.length ca, .string o, .slice so rs.length cs], .int .i64 z] w fun e w' => (∃ z : Int, e = .returned (.int .i64 z) ∧ z ≤ 1048576 ∧ -1 ≤ z ∧ (0 ≤ z → Sm 1048576 xs o rs)) ∧ Below w.heap.size w w' := by
  have HA : Hid (At w ao so xs rs) := ha
  have HM : Hid (Sm maxLen xs o rs) := hm
  have HB0 : Hid (∀ o : Obj, Below w.heap.size w (w.alloc o)) := fun o => (Below.refl _ _).alloc (Nat.le_refl _) _
  have ho' : (o.size : Int) ≤ 9223372036854775807 := by have := hm.o; unfold maxLen at this; omega
  clear ha hm
  go_enter Try.func38, Try.ntmps38
  go_wp2_with (first
    | (go_at_call 53; refine (szHeldS_any ao ca xs _ _ hz HM.out.n HM.out.t (HA.out.held.keep (HB0.out _))).mono ?_; rintro e w1 ⟨⟨y, rfl, hy1, hy2, hy3⟩, hb1⟩; (have c2 := hb1.cell (p := ⟨w.heap.size, 2, none⟩) (by simp)); (have c3 := hb1.cell (p := ⟨w.heap.size, 3, none⟩) (by simp)); simp [go_sem] at c2 c3; (have HY : Hid (0 ≤ y → xs.length ≤ 1048576 ∧ ∀ i (h : i < xs.length), xs[i].text.size ≤ 1048576) := hy3); clear hy3)
    | (go_at_call 54; refine (szStringS_any so cs rs _ _ (by constructor <;> omega) HM.out.k HM.out.r ((HA.out.ready.keep (HB0.out _)).keep hb1)).mono ?_; rintro e w2 ⟨⟨y', rfl, hy1', hy2', hy3'⟩, hb2⟩; (have HY' : Hid (0 ≤ y' → rs.length ≤ 1048576 ∧ ∀ i (h : i < rs.length), rs[i].size ≤ 1048576) := hy3'); clear hy3'))
  · go_ret
    exact ⟨⟨-1, rfl, by omega, by omega, fun h => by omega⟩, kb (HB0.out _) hb1 (Nat.le_refl _)⟩
  · go_ret
    exact ⟨⟨-1, rfl, by omega, by omega, fun h => by omega⟩, kb (HB0.out _) hb1 (Nat.le_refl _)⟩
  · go_ret
    exact ⟨⟨-1, rfl, by omega, by omega, fun h => by omega⟩, kb (kb (HB0.out _) hb1 (Nat.le_refl _)) hb2 (Nat.le_refl _)⟩
  · go_ret
    exact ⟨⟨y', rfl, hy1', by omega, fun h => ⟨(HY.out (by omega)).1, (HY.out (by omega)).2, by omega, (HY'.out h).1, (HY'.out h).2⟩⟩, kb (kb (HB0.out _) hb1 (Nat.le_refl _)) hb2 (Nat.le_refl _)⟩
theorem toHeld_any (n : Int) (s : ByteArray) (l : Bool) (w : World) :
    Calls Try.prog 72 #[.agg #[.int .i64 n, .string s, .bool l]] w fun e w' => e = .returned (.agg #[.int .i64 n, .string s, .bool l]) ∧ Below w.heap.size w w' := by
  go_enter Try.func72, Try.ntmps72
  go_wp2_with (go_at_call 78; refine (toPart_any _ _ _).mono ?_; rintro e w1 ⟨rfl, hb1⟩; (have x0 := hb1.cell (p := ⟨w.heap.size + 1 + 1, 0, none⟩) (by simp <;> omega)); (have y0 := hb1.cell (p := ⟨w.heap.size + 1, 0, none⟩) (by simp <;> omega)); (have z0 := hb1.frozen (p := ⟨w.heap.size + 1 + 1, 0, none⟩) (by simp <;> omega)); (have u0 := hb1.frozen (p := ⟨w.heap.size + 1, 0, none⟩) (by simp <;> omega)); (have x1 := hb1.cell (p := ⟨w.heap.size + 1 + 1, 1, none⟩) (by simp <;> omega)); (have y1 := hb1.cell (p := ⟨w.heap.size + 1, 1, none⟩) (by simp <;> omega)); (have z1 := hb1.frozen (p := ⟨w.heap.size + 1 + 1, 1, none⟩) (by simp <;> omega)); (have u1 := hb1.frozen (p := ⟨w.heap.size + 1, 1, none⟩) (by simp <;> omega)); (have x2 := hb1.cell (p := ⟨w.heap.size + 1 + 1, 2, none⟩) (by simp <;> omega)); (have y2 := hb1.cell (p := ⟨w.heap.size + 1, 2, none⟩) (by simp <;> omega)); (have z2 := hb1.frozen (p := ⟨w.heap.size + 1 + 1, 2, none⟩) (by simp <;> omega)); (have u2 := hb1.frozen (p := ⟨w.heap.size + 1, 2, none⟩) (by simp <;> omega)); simp [go_sem] at x0 y0 z0 u0 x1 y1 z1 u1 x2 y2 z2 u2)
  have b1 : Below w.heap.size w w1 := ((((Below.refl _ _).alloc (Nat.le_refl _) _).alloc (by simp) _).alloc (by simp; omega) _).trans (hb1.mono (by simp; omega))
  exact bodyPost_ret (v := .agg #[.int .i64 n, .string s, .bool l]) (by simp [results, Try.results72, go_sem, y0, y1, y2]) rfl ⟨rfl, (((((b1.setCell (p := ⟨w.heap.size + 1 + 1, 1, none⟩) (by simp <;> omega) _).setCell (p := ⟨w.heap.size + 1 + 1, 2, none⟩) (by simp <;> omega) _).setCell (p := ⟨w.heap.size + 1, 0, none⟩) (by simp <;> omega) _).setCell (p := ⟨w.heap.size + 1, 1, none⟩) (by simp <;> omega) _).setCell (p := ⟨w.heap.size + 1, 2, none⟩) (by simp <;> omega) _)⟩
/-- the first k held parts have been laid -/
def Th (xs : List Hd) (k : Nat) (cs : List Value) : Prop := ∀ i (h : i < xs.length), i < k → cs[i * 3]? = some (.int .i64 xs[i].seq) ∧ cs[i * 3 + 1]? = some (.string xs[i].text) ∧ cs[i * 3 + 2]? = some (.bool xs[i].last)
/-- held part k is laid over three cells -/
def put3 (cs : List Value) (k : Nat) (a b c : Value) : List Value := ((cs.set (k * 3) a).set (k * 3 + 1) b).set (k * 3 + 2) c
theorem put3_at {cs : List Value} {k : Nat} {a b c : Value} (hl : k * 3 + 2 < cs.length) : (put3 cs k a b c)[k * 3]? = some a ∧ (put3 cs k a b c)[k * 3 + 1]? = some b ∧ (put3 cs k a b c)[k * 3 + 2]? = some c := by
  unfold put3
  refine ⟨?_, ?_, ?_⟩
  · rw [List.getElem?_set_ne (by omega), List.getElem?_set_ne (by omega), List.getElem?_set_self (by omega)]
  · rw [List.getElem?_set_ne (by omega), List.getElem?_set_self (by simp; omega)]
  · rw [List.getElem?_set_self (by simp; omega)]
theorem put3_other {cs : List Value} {k j : Nat} {a b c : Value} (h : j < k * 3 ∨ k * 3 + 2 < j) : (put3 cs k a b c)[j]? = cs[j]? := by
  unfold put3
  rw [List.getElem?_set_ne (by omega), List.getElem?_set_ne (by omega), List.getElem?_set_ne (by omega)]
theorem put3_length (cs : List Value) (k : Nat) (a b c : Value) : (put3 cs k a b c).length = cs.length := by simp [put3]
theorem Th.step {xs : List Hd} {k : Nat} {cs : List Value} (h : Th xs k cs) (hk : k < xs.length) (hl : k * 3 + 2 < cs.length) :
    Th xs (k + 1) (put3 cs k (.int .i64 xs[k].seq) (.string xs[k].text) (.bool xs[k].last)) := by
  intro j hj hj2
  rcases Nat.lt_or_ge j k with h1 | h1
  · rw [put3_other (by omega), put3_other (by omega), put3_other (by omega)]
    exact h j hj h1
  · obtain rfl : j = k := by omega
    exact put3_at hl
theorem Th.all {xs : List Hd} {cs : List Value} (h : Th xs xs.length cs) (hl : cs.length = xs.length * 3) : cs = hs xs := by
  apply List.ext_getElem?
  intro j
  rcases Nat.lt_or_ge j (xs.length * 3) with hj | hj
  · have hi : j / 3 < xs.length := by omega
    have a := h (j / 3) hi hi
    have b := hs_at xs (j / 3) hi
    rcases (show j = j / 3 * 3 ∨ j = j / 3 * 3 + 1 ∨ j = j / 3 * 3 + 2 by omega) with e | e | e
    · rw [e, a.1, b.1]
    · rw [e, a.2.1, b.2.1]
    · rw [e, a.2.2, b.2.2]
  · rw [List.getElem?_eq_none (by omega), List.getElem?_eq_none (by rw [hs_length]; omega)]
theorem owns_put3 {w : World} {base g n cap : Nat} {e : TypeId} {cs : List Value} (h : w.ownsRow base e 3 (.slice (some ⟨g, 0, none⟩) n cap) n cs) (k : Nat) (a b c : Value) :
    (((w.setCell ⟨g, k * 3, none⟩ a).setCell ⟨g, k * 3 + 1, none⟩ b).setCell ⟨g, k * 3 + 2, none⟩ c).ownsRow base e 3 (.slice (some ⟨g, 0, none⟩) n cap) n (put3 cs k a b c) :=
  (((h.stored (k * 3) a).1.stored (k * 3 + 1) b).1.stored (k * 3 + 2) c).1
theorem below_put3 {B g : Nat} {w w1 : World} (h : Below B w w1) (hg : B ≤ g) (k : Nat) (a b c : Value) :
    Below B w (((w1.setCell ⟨g, k * 3, none⟩ a).setCell ⟨g, k * 3 + 1, none⟩ b).setCell ⟨g, k * 3 + 2, none⟩ c) :=
  ((h.setCell (p := ⟨g, k * 3, none⟩) hg _).setCell (p := ⟨g, k * 3 + 1, none⟩) hg _).setCell (p := ⟨g, k * 3 + 2, none⟩) hg _
theorem info_held : (Try.prog.info? 103).map (fun i => (i.zero, i.size, i.bytes)) = some (some (.agg #[.int .i64 0, .string ⟨#[]⟩, .bool false]), 3, 32) := by kernel_rfl
set_option maxRecDepth 100000 in
theorem toHeldS_any (ao : Option Addr) (cap : Nat) (xs : List Hd) (w : World) (hm : xs.length ≤ 1048576) (ha : Ah w ao xs) :
    Calls Try.prog 58 #[.slice ao xs.length cap] w fun e w' => (∃ g, e = .returned (.slice (some ⟨g, 0, none⟩) xs.length xs.length) ∧ w'.ownsRow w.heap.size 103 3 (.slice (some ⟨g, 0, none⟩) xs.length xs.length) xs.length (hs xs)) ∧ Below w.heap.size w w' := by
  have HA : Hid (Ah w ao xs) := ha
  clear ha
  obtain ⟨i0, hi, hz0, hz1, hz2⟩ := info_parts info_held
  go_enter Try.func58, Try.ntmps58
  go_wp2_with (at_make; refine wpList_make_full _ rfl _ _ 43 rfl w.heap.size 103 i0 (.agg #[.int .i64 0, .string ⟨#[]⟩, .bool false]) 3 Try.underlying43 hi hz0 hz1 _ _ _ _ xs.length rfl rfl rfl rfl (by rw [hz2]; omega) (by unfold maxLen; omega) (Nat.le_refl _) ?_)
  intro w1 hown hgrow
  have hb1 : Below w.heap.size w w1 := (Below.refl _ _).grown hgrow (Nat.le_refl _) (fun k h => by cases h)
  go_wp2
  go_loopw [4] (fun i wr => ∃ (k : Nat) (cs : List Value), k ≤ xs.length ∧ i = .int .i64 k ∧ wr.ownsRow w.heap.size 103 3 (.slice (some ⟨w.heap.size, 0, none⟩) xs.length xs.length) xs.length cs ∧ Th xs k cs ∧ Below w.heap.size w wr) (fun i _ => xs.length - (intOf i).toNat)
  case atStart => exact ⟨0, _, Nat.zero_le _, rfl, hown, fun i _ h => absurd h (by omega), hb1⟩
  case round =>
    clear hown hgrow hb1
    obtain ⟨k, cs, hk, rfl, hown, hT, hbel⟩ := hrel
    by_cases hlt : k < xs.length
    · rcases HA.out.ex with h | ⟨g, o, rfl, hac⟩
      · omega
      have hcl := hown.1
      obtain ⟨q0, q1, q2⟩ := hac k hlt
      have c0 := (hbel.cell (cell_lt q0)).trans q0
      have c1 := (hbel.cell (cell_lt q1)).trans q1
      have c2 := (hbel.cell (cell_lt q2)).trans q2
      clear hac q0 q1 q2
      have HT : Hid (Th xs (k + 1) (put3 cs k (.int .i64 xs[k].seq) (.string xs[k].text) (.bool xs[k].last))) := hT.step hlt (by omega)
      generalize xs[k].text = s at *
      generalize xs[k].last = l at *
      generalize xs[k].seq = n at *
      have HW : Hid (wr.ownsRow w.heap.size 103 3 (.slice (some ⟨w.heap.size, 0, none⟩) xs.length xs.length) xs.length cs) := hown
      clear hown hT
      go_wp2_with (go_at_call 72; refine (toHeld_any _ _ _ _).mono ?_; rintro e w2 ⟨rfl, hb2⟩; (have ho2 := HW.out.kept (grow_below none hb2) (.inr (by simp [Value.ownBlock]))); (have e0 := ho2.cellAt (k * 3) (by omega)); (have e1 := ho2.cellAt (k * 3 + 1) (by omega)); (have e2 := ho2.cellAt (k * 3 + 2) (by omega)); (rw [List.getElem?_eq_getElem (by omega)] at e0 e1 e2); (have f0 := ho2.frozenAt (k * 3)); (have f1 := ho2.frozenAt (k * 3 + 1)); (have f2 := ho2.frozenAt (k * 3 + 2)))
      go_roundw
      case rel => exact ⟨k + 1, _, by omega, by go_num, owns_put3 ho2 k _ _ _, HT.out, below_put3 (hbel.trans (hb2.mono hbel.size)) (Nat.le_refl _) k _ _ _⟩
      case measure => simp [intOf]; omega
    · obtain rfl : k = xs.length := by omega
      have hcs := hT.all hown.1
      subst hcs
      go_wp2
      go_ret
      exact ⟨⟨w.heap.size, rfl, hown⟩, hbel⟩
/-- the first k texts have been laid -/
def Tx (xs : List ByteArray) (k : Nat) (cs : List Value) : Prop := ∀ i (h : i < xs.length), i < k → cs[i]? = some (.string xs[i])
theorem Tx.step {xs : List ByteArray} {k : Nat} {cs : List Value} (h : Tx xs k cs) (hk : k < xs.length) (hl : k < cs.length) : Tx xs (k + 1) (cs.set k (.string xs[k])) := by
  intro j hj hj2
  rcases Nat.lt_or_ge j k with h1 | h1
  · rw [List.getElem?_set_ne (by omega)]
    exact h j hj h1
  · obtain rfl : j = k := by omega
    rw [List.getElem?_set_self hl]
theorem Tx.all {xs : List ByteArray} {cs : List Value} (h : Tx xs xs.length cs) (hl : cs.length = xs.length * 1) : cs = ss xs := by
  apply List.ext_getElem?
  intro j
  rcases Nat.lt_or_ge j xs.length with hj | hj
  · rw [h j hj hj, ss_at xs j hj]
  · rw [List.getElem?_eq_none (by omega), List.getElem?_eq_none (by rw [ss_length]; omega)]
theorem info_str : (Try.prog.info? 9).map (fun i => (i.zero, i.size, i.bytes)) = some (some (.string ⟨#[]⟩), 1, 16) := by kernel_rfl
set_option maxRecDepth 100000 in
theorem toStringS_any (ao : Option Addr) (cap : Nat) (xs : List ByteArray) (w : World) (hm : xs.length ≤ 1048576) (ha : As w ao xs) :
    Calls Try.prog 59 #[.slice ao xs.length cap] w fun e w' => (∃ g, e = .returned (.slice (some ⟨g, 0, none⟩) xs.length xs.length) ∧ w'.ownsRow w.heap.size 9 1 (.slice (some ⟨g, 0, none⟩) xs.length xs.length) xs.length (ss xs)) ∧ Below w.heap.size w w' := by
  have HA : Hid (As w ao xs) := ha
  clear ha
  obtain ⟨i0, hi, hz0, hz1, hz2⟩ := info_parts info_str
  go_enter Try.func59, Try.ntmps59
  go_wp2_with (at_make; refine wpList_make_full _ rfl _ _ 44 rfl w.heap.size 9 i0 (.string ⟨#[]⟩) 1 Try.underlying44 hi hz0 hz1 _ _ _ _ xs.length rfl rfl rfl rfl (by rw [hz2]; omega) (by unfold maxLen; omega) (Nat.le_refl _) ?_)
  intro w1 hown hgrow
  have hb1 : Below w.heap.size w w1 := (Below.refl _ _).grown hgrow (Nat.le_refl _) (fun k h => by cases h)
  go_wp2
  go_loopw [4] (fun i wr => ∃ (k : Nat) (cs : List Value), k ≤ xs.length ∧ i = .int .i64 k ∧ wr.ownsRow w.heap.size 9 1 (.slice (some ⟨w.heap.size, 0, none⟩) xs.length xs.length) xs.length cs ∧ Tx xs k cs ∧ Below w.heap.size w wr) (fun i _ => xs.length - (intOf i).toNat)
  case atStart => exact ⟨0, _, Nat.zero_le _, rfl, hown, fun i _ h => absurd h (by omega), hb1⟩
  case round =>
    clear hown hgrow hb1
    obtain ⟨k, cs, hk, rfl, hown, hT, hbel⟩ := hrel
    by_cases hlt : k < xs.length
    · rcases HA.out.ex with h | ⟨g, o, rfl, hac⟩
      · omega
      have hcl := hown.1
      have c0 := (hbel.cell (cell_lt (hac k hlt))).trans (hac k hlt)
      clear hac
      have HT : Hid (Tx xs (k + 1) (cs.set k (.string xs[k]))) := hT.step hlt (by omega)
      generalize xs[k] = s at *
      have e0 := hown.cellAt k (by omega)
      rw [List.getElem?_eq_getElem (by omega)] at e0
      have f0 := hown.frozenAt k
      have HW : Hid (wr.ownsRow w.heap.size 9 1 (.slice (some ⟨w.heap.size, 0, none⟩) xs.length xs.length) xs.length cs) := hown
      clear hown hT
      go_wp2
      go_roundw
      case rel => exact ⟨k + 1, _, by omega, by go_num, (HW.out.stored k (.string s)).1, HT.out, hbel.setCell (p := ⟨w.heap.size, k, none⟩) (Nat.le_refl _) _⟩
      case measure => simp [intOf]; omega
    · obtain rfl : k = xs.length := by omega
      have hcs := hT.all hown.1
      subst hcs
      go_wp2
      go_ret
      exact ⟨⟨w.heap.size, rfl, hown⟩, hbel⟩
end Go.Proofs.Ytmliinglojmojab.mk
/-
  AN ARGUMENT THAT IS A TAKE: its copy, whole.
-/
namespace Go.Proofs.Ytmliinglojmojab.mk
open Go.RowKit
set_option linter.unusedVariables false

theorem owns_mono3 {w : World} {base base' : Nat} {e : TypeId} {size : Nat} {v : Value} {n : Nat} {xs : List Value} (h : w.ownsRow base e size v n xs) (hb : base' ≤ base) : w.ownsRow base' e size v n xs := by
  refine ⟨h.1, ?_⟩
  rcases h.2 with h2 | ⟨g, cap, cur, h1, h2, h3⟩
  · exact .inl h2
  · exact .inr ⟨g, cap, cur, h1, Nat.le_trans hb h2, h3⟩
theorem toTake_any (nx : Int) (ao so : Option Addr) (ca cs : Nat) (xs : List Hd) (o : ByteArray) (rs : List ByteArray) (w : World) (hm : xs.length ≤ 1048576) (hm2 : rs.length ≤ 1048576) (ha : At w ao so xs rs) :
    Calls Try.prog 44 #[.agg #[.int .i64 nx, .slice ao xs.length ca, .string o, .slice so rs.length cs]] w fun e w' => (∃ g k, e = .returned (.agg #[.int .i64 nx, .slice (some ⟨g, 0, none⟩) xs.length xs.length, .string o, .slice (some ⟨k, 0, none⟩) rs.length rs.length]) ∧ w'.ownsRow w.heap.size 103 3 (.slice (some ⟨g, 0, none⟩) xs.length xs.length) xs.length (hs xs) ∧ w'.ownsRow w.heap.size 9 1 (.slice (some ⟨k, 0, none⟩) rs.length rs.length) rs.length (ss rs) ∧ g ≠ k) ∧ Below w.heap.size w w' := by
  have HA : Hid (At w ao so xs rs) := ha
  have HB0 : Hid (∀ o p q : Obj, Below w.heap.size w (((w.alloc o).alloc p).alloc q)) := fun o p q => (((Below.refl _ _).alloc (Nat.le_refl _) _).alloc (by simp) _).alloc (by simp; omega) _
  clear ha
  go_enter Try.func44, Try.ntmps44
  go_wp2_with (first
    | (go_at_call 58; refine (toHeldS_any ao ca xs _ hm (HA.out.held.keep (HB0.out _ _ _))).mono ?_; rintro e w1 ⟨⟨g, rfl, ho1⟩, hb1⟩; (have c2 := hb1.cell (p := ⟨w.heap.size, 2, none⟩) (by simp <;> omega)); (have c3 := hb1.cell (p := ⟨w.heap.size, 3, none⟩) (by simp <;> omega)); (have b1 := kb (HB0.out _ _ _) hb1 (Nat.le_refl _)); (have s1 := hb1.size); (have x0 := hb1.cell (p := ⟨w.heap.size + 1 + 1, 0, none⟩) (by simp <;> omega)); (have y0 := hb1.cell (p := ⟨w.heap.size + 1, 0, none⟩) (by simp <;> omega)); (have z0 := hb1.frozen (p := ⟨w.heap.size + 1 + 1, 0, none⟩) (by simp <;> omega)); (have u0 := hb1.frozen (p := ⟨w.heap.size + 1, 0, none⟩) (by simp <;> omega)); (have x1 := hb1.cell (p := ⟨w.heap.size + 1 + 1, 1, none⟩) (by simp <;> omega)); (have y1 := hb1.cell (p := ⟨w.heap.size + 1, 1, none⟩) (by simp <;> omega)); (have z1 := hb1.frozen (p := ⟨w.heap.size + 1 + 1, 1, none⟩) (by simp <;> omega)); (have u1 := hb1.frozen (p := ⟨w.heap.size + 1, 1, none⟩) (by simp <;> omega)); (have x2 := hb1.cell (p := ⟨w.heap.size + 1 + 1, 2, none⟩) (by simp <;> omega)); (have y2 := hb1.cell (p := ⟨w.heap.size + 1, 2, none⟩) (by simp <;> omega)); (have z2 := hb1.frozen (p := ⟨w.heap.size + 1 + 1, 2, none⟩) (by simp <;> omega)); (have u2 := hb1.frozen (p := ⟨w.heap.size + 1, 2, none⟩) (by simp <;> omega)); (have x3 := hb1.cell (p := ⟨w.heap.size + 1 + 1, 3, none⟩) (by simp <;> omega)); (have y3 := hb1.cell (p := ⟨w.heap.size + 1, 3, none⟩) (by simp <;> omega)); (have z3 := hb1.frozen (p := ⟨w.heap.size + 1 + 1, 3, none⟩) (by simp <;> omega)); (have u3 := hb1.frozen (p := ⟨w.heap.size + 1, 3, none⟩) (by simp <;> omega)); simp [go_sem] at c2 c3 s1 x0 y0 z0 u0 x1 y1 z1 u1 x2 y2 z2 u2 x3 y3 z3 u3)
    | (go_at_call 59; refine (toStringS_any so cs rs _ hm2 (HA.out.ready.keep (((b1.setCell (p := ⟨w.heap.size + 1 + 1, 1, none⟩) (by simp <;> omega) _).setCell (p := ⟨w.heap.size + 1 + 1, 2, none⟩) (by simp <;> omega) _)))).mono ?_; rintro e w2 ⟨⟨k, rfl, ho2⟩, hb2⟩; (have x0' := hb2.cell (p := ⟨w.heap.size + 1 + 1, 0, none⟩) (by simp <;> omega)); (have y0' := hb2.cell (p := ⟨w.heap.size + 1, 0, none⟩) (by simp <;> omega)); (have z0' := hb2.frozen (p := ⟨w.heap.size + 1 + 1, 0, none⟩) (by simp <;> omega)); (have u0' := hb2.frozen (p := ⟨w.heap.size + 1, 0, none⟩) (by simp <;> omega)); (have x1' := hb2.cell (p := ⟨w.heap.size + 1 + 1, 1, none⟩) (by simp <;> omega)); (have y1' := hb2.cell (p := ⟨w.heap.size + 1, 1, none⟩) (by simp <;> omega)); (have z1' := hb2.frozen (p := ⟨w.heap.size + 1 + 1, 1, none⟩) (by simp <;> omega)); (have u1' := hb2.frozen (p := ⟨w.heap.size + 1, 1, none⟩) (by simp <;> omega)); (have x2' := hb2.cell (p := ⟨w.heap.size + 1 + 1, 2, none⟩) (by simp <;> omega)); (have y2' := hb2.cell (p := ⟨w.heap.size + 1, 2, none⟩) (by simp <;> omega)); (have z2' := hb2.frozen (p := ⟨w.heap.size + 1 + 1, 2, none⟩) (by simp <;> omega)); (have u2' := hb2.frozen (p := ⟨w.heap.size + 1, 2, none⟩) (by simp <;> omega)); (have x3' := hb2.cell (p := ⟨w.heap.size + 1 + 1, 3, none⟩) (by simp <;> omega)); (have y3' := hb2.cell (p := ⟨w.heap.size + 1, 3, none⟩) (by simp <;> omega)); (have z3' := hb2.frozen (p := ⟨w.heap.size + 1 + 1, 3, none⟩) (by simp <;> omega)); (have u3' := hb2.frozen (p := ⟨w.heap.size + 1, 3, none⟩) (by simp <;> omega)); simp [go_sem, x0, y0, z0, u0, x1, y1, z1, u1, x2, y2, z2, u2, x3, y3, z3, u3] at x0' y0' z0' u0' x1' y1' z1' u1' x2' y2' z2' u2' x3' y3' z3' u3'; clear x0 y0 z0 u0 x1 y1 z1 u1 x2 y2 z2 u2 x3 y3 z3 u3))
  have b2 := kb ((b1.setCell (p := ⟨w.heap.size + 1 + 1, 1, none⟩) (by simp <;> omega) _).setCell (p := ⟨w.heap.size + 1 + 1, 2, none⟩) (by simp <;> omega) _) hb2 (Nat.le_refl _)
  have o1 := (ownsRow_setCell_below (ownsRow_setCell_below (ownsRow_setCell_below (ownsRow_setCell_below (ownsRow_setCell_below (owns_keep (ownsRow_setCell_below (ownsRow_setCell_below ho1 (a := ⟨w.heap.size + 1 + 1, 1, none⟩) (by simp <;> omega) (.slice (some ⟨g, 0, none⟩) xs.length xs.length)) (a := ⟨w.heap.size + 1 + 1, 2, none⟩) (by simp <;> omega) (.string o)) hb2) (a := ⟨w.heap.size + 1 + 1, 3, none⟩) (by simp <;> omega) (.slice (some ⟨k, 0, none⟩) rs.length rs.length)) (a := ⟨w.heap.size + 1, 0, none⟩) (by simp <;> omega) (.int .i64 nx)) (a := ⟨w.heap.size + 1, 1, none⟩) (by simp <;> omega) (.slice (some ⟨g, 0, none⟩) xs.length xs.length)) (a := ⟨w.heap.size + 1, 2, none⟩) (by simp <;> omega) (.string o)) (a := ⟨w.heap.size + 1, 3, none⟩) (by simp <;> omega) (.slice (some ⟨k, 0, none⟩) rs.length rs.length))
  have o2 := (ownsRow_setCell_below (ownsRow_setCell_below (ownsRow_setCell_below (ownsRow_setCell_below (ownsRow_setCell_below ho2 (a := ⟨w.heap.size + 1 + 1, 3, none⟩) (by simp <;> omega) (.slice (some ⟨k, 0, none⟩) rs.length rs.length)) (a := ⟨w.heap.size + 1, 0, none⟩) (by simp <;> omega) (.int .i64 nx)) (a := ⟨w.heap.size + 1, 1, none⟩) (by simp <;> omega) (.slice (some ⟨g, 0, none⟩) xs.length xs.length)) (a := ⟨w.heap.size + 1, 2, none⟩) (by simp <;> omega) (.string o)) (a := ⟨w.heap.size + 1, 3, none⟩) (by simp <;> omega) (.slice (some ⟨k, 0, none⟩) rs.length rs.length))
  have hlt := (ho1.lt g rfl).2
  have hge := (ho2.lt k rfl).1
  simp at hlt hge
  exact bodyPost_ret (v := .agg #[.int .i64 nx, .slice (some ⟨g, 0, none⟩) xs.length xs.length, .string o, .slice (some ⟨k, 0, none⟩) rs.length rs.length]) (by simp [results, Try.results44, go_sem, y0', y1', y2', y3']) rfl ⟨⟨g, k, rfl, owns_mono3 o1 (by simp <;> omega), owns_mono3 o2 (by simp <;> omega), by omega⟩, (((((b2.setCell (p := ⟨w.heap.size + 1 + 1, 3, none⟩) (by simp <;> omega) _).setCell (p := ⟨w.heap.size + 1, 0, none⟩) (by simp <;> omega) _).setCell (p := ⟨w.heap.size + 1, 1, none⟩) (by simp <;> omega) _).setCell (p := ⟨w.heap.size + 1, 2, none⟩) (by simp <;> omega) _).setCell (p := ⟨w.heap.size + 1, 3, none⟩) (by simp <;> omega) _)⟩
end Go.Proofs.Ytmliinglojmojab.mk
/-
  AN END: its data, its comparison.
-/
namespace Go.Proofs.Ytmliinglojmojab.mk
open Go.RowKit
set_option linter.unusedVariables false

/-- an end's data -/
structure En where
  num : Int
  up : Bool
  life : Int
  peer : Int
  since : Int
  owes : Bool
  b : Int
  xs : List It
  nx : Int
  hs : List Hd
  o : ByteArray
  rs : List ByteArray
def En.cells (e : En) (a h r : Value) : Array Value := #[.int .i64 e.num, .bool e.up, .int .i64 e.life, .int .i64 e.peer, .int .i64 e.since, .bool e.owes, .int .i64 e.b, a, .int .i64 e.nx, h, .string e.o, r]
def En.val (e : En) (a h r : Value) : Value := .agg (e.cells a h r)
/-- an end that is to be read -/
structure Re (w : World) (e : En) (ao ho so : Option Addr) : Prop where
  send : Rs w ao e.xs.length (is e.xs)
  take : Rt w ho so e.hs e.rs
theorem Re.keep {w w' : World} {e : En} {ao ho so : Option Addr} (h : Re w e ao ho so) (hb : Below w.heap.size w w') : Re w' e ao ho so := ⟨h.send.keep hb, h.take.keep hb⟩
/-- a box -/
def Ex (u : World) (B : Nat) (cs : Array Value) : Prop := ∃ t, u.heap[B]? = some (.cells cs t (0, 0))
theorem Ex.lt {u : World} {B : Nat} {cs : Array Value} (h : Ex u B cs) : B < u.heap.size := by
  obtain ⟨t, h⟩ := h
  exact (Array.getElem?_eq_some_iff.1 h).1
theorem Ex.keep {u u' : World} {B : Nat} {cs : Array Value} (h : Ex u B cs) (hb : Below u.heap.size u u') : Ex u' B cs := by
  have := h.lt
  obtain ⟨t, h⟩ := h
  exact ⟨t, (hb.block B this).trans h⟩
theorem Ex.new (u : World) (t : TypeId) (cs : Array Value) : Ex (u.alloc (.cells cs t)) u.heap.size cs := ⟨t, heap_alloc_new u _⟩
theorem Ex.alloc {u : World} {B : Nat} {cs : Array Value} (h : Ex u B cs) (o : Obj) : Ex (u.alloc o) B cs := h.keep ((Below.refl _ _).alloc (Nat.le_refl _) _)
theorem Ex.cell {u : World} {B : Nat} {cs : Array Value} (h : Ex u B cs) (j : Nat) : u.cell? ⟨B, j, none⟩ = cs[j]? := by
  obtain ⟨t, h⟩ := h
  simp [World.cell?, h]
theorem Ex.cells {u : World} {B : Nat} {c0 c1 c2 c3 c4 c5 c6 c7 c8 c9 c10 c11 : Value} (h : Ex u B #[c0, c1, c2, c3, c4, c5, c6, c7, c8, c9, c10, c11]) : u.cell? ⟨B, 0, none⟩ = some c0 ∧ u.cell? ⟨B, 1, none⟩ = some c1 ∧ u.cell? ⟨B, 2, none⟩ = some c2 ∧ u.cell? ⟨B, 3, none⟩ = some c3 ∧ u.cell? ⟨B, 4, none⟩ = some c4 ∧ u.cell? ⟨B, 5, none⟩ = some c5 ∧ u.cell? ⟨B, 6, none⟩ = some c6 ∧ u.cell? ⟨B, 7, none⟩ = some c7 ∧ u.cell? ⟨B, 8, none⟩ = some c8 ∧ u.cell? ⟨B, 9, none⟩ = some c9 ∧ u.cell? ⟨B, 10, none⟩ = some c10 ∧ u.cell? ⟨B, 11, none⟩ = some c11 :=
  ⟨h.cell 0, h.cell 1, h.cell 2, h.cell 3, h.cell 4, h.cell 5, h.cell 6, h.cell 7, h.cell 8, h.cell 9, h.cell 10, h.cell 11⟩
theorem eqEnd_same (e : En) (ao ho so bo io to : Option Addr) (ci ch cs di dh ds : Nat) (w : World) (hl1 : e.xs.length ≤ 1000000000) (hl2 : e.hs.length ≤ 1000000000) (hl3 : e.rs.length ≤ 1000000000) (ha : Re w e ao ho so) (hb : Re w e bo io to) :
    Calls Try.prog 34 #[.agg #[.int .i64 e.num, .bool e.up, .int .i64 e.life, .int .i64 e.peer, .int .i64 e.since, .bool e.owes, .int .i64 e.b, .slice ao e.xs.length ci, .int .i64 e.nx, .slice ho e.hs.length ch, .string e.o, .slice so e.rs.length cs], .agg #[.int .i64 e.num, .bool e.up, .int .i64 e.life, .int .i64 e.peer, .int .i64 e.since, .bool e.owes, .int .i64 e.b, .slice bo e.xs.length di, .int .i64 e.nx, .slice io e.hs.length dh, .string e.o, .slice to e.rs.length ds]] w fun e' w' => e' = .returned (.bool true) ∧ Below w.heap.size w w' := by
  have HA : Hid (Re w e ao ho so) := ha
  have HB : Hid (Re w e bo io to) := hb
  clear ha hb
  have b0 : ∀ (o p : Obj), Below w.heap.size w ((w.alloc o).alloc p) := fun o p => ((Below.refl _ _).alloc (Nat.le_refl _) _).alloc (by simp) _
  have HB0 : Hid (∀ (o p : Obj), Below w.heap.size w ((w.alloc o).alloc p)) := b0
  clear b0
  go_enter Try.func34, Try.ntmps34
  go_wp2_with (first
    | (go_at_call 50; refine (eqSend_same e.b _ _ _ _ e.xs _ hl1 (HA.out.send.keep (HB0.out _ _)) (HB.out.send.keep (HB0.out _ _))).mono ?_; rintro e' w1 ⟨rfl, hb1⟩; (have c8 := hb1.cell (p := ⟨w.heap.size, 8, none⟩) (by simp; omega)); (have d8 := hb1.cell (p := ⟨w.heap.size + 1, 8, none⟩) (by simp)); (have c9 := hb1.cell (p := ⟨w.heap.size, 9, none⟩) (by simp; omega)); (have d9 := hb1.cell (p := ⟨w.heap.size + 1, 9, none⟩) (by simp)); (have c10 := hb1.cell (p := ⟨w.heap.size, 10, none⟩) (by simp; omega)); (have d10 := hb1.cell (p := ⟨w.heap.size + 1, 10, none⟩) (by simp)); (have c11 := hb1.cell (p := ⟨w.heap.size, 11, none⟩) (by simp; omega)); (have d11 := hb1.cell (p := ⟨w.heap.size + 1, 11, none⟩) (by simp)); simp [go_sem] at c8 c9 c10 c11 d8 d9 d10 d11)
    | (go_at_call 51; refine (eqTake_same e.nx _ _ _ _ _ _ _ _ e.hs e.o e.rs _ hl2 hl3 ((HA.out.take.keep (HB0.out _ _)).keep hb1) ((HB.out.take.keep (HB0.out _ _)).keep hb1)).mono ?_; rintro e' w2 ⟨rfl, hb2⟩)
    | fail)
  go_ret
  exact ⟨rfl, kb (kb (HB0.out _ _) hb1 (Nat.le_refl _)) hb2 (Nat.le_refl _)⟩
/-- an end that has no rows, held against itself -/
theorem eqEnd_none (num : Int) (up : Bool) (life peer since : Int) (owes : Bool) (b nx : Int) (o : ByteArray) (w : World) :
    Calls Try.prog 34 #[.agg #[.int .i64 num, .bool up, .int .i64 life, .int .i64 peer, .int .i64 since, .bool owes, .int .i64 b, .slice none 0 0, .int .i64 nx, .slice none 0 0, .string o, .slice none 0 0], .agg #[.int .i64 num, .bool up, .int .i64 life, .int .i64 peer, .int .i64 since, .bool owes, .int .i64 b, .slice none 0 0, .int .i64 nx, .slice none 0 0, .string o, .slice none 0 0]] w fun e' w' => e' = .returned (.bool true) ∧ Below w.heap.size w w' :=
  eqEnd_same ⟨num, up, life, peer, since, owes, b, [], nx, [], o, []⟩ none none none none none none 0 0 0 0 0 0 w (by simp) (by simp) (by simp) ⟨⟨.inl rfl⟩, ⟨⟨.inl rfl⟩, ⟨.inl rfl⟩⟩⟩ ⟨⟨.inl rfl⟩, ⟨⟨.inl rfl⟩, ⟨.inl rfl⟩⟩⟩
end Go.Proofs.Ytmliinglojmojab.mk
/-
  BLOCKS THAT LIE.
-/
namespace Go.Proofs.Ytmliinglojmojab.mk
open Go.RowKit
set_option linter.unusedVariables false

/-- block B lies with these cells -/
def Bx (w : World) (B : Nat) (t : TypeId) (cs : Array Value) : Prop := w.heap[B]? = some (.cells cs t (0, 0))
theorem Bx.lt {w : World} {B : Nat} {t : TypeId} {cs : Array Value} (h : Bx w B t cs) : B < w.heap.size := (Array.getElem?_eq_some_iff.1 h).1
theorem Bx.cell {w : World} {B : Nat} {t : TypeId} {cs : Array Value} (h : Bx w B t cs) (j : Nat) : w.cell? ⟨B, j, none⟩ = cs[j]? := by simp [World.cell?, show w.heap[B]? = _ from h]
theorem Bx.frozen {w : World} {B : Nat} {t : TypeId} {cs : Array Value} (h : Bx w B t cs) (j : Nat) : w.frozen? ⟨B, j, none⟩ = false := by simp [World.frozen?, show w.heap[B]? = _ from h]
theorem Bx.new (w : World) (t : TypeId) (cs : Array Value) : Bx (w.alloc (.cells cs t)) w.heap.size t cs := heap_alloc_new w _
theorem Bx.kept {w w' : World} {B : Nat} {t : TypeId} {cs : Array Value} {row : Option Nat} (h : Bx w B t cs) (hg : w.grownBy w' row) (hne : some B ≠ row) : Bx w' B t cs := (hg.block B h.lt hne).trans h
theorem Bx.keep {w w' : World} {B : Nat} {t : TypeId} {cs : Array Value} (h : Bx w B t cs) (hb : Below w.heap.size w w') : Bx w' B t cs := (hb.block B h.lt).trans h
theorem Bx.alloc {w : World} {B : Nat} {t : TypeId} {cs : Array Value} (h : Bx w B t cs) (o : Obj) : Bx (w.alloc o) B t cs := h.keep ((Below.refl _ _).alloc (Nat.le_refl _) _)
theorem Bx.ne {w : World} {B : Nat} {t e : TypeId} {cs : Array Value} (h : Bx w B t cs) (hte : t ≠ e) {base size k : Nat} {v : Value} {xs : List Value} (hr : w.ownsRow base e size v k xs) : some B ≠ v.ownBlock := by
  rcases hr.2 with ⟨rfl, _⟩ | ⟨g, cap, cur, rfl, _, hgb, _⟩
  · simp [Value.ownBlock]
  · intro e'
    obtain rfl : B = g := by simpa [Value.ownBlock] using e'
    have := (show w.heap[B]? = _ from h).symm.trans hgb
    simp at this
    exact hte this.2
theorem Bx.put {W : World} {B : Nat} {t : TypeId} {cs : Array Value} (h : Bx W B t cs) (j : Nat) (v : Value) : Bx (W.setCell ⟨B, j, none⟩ v) B t (cs.setIfInBounds j v) := by
  obtain ⟨hlt, hk⟩ := Array.getElem?_eq_some_iff.1 h
  show (W.heap.modify B _)[B]? = _
  rw [Array.getElem?_eq_getElem (by rw [Array.size_modify]; exact hlt), Array.getElem_modify_self, hk]
  rfl
theorem Bx.other {W : World} {B : Nat} {t : TypeId} {cs : Array Value} (h : Bx W B t cs) (p : Addr) (hp : B ≠ p.block) (v : Value) : Bx (W.setCell p v) B t cs := h.kept (grow_set W p v) (fun e => hp (by cases e; rfl))
end Go.Proofs.Ytmliinglojmojab.mk
/-
  APPEND, at a step of a region that draws its order and in a list: onto a row of one's own, of anything that is read.
-/
namespace Go.Proofs.Ytmliinglojmojab.mk
open Go.RowKit
set_option linter.unusedVariables false

theorem wp_append_any {P : Program} (w : World) {o : Oper} {a : Act} {K : Act → World → Prop} {Q : Exit → Act → World → Prop} (s x : Operand) (t : TypeId)
    (ho : o.op = .call { callee := .builtin .append, args := #[s, x], argTypes := #[t, t] })
    (base : Nat) (e : TypeId) (i : TypeInfo) (z : Value) (size bytes : Nat) (ht : P.underlying t = some (.slice e)) (hi : P.info? e = some i) (hz : i.zero = some z)
    (hsize : i.size = size) (hby : i.bytes = bytes) (hzs : z.cells.size = size) (hsz : 0 < size)
    (v : Value) (n : Nat) (xs : List Value) (hs : a.eval s = v) (hown : w.ownsRow base e size v n xs)
    (ao : Option Addr) (m c : Nat) (news : List Value) (hx : a.eval x = .slice ao m c) (hl : news.length = m * size) (hnone : ao = none → m = 0 ∧ c = 0) (hnews : ∀ ad, ao = some ad → ∀ j u, news[j]? = some u → w.cell? (ad.add j) = some u) (h1 : ∀ u ∈ news, u.oneCell' = true)
    (h63 : n + m ≤ maxLen) (hbytes : (n + m) * bytes ≤ 140737488355328) (hbase : base ≤ w.heap.size)
    (h : ∀ v' w', w'.ownsRow base e size v' (n + m) (xs ++ news) → w.grownBy w' v.ownBlock → K (a.put o.dst v') w') : Oper.wp P o a w K Q := by
  cases ao with
  | some ad => exact wp_append_own w s x t ho base e i z size bytes ht hi hz hsize hby hzs hsz v n xs hs hown ad m c news hx hl (hnews ad rfl) h1 h63 hbytes hbase fun v' w' h2 h3 _ => h v' w' h2 h3
  | none =>
    obtain ⟨rfl, rfl⟩ := hnone rfl
    have hnil : news = [] := List.eq_nil_of_length_eq_zero (by simpa using hl)
    subst hnil
    have hrun := run_append_owned_none (P := P) (w := w) base t o.type e i size ht hi v n xs hown
    unfold Oper.wp
    simp [execOp, ho, resolve, invoke, builtin, hs, hx, hrun, Result.andThen]
    exact h v w (by simpa using hown) (World.grownBy.refl _ _)
theorem step_append_any {P : Program} (w : World) {ops : Array Oper} {o : Oper} {a : Act} {K : Act → World → Prop} {Q : Exit → Act → World → Prop} {E : Prop} (hgd : o.guard = none) (s x : Operand) (t : TypeId)
    (ho : o.op = .call { callee := .builtin .append, args := #[s, x], argTypes := #[t, t] })
    (base : Nat) (e : TypeId) (i : TypeInfo) (z : Value) (size bytes : Nat) (ht : P.underlying t = some (.slice e)) (hi : P.info? e = some i) (hz : i.zero = some z)
    (hsize : i.size = size) (hby : i.bytes = bytes) (hzs : z.cells.size = size) (hsz : 0 < size)
    (v : Value) (n : Nat) (xs : List Value) (hs : a.eval s = v) (hown : w.ownsRow base e size v n xs)
    (ao : Option Addr) (m c : Nat) (news : List Value) (hx : a.eval x = .slice ao m c) (hl : news.length = m * size) (hnone : ao = none → m = 0 ∧ c = 0) (hnews : ∀ ad, ao = some ad → ∀ j u, news[j]? = some u → w.cell? (ad.add j) = some u) (h1 : ∀ u ∈ news, u.oneCell' = true)
    (h63 : n + m ≤ maxLen) (hbytes : (n + m) * bytes ≤ 140737488355328) (hbase : base ≤ w.heap.size)
    (h : ∀ v' w', w'.ownsRow base e size v' (n + m) (xs ++ news) → w.grownBy w' v.ownBlock → K (a.put o.dst v') w') :
    if Region.wanted o (yielded ops a.tmps) = true then Oper.wp P o a w K Q else E := by
  have hw : Region.wanted o (yielded ops a.tmps) = true := by simp [Region.wanted, hgd]
  rw [if_pos hw]
  exact wp_append_any w s x t ho base e i z size bytes ht hi hz hsize hby hzs hsz v n xs hs hown ao m c news hx hl hnone hnews h1 h63 hbytes hbase h
theorem list_append_any {P : Program} (w : World) {ops : Array Oper} {rest : List Oper} {o : Oper} {a : Act} {Q : Exit → Act → World → Prop} (hgd : o.guard = none) (s x : Operand) (t : TypeId)
    (ho : o.op = .call { callee := .builtin .append, args := #[s, x], argTypes := #[t, t] })
    (base : Nat) (e : TypeId) (i : TypeInfo) (z : Value) (size bytes : Nat) (ht : P.underlying t = some (.slice e)) (hi : P.info? e = some i) (hz : i.zero = some z)
    (hsize : i.size = size) (hby : i.bytes = bytes) (hzs : z.cells.size = size) (hsz : 0 < size)
    (v : Value) (n : Nat) (xs : List Value) (hs : a.eval s = v) (hown : w.ownsRow base e size v n xs)
    (ao : Option Addr) (m c : Nat) (news : List Value) (hx : a.eval x = .slice ao m c) (hl : news.length = m * size) (hnone : ao = none → m = 0 ∧ c = 0) (hnews : ∀ ad, ao = some ad → ∀ j u, news[j]? = some u → w.cell? (ad.add j) = some u) (h1 : ∀ u ∈ news, u.oneCell' = true)
    (h63 : n + m ≤ maxLen) (hbytes : (n + m) * bytes ≤ 140737488355328) (hbase : base ≤ w.heap.size)
    (h : ∀ v' w', w'.ownsRow base e size v' (n + m) (xs ++ news) → w.grownBy w' v.ownBlock → wpList P ops Q rest (a.put o.dst v') w') : wpList P ops Q (o :: rest) a w :=
  wpList_plain hgd fun _ hK => wp_append_any w s x t ho base e i z size bytes ht hi hz hsize hby hzs hsz v n xs hs hown ao m c news hx hl hnone hnews h1 h63 hbytes hbase fun v' w' h2 h3 => hK _ _ (h v' w' h2 h3)
end Go.Proofs.Ytmliinglojmojab.mk
/-
  A REGION THAT DRAWS ITS ORDER, walked by hand: one operation taken or skipped, its slot named.
-/
namespace Go.Proofs.Ytmliinglojmojab.mk
open Go.RowKit
set_option linter.unusedVariables false

theorem takeD {P : Program} {ops : Array Oper} {Q : Exit → Act → World → Prop} {md : Region.Mode} {S : World → Prop} {i : Nat} {oi : Oper} {d : Option Tmp} {v : Value} {fuel : Nat} {listed : Array Bool} {a : Act} {w : World} (hi : ops[i]? = some oi) (hd : oi.dst = d)
    (hs : Region.noSelect ops = true) (hf : Region.free md ops listed i = true) (hr : (Region.ready md ops listed).contains i = true)
    (hQ : ∀ c a w, Q (.panic c) (a.put d v) w → Q (.panic c) a w) (hy : YieldsIf P ops S oi v a) (hS : S w)
    (h : wpAnyH P md ops Q S fuel (listed.setIfInBounds i true) (a.put d v) w) : wpAnyH P md ops Q S (fuel + 1) listed a w := by
  subst hd
  exact wpAnyH_take hi hs hf hr hQ hy hS h
theorem callD {P : Program} {ops : Array Oper} {Q : Exit → Act → World → Prop} {md : Region.Mode} {S : World → Prop} {i : Nat} {oi : Oper} {fuel : Nat} {listed : Array Bool} {a : Act} {w : World} (hi : ops[i]? = some oi)
    (hr : Region.ready md ops listed = [i]) (hw : Region.wanted oi (yielded ops a.tmps) = true)
    (h : ∀ K' : Act → World → Prop, Shut (∀ a w, S w → (S w → wpAnyH P md ops Q S fuel (listed.setIfInBounds i true) a w) → K' a w) → Oper.wp P oi a w K' Q) : wpAnyH P md ops Q S (fuel + 1) listed a w :=
  wpAnyH_ready hr (by simp) (AllReadyH.cons hi (fun K' hK => by rw [if_pos hw]; exact h K' hK) AllReadyH.nil)
theorem tkE {P : Program} {ops : Array Oper} {Q : Exit → Act → World → Prop} {md : Region.Mode} {S : World → Prop} (i : Nat) {oi : Oper} (d : Option Tmp) (v : Value) {fuel : Nat} {listed : Array Bool} {a a' : Act} {w : World}
    (hy : ∀ w, S w → (execOp a.eval oi).run P w = .ok (.value v) w) (h : wpAnyH P md ops Q S fuel (listed.setIfInBounds i true) a' w)
    (hp : a.put d v = a' := by (simp only [Act.put, List.setIfInBounds_toArray, List.set_cons_zero, List.set_cons_succ]; exact rfl)) (hi : ops[i]? = some oi := by exact rfl) (hd : oi.dst = d := by exact rfl) (hs : Region.noSelect ops = true := by kernel_rfl) (hf : Region.free md ops listed i = true := by kernel_rfl) (hr : (Region.ready md ops listed).contains i = true := by kernel_rfl)
    (hQ : ∀ c a w, Q (.panic c) (a.put d v) w → Q (.panic c) a w := by exact fun _ _ _ h => h) (hw : Region.wanted oi (yielded ops a.tmps) = true := by rfl) (hS : S w := by assumption) : wpAnyH P md ops Q S (fuel + 1) listed a w := by
  subst hp
  exact takeD hi hd hs hf hr hQ (.inl ⟨hw, hy⟩) hS h
theorem tkF {P : Program} {ops : Array Oper} {Q : Exit → Act → World → Prop} {md : Region.Mode} {S : World → Prop} (i : Nat) {oi : Oper} (d : Option Tmp) {v : Value} {fuel : Nat} {listed : Array Bool} {a a' : Act} {w : World}
    (h : wpAnyH P md ops Q S fuel (listed.setIfInBounds i true) a' w) (hi : ops[i]? = some oi := by exact rfl) (hy : ∀ w, S w → (execOp a.eval oi).run P w = .ok (.value v) w := by (intro w hSw; go_simp <;> with_reducible rfl))
    (hp : a.put d v = a' := by (simp only [Act.put, List.setIfInBounds_toArray, List.set_cons_zero, List.set_cons_succ]; exact rfl)) (hd : oi.dst = d := by exact rfl) (hs : Region.noSelect ops = true := by kernel_rfl) (hf : Region.free md ops listed i = true := by kernel_rfl) (hr : (Region.ready md ops listed).contains i = true := by kernel_rfl)
    (hQ : ∀ c a w, Q (.panic c) (a.put d v) w → Q (.panic c) a w := by exact fun _ _ _ h => h) (hw : Region.wanted oi (yielded ops a.tmps) = true := by rfl) (hS : S w := by assumption) : wpAnyH P md ops Q S (fuel + 1) listed a w := by
  subst hp
  exact takeD hi hd hs hf hr hQ (.inl ⟨hw, hy⟩) hS h
theorem tkS {P : Program} {ops : Array Oper} {Q : Exit → Act → World → Prop} {md : Region.Mode} {S : World → Prop} (i : Nat) {oi : Oper} (d : Option Tmp) {fuel : Nat} {listed : Array Bool} {a a' : Act} {w : World}
    (h : wpAnyH P md ops Q S fuel (listed.setIfInBounds i true) a' w)
    (hp : a.put d undef = a' := by (simp only [Act.put, List.setIfInBounds_toArray, List.set_cons_zero, List.set_cons_succ]; exact rfl)) (hi : ops[i]? = some oi := by exact rfl) (hd : oi.dst = d := by exact rfl) (hs : Region.noSelect ops = true := by kernel_rfl) (hf : Region.free md ops listed i = true := by kernel_rfl) (hr : (Region.ready md ops listed).contains i = true := by kernel_rfl)
    (hQ : ∀ c a w, Q (.panic c) (a.put d undef) w → Q (.panic c) a w := by exact fun _ _ _ h => h) (hw : Region.wanted oi (yielded ops a.tmps) = false := by rfl) (hS : S w := by assumption) : wpAnyH P md ops Q S (fuel + 1) listed a w := by
  subst hp
  exact takeD hi hd hs hf hr hQ (.inr ⟨hw, rfl⟩) hS h
end Go.Proofs.Ytmliinglojmojab.mk

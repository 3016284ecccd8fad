/-
  ITEMS: a slice of items as cells; what the laws' eq functions say of two that are alike.
-/
import Derived.Test.YtfjedpnagnnobaaMkA
namespace Go.Proofs.Ytfjedpnagnnobaa.mk
open Go.RowKit
set_option linter.unusedVariables false

/-- an item: its text, last, has, since -/
structure It where
  text : ByteArray
  last : Bool
  has : Bool
  since : Int
instance : Inhabited It := ⟨⟨⟨#[]⟩, false, false, 0⟩⟩
def It.vals (x : It) : List Value := [.string x.text, .bool x.last, .bool x.has, .int .i64 x.since]
def is (xs : List It) : List Value := xs.flatMap It.vals
theorem is_length (xs : List It) : (is xs).length = xs.length * 4 := by
  induction xs with
  | nil => rfl
  | cons x xs ih => simp only [is, It.vals, List.flatMap_cons, List.length_append, List.length_cons, List.length_nil] at ih ⊢; omega
theorem is_append (xs ys : List It) : is (xs ++ ys) = is xs ++ is ys := by simp [is]
theorem is_at (xs : List It) (i : Nat) (h : i < xs.length) : (is xs)[i * 4]? = some (.string xs[i].text) ∧ (is xs)[i * 4 + 1]? = some (.bool xs[i].last) ∧ (is xs)[i * 4 + 2]? = some (.bool xs[i].has) ∧ (is xs)[i * 4 + 3]? = some (.int .i64 xs[i].since) := by
  induction xs generalizing i with
  | nil => simp at h
  | cons x xs ih =>
    cases i with
    | zero => simp [is, It.vals]
    | succ i =>
      have := ih i (by simpa using h)
      have e : (i + 1) * 4 = i * 4 + 4 := by omega
      rw [e]
      simpa [is, It.vals] using this
/-- the cells of item i, in a world that keeps what lay -/
theorem Rs.item {w wr : World} {g n : Nat} {xs : List It} (hg : g < w.heap.size) (h : ∀ j, j < (is xs).length → w.cell? ⟨g, j, none⟩ = (is xs)[j]?) (hb : Below w.heap.size w wr) (i : Nat) (hi : i < xs.length) :
    wr.cell? ⟨g, i * 4, none⟩ = some (.string xs[i].text) ∧ wr.cell? ⟨g, i * 4 + 1, none⟩ = some (.bool xs[i].last) ∧ wr.cell? ⟨g, i * 4 + 2, none⟩ = some (.bool xs[i].has) ∧ wr.cell? ⟨g, i * 4 + 3, none⟩ = some (.int .i64 xs[i].since) := by
  have hx := is_at xs i hi
  have hl := is_length xs
  exact ⟨(hb.cell (p := ⟨g, i * 4, none⟩) hg).trans ((h _ (by omega)).trans hx.1), (hb.cell (p := ⟨g, i * 4 + 1, none⟩) hg).trans ((h _ (by omega)).trans hx.2.1), (hb.cell (p := ⟨g, i * 4 + 2, none⟩) hg).trans ((h _ (by omega)).trans hx.2.2.1), (hb.cell (p := ⟨g, i * 4 + 3, none⟩) hg).trans ((h _ (by omega)).trans hx.2.2.2)⟩
theorem eqItem_same (s : ByteArray) (l h : Bool) (n : Int) (w : World) :
    Calls Try.prog 87 #[.agg #[.string s, .bool l, .bool h, .int .i64 n], .agg #[.string s, .bool l, .bool h, .int .i64 n]] w fun e w' => e = .returned (.bool true) ∧ Below w.heap.size w w' := by
  go_enter Try.func87, Try.ntmps87
  go_wp2_with (go_at_call 98; refine (eqPart_same _ _ _).mono ?_; rintro e w1 ⟨rfl, hb1⟩; (have c1 := hb1.cell (p := ⟨w.heap.size, 2, none⟩) (by simp; omega)); (have c2 := hb1.cell (p := ⟨w.heap.size + 1, 2, none⟩) (by simp)); (have c3 := hb1.cell (p := ⟨w.heap.size, 3, none⟩) (by simp; omega)); (have c4 := hb1.cell (p := ⟨w.heap.size + 1, 3, none⟩) (by simp)); simp [go_sem] at c1 c2 c3 c4)
  go_ret
  exact ⟨rfl, (((Below.refl _ _).alloc (Nat.le_refl _) _).alloc (by simp) _).trans (hb1.mono (by simp; omega))⟩
theorem eqItemS_same (ao bo : Option Addr) (ca cb : Nat) (xs : List It) (w : World) (hl : xs.length ≤ 1000000000) (ha : Rs w ao xs.length (is xs)) (hb : Rs w bo xs.length (is xs)) :
    Calls Try.prog 60 #[.slice ao xs.length ca, .slice bo xs.length cb] w fun e w' => e = .returned (.bool true) ∧ Below w.heap.size w w' := by
  have HA : Hid (Rs w ao xs.length (is xs)) := ha
  have HB : Hid (Rs w bo xs.length (is xs)) := hb
  clear ha hb
  go_enter Try.func60, Try.ntmps60
  go_wp2
  go_loopw [5] (fun i wr => ∃ k : Nat, k ≤ xs.length ∧ i = .int .i64 k ∧ Below w.heap.size w wr) (fun i _ => xs.length - (intOf i).toNat)
  case atStart => exact ⟨0, Nat.zero_le _, rfl, Below.refl _ _⟩
  case round =>
    obtain ⟨k, hk, rfl, hbel⟩ := hrel
    by_cases hlt : k < xs.length
    · rcases HA.out.ex with h | ⟨g, rfl, hg, hgc⟩
      · omega
      rcases HB.out.ex with h | ⟨g', rfl, hg', hgc'⟩
      · omega
      obtain ⟨a0, a1, a2, a3⟩ := Rs.item (n := 0) hg hgc hbel k hlt
      obtain ⟨b0, b1, b2, b3⟩ := Rs.item (n := 0) hg' hgc' hbel k hlt
      have hgr : g < wr.heap.size := Nat.lt_of_lt_of_le hg hbel.size
      have hgr' : g' < wr.heap.size := Nat.lt_of_lt_of_le hg' hbel.size
      clear hgc hgc'
      generalize xs[k].text = s at *
      generalize xs[k].last = l at *
      generalize xs[k].has = h at *
      generalize xs[k].since = n at *
      go_wp2
      go_region_held3 (fun w' => w'.cell? ⟨g, k * 4, none⟩ = some (.string s) ∧ w'.cell? ⟨g, k * 4 + 1, none⟩ = some (.bool l) ∧ w'.cell? ⟨g, k * 4 + 2, none⟩ = some (.bool h) ∧ w'.cell? ⟨g, k * 4 + 3, none⟩ = some (.int .i64 n) ∧ w'.cell? ⟨g', k * 4, none⟩ = some (.string s) ∧ w'.cell? ⟨g', k * 4 + 1, none⟩ = some (.bool l) ∧ w'.cell? ⟨g', k * 4 + 2, none⟩ = some (.bool h) ∧ w'.cell? ⟨g', k * 4 + 3, none⟩ = some (.int .i64 n) ∧ Below wr.heap.size wr w')
        (first | assumption | exact ⟨a0, a1, a2, a3, b0, b1, b2, b3, (Below.refl _ _).drew⟩ | (go_split_ands; refine ⟨kp (by assumption) (by assumption) hb2 hgr, kp (by assumption) (by assumption) hb2 hgr, kp (by assumption) (by assumption) hb2 hgr, kp (by assumption) (by assumption) hb2 hgr, kp (by assumption) (by assumption) hb2 hgr', kp (by assumption) (by assumption) hb2 hgr', kp (by assumption) (by assumption) hb2 hgr', kp (by assumption) (by assumption) hb2 hgr', kb (by assumption) hb2 (Nat.le_refl _)⟩))
        (first | (go_at_call 87; refine (eqItem_same _ _ _ _ _).mono ?_; rintro e w2 ⟨rfl, hb2⟩))
      have hbl : Below wr.heap.size wr w2 := by go_split_ands; assumption
      go_wp2
      go_roundw
      case rel => exact ⟨k + 1, by omega, by go_num, hbel.trans (hbl.mono hbel.size)⟩
      case measure => simp [intOf]; omega
    · obtain rfl : k = xs.length := by omega
      go_wp2
      go_ret
      exact ⟨rfl, hbel⟩
theorem eqSend_same (z : Int) (ao bo : Option Addr) (ca cb : Nat) (xs : List It) (w : World) (hl : xs.length ≤ 1000000000) (ha : Rs w ao xs.length (is xs)) (hb : Rs w bo xs.length (is xs)) :
    Calls Try.prog 26 #[.agg #[.int .i64 z, .slice ao xs.length ca], .agg #[.int .i64 z, .slice bo xs.length cb]] w fun e w' => e = .returned (.bool true) ∧ Below w.heap.size w w' := by
  have HA : Hid (Rs w ao xs.length (is xs)) := ha
  have HB : Hid (Rs w bo xs.length (is xs)) := hb
  clear ha hb
  have b0 : ∀ (o p : Obj), Below w.heap.size w ((w.alloc o).alloc p) := fun o p => ((Below.refl _ _).alloc (Nat.le_refl _) _).alloc (by simp) _
  have HB0 : Hid (∀ (o p : Obj), Below w.heap.size w ((w.alloc o).alloc p)) := b0
  clear b0
  go_enter Try.func26, Try.ntmps26
  go_wp2_with (go_at_call 60; refine (eqItemS_same _ _ _ _ xs _ hl (HA.out.keep (HB0.out _ _)) (HB.out.keep (HB0.out _ _))).mono ?_; rintro e w1 ⟨rfl, hb1⟩)
  go_ret
  exact ⟨rfl, (HB0.out _ _).trans (hb1.mono (by simp; omega))⟩
end Go.Proofs.Ytfjedpnagnnobaa.mk

/-
  TAKES: a slice of held parts as cells; what the laws' eq functions say of two that are alike.
-/
import Derived.Test.YtfjedpnagnnobaaMkS
namespace Go.Proofs.Ytfjedpnagnnobaa.mk
open Go.RowKit
set_option linter.unusedVariables false

/-- a held part: its number, text, last -/
structure Hd where
  seq : Int
  text : ByteArray
  last : Bool
instance : Inhabited Hd := ⟨⟨0, ⟨#[]⟩, false⟩⟩
def Hd.vals (x : Hd) : List Value := [.int .i64 x.seq, .string x.text, .bool x.last]
def hs (xs : List Hd) : List Value := xs.flatMap Hd.vals
theorem hs_length (xs : List Hd) : (hs xs).length = xs.length * 3 := by
  induction xs with
  | nil => rfl
  | cons x xs ih => simp only [hs, Hd.vals, List.flatMap_cons, List.length_append, List.length_cons, List.length_nil] at ih ⊢; omega
theorem hs_append (xs ys : List Hd) : hs (xs ++ ys) = hs xs ++ hs ys := by simp [hs]
theorem hs_at (xs : List Hd) (i : Nat) (h : i < xs.length) : (hs xs)[i * 3]? = some (.int .i64 xs[i].seq) ∧ (hs xs)[i * 3 + 1]? = some (.string xs[i].text) ∧ (hs xs)[i * 3 + 2]? = some (.bool xs[i].last) := by
  induction xs generalizing i with
  | nil => simp at h
  | cons x xs ih =>
    cases i with
    | zero => simp [hs, Hd.vals]
    | succ i =>
      have := ih i (by simpa using h)
      have e : (i + 1) * 3 = i * 3 + 3 := by omega
      rw [e]
      simpa [hs, Hd.vals] using this
/-- the cells of held part i, in a world that keeps what lay -/
theorem Rs.held {w wr : World} {g n : Nat} {xs : List Hd} (hg : g < w.heap.size) (h : ∀ j, j < (hs xs).length → w.cell? ⟨g, j, none⟩ = (hs xs)[j]?) (hb : Below w.heap.size w wr) (i : Nat) (hi : i < xs.length) :
    wr.cell? ⟨g, i * 3, none⟩ = some (.int .i64 xs[i].seq) ∧ wr.cell? ⟨g, i * 3 + 1, none⟩ = some (.string xs[i].text) ∧ wr.cell? ⟨g, i * 3 + 2, none⟩ = some (.bool xs[i].last) := by
  have hx := hs_at xs i hi
  have hl := hs_length xs
  exact ⟨(hb.cell (p := ⟨g, i * 3, none⟩) hg).trans ((h _ (by omega)).trans hx.1), (hb.cell (p := ⟨g, i * 3 + 1, none⟩) hg).trans ((h _ (by omega)).trans hx.2.1), (hb.cell (p := ⟨g, i * 3 + 2, none⟩) hg).trans ((h _ (by omega)).trans hx.2.2)⟩
theorem eqHeld_same (n : Int) (s : ByteArray) (l : Bool) (w : World) :
    Calls Try.prog 88 #[.agg #[.int .i64 n, .string s, .bool l], .agg #[.int .i64 n, .string s, .bool l]] w fun e w' => e = .returned (.bool true) ∧ Below w.heap.size w w' := by
  go_enter Try.func88, Try.ntmps88
  go_wp2_with (go_at_call 98; refine (eqPart_same _ _ _).mono ?_; rintro e w1 ⟨rfl, hb1⟩)
  go_ret
  exact ⟨rfl, (((Below.refl _ _).alloc (Nat.le_refl _) _).alloc (by simp) _).trans (hb1.mono (by simp; omega))⟩
theorem eqHeldS_same (ao bo : Option Addr) (ca cb : Nat) (xs : List Hd) (w : World) (hl : xs.length ≤ 1000000000) (ha : Rs w ao xs.length (hs xs)) (hb : Rs w bo xs.length (hs xs)) :
    Calls Try.prog 61 #[.slice ao xs.length ca, .slice bo xs.length cb] w fun e w' => e = .returned (.bool true) ∧ Below w.heap.size w w' := by
  have HA : Hid (Rs w ao xs.length (hs xs)) := ha
  have HB : Hid (Rs w bo xs.length (hs xs)) := hb
  clear ha hb
  go_enter Try.func61, Try.ntmps61
  go_wp2
  go_loopw [5] (fun i wr => ∃ k : Nat, k ≤ xs.length ∧ i = .int .i64 k ∧ Below w.heap.size w wr) (fun i _ => xs.length - (intOf i).toNat)
  case atStart => exact ⟨0, Nat.zero_le _, rfl, Below.refl _ _⟩
  case round =>
    obtain ⟨k, hk, rfl, hbel⟩ := hrel
    by_cases hlt : k < xs.length
    · rcases HA.out.ex with h | ⟨g, rfl, hg, hgc⟩
      · omega
      rcases HB.out.ex with h | ⟨g', rfl, hg', hgc'⟩
      · omega
      obtain ⟨a0, a1, a2⟩ := Rs.held (n := 0) hg hgc hbel k hlt
      obtain ⟨b0, b1, b2⟩ := Rs.held (n := 0) hg' hgc' hbel k hlt
      have hgr : g < wr.heap.size := Nat.lt_of_lt_of_le hg hbel.size
      have hgr' : g' < wr.heap.size := Nat.lt_of_lt_of_le hg' hbel.size
      clear hgc hgc'
      generalize xs[k].text = s at *
      generalize xs[k].last = l at *
      generalize xs[k].seq = n at *
      go_wp2
      go_region_held3 (fun w' => w'.cell? ⟨g, k * 3, none⟩ = some (.int .i64 n) ∧ w'.cell? ⟨g, k * 3 + 1, none⟩ = some (.string s) ∧ w'.cell? ⟨g, k * 3 + 2, none⟩ = some (.bool l) ∧ w'.cell? ⟨g', k * 3, none⟩ = some (.int .i64 n) ∧ w'.cell? ⟨g', k * 3 + 1, none⟩ = some (.string s) ∧ w'.cell? ⟨g', k * 3 + 2, none⟩ = some (.bool l) ∧ Below wr.heap.size wr w')
        (first | assumption | exact ⟨a0, a1, a2, b0, b1, b2, (Below.refl _ _).drew⟩ | (go_split_ands; refine ⟨kp (by assumption) (by assumption) hb2 hgr, kp (by assumption) (by assumption) hb2 hgr, kp (by assumption) (by assumption) hb2 hgr, kp (by assumption) (by assumption) hb2 hgr', kp (by assumption) (by assumption) hb2 hgr', kp (by assumption) (by assumption) hb2 hgr', kb (by assumption) hb2 (Nat.le_refl _)⟩))
        (first | (go_at_call 88; refine (eqHeld_same _ _ _ _).mono ?_; rintro e w2 ⟨rfl, hb2⟩))
      have hbl : Below wr.heap.size wr w2 := by go_split_ands; assumption
      go_wp2
      go_roundw
      case rel => exact ⟨k + 1, by omega, by go_num, hbel.trans (hbl.mono hbel.size)⟩
      case measure => simp [intOf]; omega
    · obtain rfl : k = xs.length := by omega
      go_wp2
      go_ret
      exact ⟨rfl, hbel⟩
/-- a Take that is to be read: its held parts and its messages -/
structure Rt (w : World) (ao so : Option Addr) (xs : List Hd) (rs : List ByteArray) : Prop where
  held : Rs w ao xs.length (hs xs)
  ready : Rs w so rs.length (ss rs)
theorem Rt.keep {w w' : World} {ao so : Option Addr} {xs : List Hd} {rs : List ByteArray} (h : Rt w ao so xs rs) (hb : Below w.heap.size w w') : Rt w' ao so xs rs := ⟨h.held.keep hb, h.ready.keep hb⟩
theorem eqTake_same (z : Int) (ao so bo to : Option Addr) (ca cs cb ct : Nat) (xs : List Hd) (o : ByteArray) (rs : List ByteArray) (w : World) (hl : xs.length ≤ 1000000000) (hl2 : rs.length ≤ 1000000000) (ha : Rt w ao so xs rs) (hb : Rt w bo to xs rs) :
    Calls Try.prog 27 #[.agg #[.int .i64 z, .slice ao xs.length ca, .string o, .slice so rs.length cs], .agg #[.int .i64 z, .slice bo xs.length cb, .string o, .slice to rs.length ct]] w fun e w' => e = .returned (.bool true) ∧ Below w.heap.size w w' := by
  have HA : Hid (Rt w ao so xs rs) := ha
  have HB : Hid (Rt w bo to xs rs) := hb
  clear ha hb
  have b0 : ∀ (o p : Obj), Below w.heap.size w ((w.alloc o).alloc p) := fun o p => ((Below.refl _ _).alloc (Nat.le_refl _) _).alloc (by simp) _
  have HB0 : Hid (∀ (o p : Obj), Below w.heap.size w ((w.alloc o).alloc p)) := b0
  clear b0
  go_enter Try.func27, Try.ntmps27
  go_wp2_with (first
    | (go_at_call 61; refine (eqHeldS_same _ _ _ _ xs _ hl (HA.out.held.keep (HB0.out _ _)) (HB.out.held.keep (HB0.out _ _))).mono ?_; rintro e w1 ⟨rfl, hb1⟩; (have c2 := hb1.cell (p := ⟨w.heap.size, 2, none⟩) (by simp; omega)); (have c3 := hb1.cell (p := ⟨w.heap.size, 3, none⟩) (by simp; omega)); (have d2 := hb1.cell (p := ⟨w.heap.size + 1, 2, none⟩) (by simp)); (have d3 := hb1.cell (p := ⟨w.heap.size + 1, 3, none⟩) (by simp)); simp [go_sem] at c2 c3 d2 d3)
    | (go_at_call 62; refine (eqStringS_same _ _ _ _ rs _ hl2 ((HA.out.ready.keep (HB0.out _ _)).keep hb1) ((HB.out.ready.keep (HB0.out _ _)).keep hb1)).mono ?_; rintro e w2 ⟨rfl, hb2⟩))
  go_ret
  exact ⟨rfl, kb (kb (HB0.out _ _) hb1 (Nat.le_refl _)) hb2 (Nat.le_refl _)⟩
end Go.Proofs.Ytfjedpnagnnobaa.mk

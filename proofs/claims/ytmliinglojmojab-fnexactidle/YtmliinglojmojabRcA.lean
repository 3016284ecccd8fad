/-
  RECORDS: rows of them.
-/
import Derived.Test.YtmliinglojmojabBase
namespace Go.Proofs.Ytmliinglojmojab.mk
open Go.RowKit
set_option linter.unusedVariables false

structure Rc where
  frm : Int
  a : Int
  b : Int
  text : ByteArray
instance : Inhabited Rc := ⟨⟨0, 0, 0, ⟨#[]⟩⟩⟩
def Rc.vals (x : Rc) : List Value := [.int .i64 x.frm, .int .i64 x.a, .int .i64 x.b, .string x.text]
def rcs (xs : List Rc) : List Value := xs.flatMap Rc.vals
theorem rcs_length (xs : List Rc) : (rcs xs).length = xs.length * 4 := by
  induction xs with
  | nil => rfl
  | cons x xs ih => simp only [rcs, Rc.vals, List.flatMap_cons, List.length_append, List.length_cons, List.length_nil] at ih ⊢; omega
theorem rcs_append (xs ys : List Rc) : rcs (xs ++ ys) = rcs xs ++ rcs ys := by simp [rcs]
theorem rcs_at (xs : List Rc) (i : Nat) (h : i < xs.length) : (rcs xs)[i * 4]? = some (.int .i64 xs[i].frm) ∧ (rcs xs)[i * 4 + 1]? = some (.int .i64 xs[i].a) ∧ (rcs xs)[i * 4 + 2]? = some (.int .i64 xs[i].b) ∧ (rcs xs)[i * 4 + 3]? = some (.string xs[i].text) := by
  induction xs generalizing i with
  | nil => simp at h
  | cons x xs ih =>
    cases i with
    | zero => simp [rcs, Rc.vals]
    | succ i =>
      have := ih i (by simpa using h)
      have e : (i + 1) * 4 = i * 4 + 4 := by omega
      rw [e]
      simpa [rcs, Rc.vals] using this
theorem Rs.rcs {w wr : World} {g n : Nat} {xs : List Rc} (hg : g < w.heap.size) (h : ∀ j, j < (rcs xs).length → w.cell? ⟨g, j, none⟩ = (rcs xs)[j]?) (hb : Below w.heap.size w wr) (i : Nat) (hi : i < xs.length) :
    wr.cell? ⟨g, i * 4, none⟩ = some (.int .i64 xs[i].frm) ∧ wr.cell? ⟨g, i * 4 + 1, none⟩ = some (.int .i64 xs[i].a) ∧ wr.cell? ⟨g, i * 4 + 2, none⟩ = some (.int .i64 xs[i].b) ∧ wr.cell? ⟨g, i * 4 + 3, none⟩ = some (.string xs[i].text) := by
  have hx := rcs_at xs i hi
  have hl := rcs_length xs
  exact ⟨(hb.cell (p := ⟨g, i * 4, none⟩) hg).trans ((h _ (by omega)).trans hx.1), (hb.cell (p := ⟨g, i * 4 + 1, none⟩) hg).trans ((h _ (by omega)).trans hx.2.1), (hb.cell (p := ⟨g, i * 4 + 2, none⟩) hg).trans ((h _ (by omega)).trans hx.2.2.1), (hb.cell (p := ⟨g, i * 4 + 3, none⟩) hg).trans ((h _ (by omega)).trans hx.2.2.2)⟩
theorem eqRecord_same (vfrm : Int) (va : Int) (vb : Int) (vtext : ByteArray) (w : World) :
    Calls Try.prog 36 #[.agg #[.int .i64 vfrm, .int .i64 va, .int .i64 vb, .string vtext], .agg #[.int .i64 vfrm, .int .i64 va, .int .i64 vb, .string vtext]] w fun e w' => e = .returned (.bool true) ∧ Below w.heap.size w w' := by
  go_enter Try.func36, Try.ntmps36
  go_wp2
  go_ret
  exact ⟨rfl, ((Below.refl _ _).alloc (Nat.le_refl _) _).alloc (by simp) _⟩
theorem eqRecordS_same (ao bo : Option Addr) (ca cb : Nat) (xs : List Rc) (w : World) (hl : xs.length ≤ 1000000000) (ha : Rs w ao xs.length (rcs xs)) (hb : Rs w bo xs.length (rcs xs)) :
    Calls Try.prog 20 #[.slice ao xs.length ca, .slice bo xs.length cb] w fun e w' => e = .returned (.bool true) ∧ Below w.heap.size w w' := by
  have HA : Hid (Rs w ao xs.length (rcs xs)) := ha
  have HB : Hid (Rs w bo xs.length (rcs xs)) := hb
  clear ha hb
  go_enter Try.func20, Try.ntmps20
  go_wp2
  go_loopw [5] (fun i wr => ∃ k : Nat, k ≤ xs.length ∧ i = .int .i64 k ∧ Below w.heap.size w wr) (fun i _ => xs.length - (intOf i).toNat)
  case atStart => exact ⟨0, Nat.zero_le _, rfl, Below.refl _ _⟩
  case round =>
    obtain ⟨k, hk, rfl, hbel⟩ := hrel
    by_cases hlt : k < xs.length
    · rcases HA.out.ex with h | ⟨g, rfl, hg, hgc⟩
      · omega
      rcases HB.out.ex with h | ⟨g', rfl, hg', hgc'⟩
      · omega
      obtain ⟨a0, a1, a2, a3⟩ := Rs.rcs (n := 0) hg hgc hbel k hlt
      obtain ⟨b0, b1, b2, b3⟩ := Rs.rcs (n := 0) hg' hgc' hbel k hlt
      have hgr : g < wr.heap.size := Nat.lt_of_lt_of_le hg hbel.size
      have hgr' : g' < wr.heap.size := Nat.lt_of_lt_of_le hg' hbel.size
      clear hgc hgc'
      generalize xs[k].frm = vfrm at *
      generalize xs[k].a = va at *
      generalize xs[k].b = vb at *
      generalize xs[k].text = vtext at *
      go_wp2
      go_region_held3 (fun w' => w'.cell? ⟨g, k * 4, none⟩ = some (.int .i64 vfrm) ∧ w'.cell? ⟨g, k * 4 + 1, none⟩ = some (.int .i64 va) ∧ w'.cell? ⟨g, k * 4 + 2, none⟩ = some (.int .i64 vb) ∧ w'.cell? ⟨g, k * 4 + 3, none⟩ = some (.string vtext) ∧ w'.cell? ⟨g', k * 4, none⟩ = some (.int .i64 vfrm) ∧ w'.cell? ⟨g', k * 4 + 1, none⟩ = some (.int .i64 va) ∧ w'.cell? ⟨g', k * 4 + 2, none⟩ = some (.int .i64 vb) ∧ w'.cell? ⟨g', k * 4 + 3, none⟩ = some (.string vtext) ∧ Below wr.heap.size wr w')
        (first | assumption | exact ⟨a0, a1, a2, a3, b0, b1, b2, b3, (Below.refl _ _).drew⟩ | (go_split_ands; refine ⟨kp (by assumption) (by assumption) hb2 hgr, kp (by assumption) (by assumption) hb2 hgr, kp (by assumption) (by assumption) hb2 hgr, kp (by assumption) (by assumption) hb2 hgr, kp (by assumption) (by assumption) hb2 hgr', kp (by assumption) (by assumption) hb2 hgr', kp (by assumption) (by assumption) hb2 hgr', kp (by assumption) (by assumption) hb2 hgr', kb (by assumption) hb2 (Nat.le_refl _)⟩))
        (first | (go_at_call 36; refine (eqRecord_same _ _ _ _ _).mono ?_; rintro e w2 ⟨rfl, hb2⟩))
      have hbl : Below wr.heap.size wr w2 := by go_split_ands; assumption
      go_wp2
      go_roundw
      case rel => exact ⟨k + 1, by omega, by go_num, hbel.trans (hbl.mono hbel.size)⟩
      case measure => simp [intOf]; omega
    · obtain rfl : k = xs.length := by omega
      go_wp2
      go_ret
      exact ⟨rfl, hbel⟩
/-! ### that came in -/
structure ARc (w : World) (ao : Option Addr) (xs : List Rc) : Prop where
  ex : xs.length = 0 ∨ ∃ g o, ao = some ⟨g, o, none⟩ ∧ ∀ i (h : i < xs.length), w.cell? ⟨g, o + i * 4, none⟩ = some (.int .i64 xs[i].frm) ∧ w.cell? ⟨g, o + i * 4 + 1, none⟩ = some (.int .i64 xs[i].a) ∧ w.cell? ⟨g, o + i * 4 + 2, none⟩ = some (.int .i64 xs[i].b) ∧ w.cell? ⟨g, o + i * 4 + 3, none⟩ = some (.string xs[i].text)
theorem ARc.keep {w w' : World} {ao : Option Addr} {xs : List Rc} (h : ARc w ao xs) (hb : Below w.heap.size w w') : ARc w' ao xs := by
  rcases h.ex with h | ⟨g, o, h1, h2⟩
  · exact ⟨.inl h⟩
  · exact ⟨.inr ⟨g, o, h1, fun i hi => ⟨cell_keep (h2 i hi).1 hb, cell_keep (h2 i hi).2.1 hb, cell_keep (h2 i hi).2.2.1 hb, cell_keep (h2 i hi).2.2.2 hb⟩⟩⟩
/-- sizes of the texts -/
def Rc.fits (m : Nat) (x : Rc) : Prop := x.text.size ≤ m
theorem szRecord_any (vfrm : Int) (va : Int) (vb : Int) (vtext : ByteArray) (z : Int) (w : World) (hs : Rc.fits maxLen ⟨vfrm, va, vb, vtext⟩) (hz : 0 ≤ z ∧ z ≤ 1048576) :
    Calls Try.prog 23 #[.agg #[.int .i64 vfrm, .int .i64 va, .int .i64 vb, .string vtext], .int .i64 z] w fun e w' => (∃ y : Int, e = .returned (.int .i64 y) ∧ y ≤ 1048576 ∧ -1 ≤ y ∧ (0 ≤ y → Rc.fits 1048576 ⟨vfrm, va, vb, vtext⟩)) ∧ Below w.heap.size w w' := by
  simp only [Rc.fits] at hs ⊢
  have hstext : (vtext.size : Int) ≤ 9223372036854775807 := by have := hs; unfold maxLen at this; omega
  clear hs
  have B0 : Hid (∀ o : Obj, Below w.heap.size w (w.alloc o)) := fun o => (Below.refl _ _).alloc (Nat.le_refl _) _
  go_enter Try.func23, Try.ntmps23
  go_wp2
  all_goals go_ret
  all_goals first
    | exact ⟨⟨-1, rfl, by omega, by omega, fun h => by omega⟩, B0.out _⟩
    | exact ⟨⟨_, rfl, by omega, by omega, fun h => by omega⟩, B0.out _⟩
theorem szRecordS_any (ao : Option Addr) (cap : Nat) (xs : List Rc) (z : Int) (w : World) (hz : 0 ≤ z ∧ z ≤ 1048576) (hm : xs.length ≤ maxLen) (hs : ∀ i (h : i < xs.length), xs[i].fits maxLen) (ha : ARc w ao xs) :
    Calls Try.prog 11 #[.slice ao xs.length cap, .int .i64 z] w fun e w' => (∃ z : Int, e = .returned (.int .i64 z) ∧ z ≤ 1048576 ∧ -1 ≤ z ∧ (0 ≤ z → xs.length ≤ 1048576 ∧ ∀ i (h : i < xs.length), xs[i].fits 1048576)) ∧ Below w.heap.size w w' := by
  have HA : Hid (ARc w ao xs) := ha
  have HS : Hid (∀ i (h : i < xs.length), xs[i].fits maxLen) := hs
  have hm' : (xs.length : Int) ≤ 9223372036854775807 := by unfold maxLen at hm; omega
  clear ha hs
  by_cases h0 : z < xs.length
  · go_enter Try.func11, Try.ntmps11
    go_wp2
    go_ret
    exact ⟨⟨-1, rfl, by omega, by omega, fun h => by omega⟩, Below.refl _ _⟩
  · go_enter Try.func11, Try.ntmps11
    go_wp2
    go_loopw [1, 5] (fun q i wr => ∃ (k : Nat) (y : Int), k ≤ xs.length ∧ i = .int .i64 k ∧ q = .int .i64 y ∧ 0 ≤ y ∧ y ≤ 1048576 ∧ (∀ j (h : j < xs.length), j < k → xs[j].fits 1048576) ∧ Below w.heap.size w wr) (fun _ i _ => xs.length - (intOf i).toNat)
    case atStart => exact ⟨0, z - xs.length, Nat.zero_le _, rfl, rfl, by omega, by omega, fun j _ h => absurd h (by omega), Below.refl _ _⟩
    case round =>
      obtain ⟨k, y, hk, rfl, rfl, hy0, hy1, hall, hbel⟩ := hrel
      have HL : Hid (∀ j (h : j < xs.length), j < k → xs[j].fits 1048576) := hall
      clear hall
      by_cases hlt : k < xs.length
      · rcases HA.out.ex with h | ⟨g, o, rfl, hac⟩
        · omega
        have HSZ : Hid (Rc.fits maxLen xs[k]) := HS.out k hlt
        obtain ⟨q0, q1, q2, q3⟩ := hac k hlt
        have c0 := (hbel.cell (cell_lt q0)).trans q0
        have c1 := (hbel.cell (cell_lt q1)).trans q1
        have c2 := (hbel.cell (cell_lt q2)).trans q2
        have c3 := (hbel.cell (cell_lt q3)).trans q3
        clear hac q0 q1 q2 q3
        have HF : Hid (Rc.fits 1048576 ⟨xs[k].frm, xs[k].a, xs[k].b, xs[k].text⟩ → Rc.fits 1048576 xs[k]) := fun h => h
        have HSZ' : Hid (Rc.fits maxLen ⟨xs[k].frm, xs[k].a, xs[k].b, xs[k].text⟩) := HSZ.out
        clear HSZ
        generalize xs[k].frm = vfrm at c0 HSZ' HF
        generalize xs[k].a = va at c1 HSZ' HF
        generalize xs[k].b = vb at c2 HSZ' HF
        generalize xs[k].text = vtext at c3 HSZ' HF
        go_wp2_with (go_at_call 23; refine (szRecord_any _ _ _ _ _ _ HSZ'.out ⟨hy0, hy1⟩).mono ?_; rintro e w2 ⟨⟨y2, rfl, hy2, hy3, hy4⟩, hb2⟩; (have HY : Hid (0 ≤ y2 → Rc.fits 1048576 ⟨vfrm, va, vb, vtext⟩) := hy4); clear hy4)
        · go_ret
          exact ⟨⟨-1, rfl, by omega, by omega, fun h => by omega⟩, hbel.trans (hb2.mono hbel.size)⟩
        · go_roundw
          case rel =>
            refine ⟨k + 1, y2, by omega, by go_num, rfl, by omega, by omega, fun j h hj => ?_, hbel.trans (hb2.mono hbel.size)⟩
            rcases Nat.lt_or_ge j k with h1 | h1
            · exact HL.out j h h1
            · obtain rfl : j = k := by omega
              exact HF.out (HY.out (by omega))
          case measure => simp [intOf]; omega
      · obtain rfl : k = xs.length := by omega
        go_wp2
        go_ret
        exact ⟨⟨y, rfl, hy1, by omega, fun _ => ⟨by omega, fun i h => HL.out i h h⟩⟩, hbel⟩
theorem toRecord_any (vfrm : Int) (va : Int) (vb : Int) (vtext : ByteArray) (w : World) :
    Calls Try.prog 29 #[.agg #[.int .i64 vfrm, .int .i64 va, .int .i64 vb, .string vtext]] w fun e w' => e = .returned (.agg #[.int .i64 vfrm, .int .i64 va, .int .i64 vb, .string vtext]) ∧ Below w.heap.size w w' := by
  go_enter Try.func29, Try.ntmps29
  go_wp2
  exact bodyPost_ret (v := .agg #[.int .i64 vfrm, .int .i64 va, .int .i64 vb, .string vtext]) (by simp [results, Try.results29, go_sem]) rfl
    ⟨rfl, (((Below.refl _ _).alloc (Nat.le_refl _) _).alloc (by simp) _).alloc (by simp; omega) _⟩
/-- the first k have been laid -/
def TRc (xs : List Rc) (k : Nat) (cs : List Value) : Prop := ∀ i (h : i < xs.length), i < k → cs[i * 4]? = some (.int .i64 xs[i].frm) ∧ cs[i * 4 + 1]? = some (.int .i64 xs[i].a) ∧ cs[i * 4 + 2]? = some (.int .i64 xs[i].b) ∧ cs[i * 4 + 3]? = some (.string xs[i].text)
def putRc (cs : List Value) (k : Nat) (a0 a1 a2 a3 : Value) : List Value := ((((cs.set (k * 4) a0).set (k * 4 + 1) a1).set (k * 4 + 2) a2).set (k * 4 + 3) a3)
theorem putRc_at {cs : List Value} {k : Nat} {a0 a1 a2 a3 : Value} (hl : k * 4 + 3 < cs.length) : (putRc cs k a0 a1 a2 a3)[k * 4]? = some a0 ∧ (putRc cs k a0 a1 a2 a3)[k * 4 + 1]? = some a1 ∧ (putRc cs k a0 a1 a2 a3)[k * 4 + 2]? = some a2 ∧ (putRc cs k a0 a1 a2 a3)[k * 4 + 3]? = some a3 := by
  unfold putRc
  refine ⟨?_, ?_, ?_, ?_⟩
  · rw [List.getElem?_set_ne (by omega), List.getElem?_set_ne (by omega), List.getElem?_set_ne (by omega), List.getElem?_set_self (by first | omega | (simp; omega))]
  · rw [List.getElem?_set_ne (by omega), List.getElem?_set_ne (by omega), List.getElem?_set_self (by first | omega | (simp; omega))]
  · rw [List.getElem?_set_ne (by omega), List.getElem?_set_self (by first | omega | (simp; omega))]
  · rw [List.getElem?_set_self (by first | omega | (simp; omega))]
theorem putRc_other {cs : List Value} {k j : Nat} {a0 a1 a2 a3 : Value} (h : j < k * 4 ∨ k * 4 + 3 < j) : (putRc cs k a0 a1 a2 a3)[j]? = cs[j]? := by
  unfold putRc
  rw [List.getElem?_set_ne (by omega), List.getElem?_set_ne (by omega), List.getElem?_set_ne (by omega), List.getElem?_set_ne (by omega)]
theorem TRc.step {xs : List Rc} {k : Nat} {cs : List Value} (h : TRc xs k cs) (hk : k < xs.length) (hl : k * 4 + 3 < cs.length) :
    TRc xs (k + 1) (putRc cs k (.int .i64 xs[k].frm) (.int .i64 xs[k].a) (.int .i64 xs[k].b) (.string xs[k].text)) := by
  intro j hj hj2
  rcases Nat.lt_or_ge j k with h1 | h1
  · rw [putRc_other (by omega), putRc_other (by omega), putRc_other (by omega), putRc_other (by omega)]
    exact h j hj h1
  · obtain rfl : j = k := by omega
    exact putRc_at hl
theorem TRc.all {xs : List Rc} {cs : List Value} (h : TRc xs xs.length cs) (hl : cs.length = xs.length * 4) : cs = rcs xs := by
  apply List.ext_getElem?
  intro j
  rcases Nat.lt_or_ge j (xs.length * 4) with hj | hj
  · have hi : j / 4 < xs.length := by omega
    have a := h (j / 4) hi hi
    have b := rcs_at xs (j / 4) hi
    rcases (show j = j / 4 * 4 ∨ j = j / 4 * 4 + 1 ∨ j = j / 4 * 4 + 2 ∨ j = j / 4 * 4 + 3 by omega) with e | e | e | e
    · rw [e, a.1, b.1]
    · rw [e, a.2.1, b.2.1]
    · rw [e, a.2.2.1, b.2.2.1]
    · rw [e, a.2.2.2, b.2.2.2]
  · rw [List.getElem?_eq_none (by omega), List.getElem?_eq_none (by rw [rcs_length]; omega)]
theorem owns_putRc {w : World} {base g n cap : Nat} {e : TypeId} {cs : List Value} (h : w.ownsRow base e 4 (.slice (some ⟨g, 0, none⟩) n cap) n cs) (k : Nat) (a0 a1 a2 a3 : Value) :
    ((((w.setCell ⟨g, k * 4, none⟩ a0).setCell ⟨g, k * 4 + 1, none⟩ a1).setCell ⟨g, k * 4 + 2, none⟩ a2).setCell ⟨g, k * 4 + 3, none⟩ a3).ownsRow base e 4 (.slice (some ⟨g, 0, none⟩) n cap) n (putRc cs k a0 a1 a2 a3) :=
  ((((h.stored (k * 4) a0).1.stored (k * 4 + 1) a1).1.stored (k * 4 + 2) a2).1.stored (k * 4 + 3) a3).1
theorem below_putRc {B g : Nat} {w w1 : World} (h : Below B w w1) (hg : B ≤ g) (k : Nat) (a0 a1 a2 a3 : Value) :
    Below B w ((((w1.setCell ⟨g, k * 4, none⟩ a0).setCell ⟨g, k * 4 + 1, none⟩ a1).setCell ⟨g, k * 4 + 2, none⟩ a2).setCell ⟨g, k * 4 + 3, none⟩ a3) :=
  ((((h.setCell (p := ⟨g, k * 4, none⟩) hg _).setCell (p := ⟨g, k * 4 + 1, none⟩) hg _).setCell (p := ⟨g, k * 4 + 2, none⟩) hg _).setCell (p := ⟨g, k * 4 + 3, none⟩) hg _)
theorem info_rcs : (Try.prog.info? 77).map (fun i => (i.zero, i.size, i.bytes)) = some (some (.agg #[.int .i64 0, .int .i64 0, .int .i64 0, .string ⟨#[]⟩]), 4, 40) := by kernel_rfl
set_option maxRecDepth 100000 in
theorem toRecordS_any (ao : Option Addr) (cap : Nat) (xs : List Rc) (w : World) (hm : xs.length ≤ 1048576) (ha : ARc w ao xs) :
    Calls Try.prog 15 #[.slice ao xs.length cap] w fun e w' => (∃ g, e = .returned (.slice (some ⟨g, 0, none⟩) xs.length xs.length) ∧ w'.ownsRow w.heap.size 77 4 (.slice (some ⟨g, 0, none⟩) xs.length xs.length) xs.length (rcs xs)) ∧ Below w.heap.size w w' := by
  have HA : Hid (ARc w ao xs) := ha
  clear ha
  obtain ⟨i0, hi, hz0, hz1, hz2⟩ := info_parts info_rcs
  go_enter Try.func15, Try.ntmps15
  go_wp2_with (at_make; refine wpList_make_full _ rfl _ _ 31 rfl w.heap.size 77 i0 (.agg #[.int .i64 0, .int .i64 0, .int .i64 0, .string ⟨#[]⟩]) 4 Try.underlying31 hi hz0 hz1 _ _ _ _ xs.length rfl rfl rfl rfl (by rw [hz2]; omega) (by unfold maxLen; omega) (Nat.le_refl _) ?_)
  intro w1 hown hgrow
  have hb1 : Below w.heap.size w w1 := (Below.refl _ _).grown hgrow (Nat.le_refl _) (fun k h => by cases h)
  go_wp2
  go_loopw [4] (fun i wr => ∃ (k : Nat) (cs : List Value), k ≤ xs.length ∧ i = .int .i64 k ∧ wr.ownsRow w.heap.size 77 4 (.slice (some ⟨w.heap.size, 0, none⟩) xs.length xs.length) xs.length cs ∧ TRc xs k cs ∧ Below w.heap.size w wr) (fun i _ => xs.length - (intOf i).toNat)
  case atStart => exact ⟨0, _, Nat.zero_le _, rfl, hown, fun i _ h => absurd h (by omega), hb1⟩
  case round =>
    clear hown hgrow hb1
    obtain ⟨k, cs, hk, rfl, hown, hT, hbel⟩ := hrel
    by_cases hlt : k < xs.length
    · rcases HA.out.ex with h | ⟨g, o, rfl, hac⟩
      · omega
      have hcl := hown.1
      obtain ⟨q0, q1, q2, q3⟩ := hac k hlt
      have c0 := (hbel.cell (cell_lt q0)).trans q0
      have c1 := (hbel.cell (cell_lt q1)).trans q1
      have c2 := (hbel.cell (cell_lt q2)).trans q2
      have c3 := (hbel.cell (cell_lt q3)).trans q3
      clear hac q0 q1 q2 q3
      have HT : Hid (TRc xs (k + 1) (putRc cs k (.int .i64 xs[k].frm) (.int .i64 xs[k].a) (.int .i64 xs[k].b) (.string xs[k].text))) := hT.step hlt (by omega)
      generalize xs[k].frm = vfrm at *
      generalize xs[k].a = va at *
      generalize xs[k].b = vb at *
      generalize xs[k].text = vtext at *
      have HW : Hid (wr.ownsRow w.heap.size 77 4 (.slice (some ⟨w.heap.size, 0, none⟩) xs.length xs.length) xs.length cs) := hown
      clear hown hT
      go_wp2_with (go_at_call 29; refine (toRecord_any _ _ _ _ _).mono ?_; rintro e w2 ⟨rfl, hb2⟩; (have ho2 := HW.out.kept (grow_below none hb2) (.inr (by simp [Value.ownBlock]))); (have e0 := ho2.cellAt (k * 4) (by omega)); (have e1 := ho2.cellAt (k * 4 + 1) (by omega)); (have e2 := ho2.cellAt (k * 4 + 2) (by omega)); (have e3 := ho2.cellAt (k * 4 + 3) (by omega)); (rw [List.getElem?_eq_getElem (by omega)] at e0 e1 e2 e3); (have f0 := ho2.frozenAt (k * 4)); (have f1 := ho2.frozenAt (k * 4 + 1)); (have f2 := ho2.frozenAt (k * 4 + 2)); (have f3 := ho2.frozenAt (k * 4 + 3)))
      go_roundw
      case rel => exact ⟨k + 1, _, by omega, by go_num, owns_putRc ho2 k _ _ _ _, HT.out, below_putRc (hbel.trans (hb2.mono hbel.size)) (Nat.le_refl _) k _ _ _ _⟩
      case measure => simp [intOf]; omega
    · obtain rfl : k = xs.length := by omega
      have hcs := hT.all hown.1
      subst hcs
      go_wp2
      go_ret
      exact ⟨⟨w.heap.size, rfl, hown⟩, hbel⟩
end Go.Proofs.Ytmliinglojmojab.mk

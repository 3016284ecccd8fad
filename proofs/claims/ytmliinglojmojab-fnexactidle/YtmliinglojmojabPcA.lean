/-
  PARCELS: rows of them.
-/
import Derived.Test.YtmliinglojmojabBase
namespace Go.Proofs.Ytmliinglojmojab.mk
open Go.RowKit
set_option linter.unusedVariables false

structure Pc where
  to : Int
  sent : ByteArray
  bytes : ByteArray
instance : Inhabited Pc := ⟨⟨0, ⟨#[]⟩, ⟨#[]⟩⟩⟩
def Pc.vals (x : Pc) : List Value := [.int .i64 x.to, .string x.sent, .string x.bytes]
def pcs (xs : List Pc) : List Value := xs.flatMap Pc.vals
theorem pcs_length (xs : List Pc) : (pcs xs).length = xs.length * 3 := by
  induction xs with
  | nil => rfl
  | cons x xs ih => simp only [pcs, Pc.vals, List.flatMap_cons, List.length_append, List.length_cons, List.length_nil] at ih ⊢; omega
theorem pcs_append (xs ys : List Pc) : pcs (xs ++ ys) = pcs xs ++ pcs ys := by simp [pcs]
theorem pcs_at (xs : List Pc) (i : Nat) (h : i < xs.length) : (pcs xs)[i * 3]? = some (.int .i64 xs[i].to) ∧ (pcs xs)[i * 3 + 1]? = some (.string xs[i].sent) ∧ (pcs xs)[i * 3 + 2]? = some (.string xs[i].bytes) := by
  induction xs generalizing i with
  | nil => simp at h
  | cons x xs ih =>
    cases i with
    | zero => simp [pcs, Pc.vals]
    | succ i =>
      have := ih i (by simpa using h)
      have e : (i + 1) * 3 = i * 3 + 3 := by omega
      rw [e]
      simpa [pcs, Pc.vals] using this
theorem Rs.pcs {w wr : World} {g n : Nat} {xs : List Pc} (hg : g < w.heap.size) (h : ∀ j, j < (pcs xs).length → w.cell? ⟨g, j, none⟩ = (pcs xs)[j]?) (hb : Below w.heap.size w wr) (i : Nat) (hi : i < xs.length) :
    wr.cell? ⟨g, i * 3, none⟩ = some (.int .i64 xs[i].to) ∧ wr.cell? ⟨g, i * 3 + 1, none⟩ = some (.string xs[i].sent) ∧ wr.cell? ⟨g, i * 3 + 2, none⟩ = some (.string xs[i].bytes) := by
  have hx := pcs_at xs i hi
  have hl := pcs_length xs
  exact ⟨(hb.cell (p := ⟨g, i * 3, none⟩) hg).trans ((h _ (by omega)).trans hx.1), (hb.cell (p := ⟨g, i * 3 + 1, none⟩) hg).trans ((h _ (by omega)).trans hx.2.1), (hb.cell (p := ⟨g, i * 3 + 2, none⟩) hg).trans ((h _ (by omega)).trans hx.2.2)⟩
theorem eqParcel_same (vto : Int) (vsent : ByteArray) (vbytes : ByteArray) (w : World) :
    Calls Try.prog 35 #[.agg #[.int .i64 vto, .string vsent, .string vbytes], .agg #[.int .i64 vto, .string vsent, .string vbytes]] w fun e w' => e = .returned (.bool true) ∧ Below w.heap.size w w' := by
  go_enter Try.func35, Try.ntmps35
  go_wp2
  go_ret
  exact ⟨rfl, ((Below.refl _ _).alloc (Nat.le_refl _) _).alloc (by simp) _⟩
theorem eqParcelS_same (ao bo : Option Addr) (ca cb : Nat) (xs : List Pc) (w : World) (hl : xs.length ≤ 1000000000) (ha : Rs w ao xs.length (pcs xs)) (hb : Rs w bo xs.length (pcs xs)) :
    Calls Try.prog 19 #[.slice ao xs.length ca, .slice bo xs.length cb] w fun e w' => e = .returned (.bool true) ∧ Below w.heap.size w w' := by
  have HA : Hid (Rs w ao xs.length (pcs xs)) := ha
  have HB : Hid (Rs w bo xs.length (pcs xs)) := hb
  clear ha hb
  go_enter Try.func19, Try.ntmps19
  go_wp2
  go_loopw [5] (fun i wr => ∃ k : Nat, k ≤ xs.length ∧ i = .int .i64 k ∧ Below w.heap.size w wr) (fun i _ => xs.length - (intOf i).toNat)
  case atStart => exact ⟨0, Nat.zero_le _, rfl, Below.refl _ _⟩
  case round =>
    obtain ⟨k, hk, rfl, hbel⟩ := hrel
    by_cases hlt : k < xs.length
    · rcases HA.out.ex with h | ⟨g, rfl, hg, hgc⟩
      · omega
      rcases HB.out.ex with h | ⟨g', rfl, hg', hgc'⟩
      · omega
      obtain ⟨a0, a1, a2⟩ := Rs.pcs (n := 0) hg hgc hbel k hlt
      obtain ⟨b0, b1, b2⟩ := Rs.pcs (n := 0) hg' hgc' hbel k hlt
      have hgr : g < wr.heap.size := Nat.lt_of_lt_of_le hg hbel.size
      have hgr' : g' < wr.heap.size := Nat.lt_of_lt_of_le hg' hbel.size
      clear hgc hgc'
      generalize xs[k].to = vto at *
      generalize xs[k].sent = vsent at *
      generalize xs[k].bytes = vbytes at *
      go_wp2
      go_region_held3 (fun w' => w'.cell? ⟨g, k * 3, none⟩ = some (.int .i64 vto) ∧ w'.cell? ⟨g, k * 3 + 1, none⟩ = some (.string vsent) ∧ w'.cell? ⟨g, k * 3 + 2, none⟩ = some (.string vbytes) ∧ w'.cell? ⟨g', k * 3, none⟩ = some (.int .i64 vto) ∧ w'.cell? ⟨g', k * 3 + 1, none⟩ = some (.string vsent) ∧ w'.cell? ⟨g', k * 3 + 2, none⟩ = some (.string vbytes) ∧ Below wr.heap.size wr w')
        (first | assumption | exact ⟨a0, a1, a2, b0, b1, b2, (Below.refl _ _).drew⟩ | (go_split_ands; refine ⟨kp (by assumption) (by assumption) hb2 hgr, kp (by assumption) (by assumption) hb2 hgr, kp (by assumption) (by assumption) hb2 hgr, kp (by assumption) (by assumption) hb2 hgr', kp (by assumption) (by assumption) hb2 hgr', kp (by assumption) (by assumption) hb2 hgr', kb (by assumption) hb2 (Nat.le_refl _)⟩))
        (first | (go_at_call 35; refine (eqParcel_same _ _ _ _).mono ?_; rintro e w2 ⟨rfl, hb2⟩))
      have hbl : Below wr.heap.size wr w2 := by go_split_ands; assumption
      go_wp2
      go_roundw
      case rel => exact ⟨k + 1, by omega, by go_num, hbel.trans (hbl.mono hbel.size)⟩
      case measure => simp [intOf]; omega
    · obtain rfl : k = xs.length := by omega
      go_wp2
      go_ret
      exact ⟨rfl, hbel⟩
/-! ### that came in -/
structure APc (w : World) (ao : Option Addr) (xs : List Pc) : Prop where
  ex : xs.length = 0 ∨ ∃ g o, ao = some ⟨g, o, none⟩ ∧ ∀ i (h : i < xs.length), w.cell? ⟨g, o + i * 3, none⟩ = some (.int .i64 xs[i].to) ∧ w.cell? ⟨g, o + i * 3 + 1, none⟩ = some (.string xs[i].sent) ∧ w.cell? ⟨g, o + i * 3 + 2, none⟩ = some (.string xs[i].bytes)
theorem APc.keep {w w' : World} {ao : Option Addr} {xs : List Pc} (h : APc w ao xs) (hb : Below w.heap.size w w') : APc w' ao xs := by
  rcases h.ex with h | ⟨g, o, h1, h2⟩
  · exact ⟨.inl h⟩
  · exact ⟨.inr ⟨g, o, h1, fun i hi => ⟨cell_keep (h2 i hi).1 hb, cell_keep (h2 i hi).2.1 hb, cell_keep (h2 i hi).2.2 hb⟩⟩⟩
/-- sizes of the texts -/
def Pc.fits (m : Nat) (x : Pc) : Prop := x.sent.size ≤ m ∧ x.bytes.size ≤ m
theorem szParcel_any (vto : Int) (vsent : ByteArray) (vbytes : ByteArray) (z : Int) (w : World) (hs : Pc.fits maxLen ⟨vto, vsent, vbytes⟩) (hz : 0 ≤ z ∧ z ≤ 1048576) :
    Calls Try.prog 22 #[.agg #[.int .i64 vto, .string vsent, .string vbytes], .int .i64 z] w fun e w' => (∃ y : Int, e = .returned (.int .i64 y) ∧ y ≤ 1048576 ∧ -1 ≤ y ∧ (0 ≤ y → Pc.fits 1048576 ⟨vto, vsent, vbytes⟩)) ∧ Below w.heap.size w w' := by
  simp only [Pc.fits] at hs ⊢
  have hssent : (vsent.size : Int) ≤ 9223372036854775807 := by have := hs; unfold maxLen at this; omega
  have hsbytes : (vbytes.size : Int) ≤ 9223372036854775807 := by have := hs; unfold maxLen at this; omega
  clear hs
  have B0 : Hid (∀ o : Obj, Below w.heap.size w (w.alloc o)) := fun o => (Below.refl _ _).alloc (Nat.le_refl _) _
  go_enter Try.func22, Try.ntmps22
  go_wp2
  all_goals go_ret
  all_goals first
    | exact ⟨⟨-1, rfl, by omega, by omega, fun h => by omega⟩, B0.out _⟩
    | exact ⟨⟨_, rfl, by omega, by omega, fun h => by omega⟩, B0.out _⟩
theorem szParcelS_any (ao : Option Addr) (cap : Nat) (xs : List Pc) (z : Int) (w : World) (hz : 0 ≤ z ∧ z ≤ 1048576) (hm : xs.length ≤ maxLen) (hs : ∀ i (h : i < xs.length), xs[i].fits maxLen) (ha : APc w ao xs) :
    Calls Try.prog 10 #[.slice ao xs.length cap, .int .i64 z] w fun e w' => (∃ z : Int, e = .returned (.int .i64 z) ∧ z ≤ 1048576 ∧ -1 ≤ z ∧ (0 ≤ z → xs.length ≤ 1048576 ∧ ∀ i (h : i < xs.length), xs[i].fits 1048576)) ∧ Below w.heap.size w w' := by
  have HA : Hid (APc w ao xs) := ha
  have HS : Hid (∀ i (h : i < xs.length), xs[i].fits maxLen) := hs
  have hm' : (xs.length : Int) ≤ 9223372036854775807 := by unfold maxLen at hm; omega
  clear ha hs
  by_cases h0 : z < xs.length
  · go_enter Try.func10, Try.ntmps10
    go_wp2
    go_ret
    exact ⟨⟨-1, rfl, by omega, by omega, fun h => by omega⟩, Below.refl _ _⟩
  · go_enter Try.func10, Try.ntmps10
    go_wp2
    go_loopw [1, 5] (fun q i wr => ∃ (k : Nat) (y : Int), k ≤ xs.length ∧ i = .int .i64 k ∧ q = .int .i64 y ∧ 0 ≤ y ∧ y ≤ 1048576 ∧ (∀ j (h : j < xs.length), j < k → xs[j].fits 1048576) ∧ Below w.heap.size w wr) (fun _ i _ => xs.length - (intOf i).toNat)
    case atStart => exact ⟨0, z - xs.length, Nat.zero_le _, rfl, rfl, by omega, by omega, fun j _ h => absurd h (by omega), Below.refl _ _⟩
    case round =>
      obtain ⟨k, y, hk, rfl, rfl, hy0, hy1, hall, hbel⟩ := hrel
      have HL : Hid (∀ j (h : j < xs.length), j < k → xs[j].fits 1048576) := hall
      clear hall
      by_cases hlt : k < xs.length
      · rcases HA.out.ex with h | ⟨g, o, rfl, hac⟩
        · omega
        have HSZ : Hid (Pc.fits maxLen xs[k]) := HS.out k hlt
        obtain ⟨q0, q1, q2⟩ := hac k hlt
        have c0 := (hbel.cell (cell_lt q0)).trans q0
        have c1 := (hbel.cell (cell_lt q1)).trans q1
        have c2 := (hbel.cell (cell_lt q2)).trans q2
        clear hac q0 q1 q2
        have HF : Hid (Pc.fits 1048576 ⟨xs[k].to, xs[k].sent, xs[k].bytes⟩ → Pc.fits 1048576 xs[k]) := fun h => h
        have HSZ' : Hid (Pc.fits maxLen ⟨xs[k].to, xs[k].sent, xs[k].bytes⟩) := HSZ.out
        clear HSZ
        generalize xs[k].to = vto at c0 HSZ' HF
        generalize xs[k].sent = vsent at c1 HSZ' HF
        generalize xs[k].bytes = vbytes at c2 HSZ' HF
        go_wp2_with (go_at_call 22; refine (szParcel_any _ _ _ _ _ HSZ'.out ⟨hy0, hy1⟩).mono ?_; rintro e w2 ⟨⟨y2, rfl, hy2, hy3, hy4⟩, hb2⟩; (have HY : Hid (0 ≤ y2 → Pc.fits 1048576 ⟨vto, vsent, vbytes⟩) := hy4); clear hy4)
        · go_ret
          exact ⟨⟨-1, rfl, by omega, by omega, fun h => by omega⟩, hbel.trans (hb2.mono hbel.size)⟩
        · go_roundw
          case rel =>
            refine ⟨k + 1, y2, by omega, by go_num, rfl, by omega, by omega, fun j h hj => ?_, hbel.trans (hb2.mono hbel.size)⟩
            rcases Nat.lt_or_ge j k with h1 | h1
            · exact HL.out j h h1
            · obtain rfl : j = k := by omega
              exact HF.out (HY.out (by omega))
          case measure => simp [intOf]; omega
      · obtain rfl : k = xs.length := by omega
        go_wp2
        go_ret
        exact ⟨⟨y, rfl, hy1, by omega, fun _ => ⟨by omega, fun i h => HL.out i h h⟩⟩, hbel⟩
theorem toParcel_any (vto : Int) (vsent : ByteArray) (vbytes : ByteArray) (w : World) :
    Calls Try.prog 28 #[.agg #[.int .i64 vto, .string vsent, .string vbytes]] w fun e w' => e = .returned (.agg #[.int .i64 vto, .string vsent, .string vbytes]) ∧ Below w.heap.size w w' := by
  go_enter Try.func28, Try.ntmps28
  go_wp2
  exact bodyPost_ret (v := .agg #[.int .i64 vto, .string vsent, .string vbytes]) (by simp [results, Try.results28, go_sem]) rfl
    ⟨rfl, (((Below.refl _ _).alloc (Nat.le_refl _) _).alloc (by simp) _).alloc (by simp; omega) _⟩
/-- the first k have been laid -/
def TPc (xs : List Pc) (k : Nat) (cs : List Value) : Prop := ∀ i (h : i < xs.length), i < k → cs[i * 3]? = some (.int .i64 xs[i].to) ∧ cs[i * 3 + 1]? = some (.string xs[i].sent) ∧ cs[i * 3 + 2]? = some (.string xs[i].bytes)
def putPc (cs : List Value) (k : Nat) (a0 a1 a2 : Value) : List Value := (((cs.set (k * 3) a0).set (k * 3 + 1) a1).set (k * 3 + 2) a2)
theorem putPc_at {cs : List Value} {k : Nat} {a0 a1 a2 : Value} (hl : k * 3 + 2 < cs.length) : (putPc cs k a0 a1 a2)[k * 3]? = some a0 ∧ (putPc cs k a0 a1 a2)[k * 3 + 1]? = some a1 ∧ (putPc cs k a0 a1 a2)[k * 3 + 2]? = some a2 := by
  unfold putPc
  refine ⟨?_, ?_, ?_⟩
  · rw [List.getElem?_set_ne (by omega), List.getElem?_set_ne (by omega), List.getElem?_set_self (by first | omega | (simp; omega))]
  · rw [List.getElem?_set_ne (by omega), List.getElem?_set_self (by first | omega | (simp; omega))]
  · rw [List.getElem?_set_self (by first | omega | (simp; omega))]
theorem putPc_other {cs : List Value} {k j : Nat} {a0 a1 a2 : Value} (h : j < k * 3 ∨ k * 3 + 2 < j) : (putPc cs k a0 a1 a2)[j]? = cs[j]? := by
  unfold putPc
  rw [List.getElem?_set_ne (by omega), List.getElem?_set_ne (by omega), List.getElem?_set_ne (by omega)]
theorem TPc.step {xs : List Pc} {k : Nat} {cs : List Value} (h : TPc xs k cs) (hk : k < xs.length) (hl : k * 3 + 2 < cs.length) :
    TPc xs (k + 1) (putPc cs k (.int .i64 xs[k].to) (.string xs[k].sent) (.string xs[k].bytes)) := by
  intro j hj hj2
  rcases Nat.lt_or_ge j k with h1 | h1
  · rw [putPc_other (by omega), putPc_other (by omega), putPc_other (by omega)]
    exact h j hj h1
  · obtain rfl : j = k := by omega
    exact putPc_at hl
theorem TPc.all {xs : List Pc} {cs : List Value} (h : TPc xs xs.length cs) (hl : cs.length = xs.length * 3) : cs = pcs xs := by
  apply List.ext_getElem?
  intro j
  rcases Nat.lt_or_ge j (xs.length * 3) with hj | hj
  · have hi : j / 3 < xs.length := by omega
    have a := h (j / 3) hi hi
    have b := pcs_at xs (j / 3) hi
    rcases (show j = j / 3 * 3 ∨ j = j / 3 * 3 + 1 ∨ j = j / 3 * 3 + 2 by omega) with e | e | e
    · rw [e, a.1, b.1]
    · rw [e, a.2.1, b.2.1]
    · rw [e, a.2.2, b.2.2]
  · rw [List.getElem?_eq_none (by omega), List.getElem?_eq_none (by rw [pcs_length]; omega)]
theorem owns_putPc {w : World} {base g n cap : Nat} {e : TypeId} {cs : List Value} (h : w.ownsRow base e 3 (.slice (some ⟨g, 0, none⟩) n cap) n cs) (k : Nat) (a0 a1 a2 : Value) :
    (((w.setCell ⟨g, k * 3, none⟩ a0).setCell ⟨g, k * 3 + 1, none⟩ a1).setCell ⟨g, k * 3 + 2, none⟩ a2).ownsRow base e 3 (.slice (some ⟨g, 0, none⟩) n cap) n (putPc cs k a0 a1 a2) :=
  (((h.stored (k * 3) a0).1.stored (k * 3 + 1) a1).1.stored (k * 3 + 2) a2).1
theorem below_putPc {B g : Nat} {w w1 : World} (h : Below B w w1) (hg : B ≤ g) (k : Nat) (a0 a1 a2 : Value) :
    Below B w (((w1.setCell ⟨g, k * 3, none⟩ a0).setCell ⟨g, k * 3 + 1, none⟩ a1).setCell ⟨g, k * 3 + 2, none⟩ a2) :=
  (((h.setCell (p := ⟨g, k * 3, none⟩) hg _).setCell (p := ⟨g, k * 3 + 1, none⟩) hg _).setCell (p := ⟨g, k * 3 + 2, none⟩) hg _)
theorem info_pcs : (Try.prog.info? 73).map (fun i => (i.zero, i.size, i.bytes)) = some (some (.agg #[.int .i64 0, .string ⟨#[]⟩, .string ⟨#[]⟩]), 3, 40) := by kernel_rfl
set_option maxRecDepth 100000 in
theorem toParcelS_any (ao : Option Addr) (cap : Nat) (xs : List Pc) (w : World) (hm : xs.length ≤ 1048576) (ha : APc w ao xs) :
    Calls Try.prog 14 #[.slice ao xs.length cap] w fun e w' => (∃ g, e = .returned (.slice (some ⟨g, 0, none⟩) xs.length xs.length) ∧ w'.ownsRow w.heap.size 73 3 (.slice (some ⟨g, 0, none⟩) xs.length xs.length) xs.length (pcs xs)) ∧ Below w.heap.size w w' := by
  have HA : Hid (APc w ao xs) := ha
  clear ha
  obtain ⟨i0, hi, hz0, hz1, hz2⟩ := info_parts info_pcs
  go_enter Try.func14, Try.ntmps14
  go_wp2_with (at_make; refine wpList_make_full _ rfl _ _ 30 rfl w.heap.size 73 i0 (.agg #[.int .i64 0, .string ⟨#[]⟩, .string ⟨#[]⟩]) 3 Try.underlying30 hi hz0 hz1 _ _ _ _ xs.length rfl rfl rfl rfl (by rw [hz2]; omega) (by unfold maxLen; omega) (Nat.le_refl _) ?_)
  intro w1 hown hgrow
  have hb1 : Below w.heap.size w w1 := (Below.refl _ _).grown hgrow (Nat.le_refl _) (fun k h => by cases h)
  go_wp2
  go_loopw [4] (fun i wr => ∃ (k : Nat) (cs : List Value), k ≤ xs.length ∧ i = .int .i64 k ∧ wr.ownsRow w.heap.size 73 3 (.slice (some ⟨w.heap.size, 0, none⟩) xs.length xs.length) xs.length cs ∧ TPc xs k cs ∧ Below w.heap.size w wr) (fun i _ => xs.length - (intOf i).toNat)
  case atStart => exact ⟨0, _, Nat.zero_le _, rfl, hown, fun i _ h => absurd h (by omega), hb1⟩
  case round =>
    clear hown hgrow hb1
    obtain ⟨k, cs, hk, rfl, hown, hT, hbel⟩ := hrel
    by_cases hlt : k < xs.length
    · rcases HA.out.ex with h | ⟨g, o, rfl, hac⟩
      · omega
      have hcl := hown.1
      obtain ⟨q0, q1, q2⟩ := hac k hlt
      have c0 := (hbel.cell (cell_lt q0)).trans q0
      have c1 := (hbel.cell (cell_lt q1)).trans q1
      have c2 := (hbel.cell (cell_lt q2)).trans q2
      clear hac q0 q1 q2
      have HT : Hid (TPc xs (k + 1) (putPc cs k (.int .i64 xs[k].to) (.string xs[k].sent) (.string xs[k].bytes))) := hT.step hlt (by omega)
      generalize xs[k].to = vto at *
      generalize xs[k].sent = vsent at *
      generalize xs[k].bytes = vbytes at *
      have HW : Hid (wr.ownsRow w.heap.size 73 3 (.slice (some ⟨w.heap.size, 0, none⟩) xs.length xs.length) xs.length cs) := hown
      clear hown hT
      go_wp2_with (go_at_call 28; refine (toParcel_any _ _ _ _).mono ?_; rintro e w2 ⟨rfl, hb2⟩; (have ho2 := HW.out.kept (grow_below none hb2) (.inr (by simp [Value.ownBlock]))); (have e0 := ho2.cellAt (k * 3) (by omega)); (have e1 := ho2.cellAt (k * 3 + 1) (by omega)); (have e2 := ho2.cellAt (k * 3 + 2) (by omega)); (rw [List.getElem?_eq_getElem (by omega)] at e0 e1 e2); (have f0 := ho2.frozenAt (k * 3)); (have f1 := ho2.frozenAt (k * 3 + 1)); (have f2 := ho2.frozenAt (k * 3 + 2)))
      go_roundw
      case rel => exact ⟨k + 1, _, by omega, by go_num, owns_putPc ho2 k _ _ _, HT.out, below_putPc (hbel.trans (hb2.mono hbel.size)) (Nat.le_refl _) k _ _ _⟩
      case measure => simp [intOf]; omega
    · obtain rfl : k = xs.length := by omega
      have hcs := hT.all hown.1
      subst hcs
      go_wp2
      go_ret
      exact ⟨⟨w.heap.size, rfl, hown⟩, hbel⟩
end Go.Proofs.Ytmliinglojmojab.mk

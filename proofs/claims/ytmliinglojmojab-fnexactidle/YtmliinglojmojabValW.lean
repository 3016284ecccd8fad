/-
  VALID WORLDS: spec.ValidWorld, impl.ValidWorld.
-/
import Derived.Test.YtmliinglojmojabWoA
import Derived.Test.YtmliinglojmojabValE
import Derived.Test.YtmliinglojmojabTagW
namespace Go.Proofs.Ytmliinglojmojab.mk
open Go.RowKit
set_option linter.unusedVariables false

def PcOk (x : Pc) : Prop := (1 ≤ x.to ∧ x.to ≤ 2) ∧ x.sent.size ≤ 100 ∧ x.bytes.size ≤ 100
instance (x : Pc) : Decidable (PcOk x) := by unfold PcOk; infer_instance
def RcOk (x : Rc) : Prop := (1 ≤ x.frm ∧ x.frm ≤ 2) ∧ (1 ≤ x.a ∧ x.a ≤ 1000) ∧ (1 ≤ x.b ∧ x.b ≤ 1000) ∧ x.text.size ≤ 200
instance (x : Rc) : Decidable (RcOk x) := by unfold RcOk; infer_instance
open Classical in
noncomputable def pcsOk (xs : List Pc) : Bool := decide (∀ i (h : i < xs.length), PcOk xs[i])
theorem pcsOk_yes {xs : List Pc} (h : ∀ i (h : i < xs.length), PcOk xs[i]) : pcsOk xs = true := by simpa [pcsOk] using h
theorem pcsOk_of {xs : List Pc} (h : pcsOk xs = true) : ∀ i (h : i < xs.length), PcOk xs[i] := by simpa [pcsOk] using h
theorem pcsOk_no {xs : List Pc} {i : Nat} (hi : i < xs.length) (h : ¬ PcOk xs[i]) : pcsOk xs = false := by
  cases e : pcsOk xs
  · rfl
  · exact absurd (pcsOk_of e i hi) h
open Classical in
noncomputable def rcsOk (xs : List Rc) : Bool := decide (∀ i (h : i < xs.length), RcOk xs[i])
theorem rcsOk_yes {xs : List Rc} (h : ∀ i (h : i < xs.length), RcOk xs[i]) : rcsOk xs = true := by simpa [rcsOk] using h
theorem rcsOk_of {xs : List Rc} (h : rcsOk xs = true) : ∀ i (h : i < xs.length), RcOk xs[i] := by simpa [rcsOk] using h
theorem rcsOk_no {xs : List Rc} {i : Nat} (hi : i < xs.length) (h : ¬ RcOk xs[i]) : rcsOk xs = false := by
  cases e : rcsOk xs
  · rfl
  · exact absurd (rcsOk_of e i hi) h
noncomputable def enOkE (e : En) : Bool := enOk e.num e.up e.life e.peer e.since e.owes e.b e.xs e.nx e.hs e.o e.rs
noncomputable def endsOk (es : List Ev) : Bool := match es with
  | [x, y] => enOkE x.e && enOkE y.e && decide (x.e.num = 1) && decide (y.e.num = 2)
  | _ => false
noncomputable def woOk (key : ByteArray) (width : Int) (es : List Ev) (fl : List Pc) (gv tk : List Rc) : Bool :=
  tag.sealOk key.size width && decide (fl.length ≤ 1000) && decide (gv.length + tk.length ≤ 400) && endsOk es && pcsOk fl && rcsOk gv && rcsOk tk
theorem list2 {α : Type} {cs : List α} (h : cs.length = 2) : ∃ c0 c1, cs = [c0, c1] := by
  match cs, h with
  | [c0, c1], _ => exact ⟨c0, c1, rfl⟩
theorem endsOk_len {es : List Ev} (h : ¬ es.length = 2) : endsOk es = false := by
  unfold endsOk
  split
  · simp at h
  · rfl
theorem isEnd_yes (n : Int) (w : World) (h : 1 ≤ n ∧ n ≤ 2) : Calls Try.prog 60 #[.int .i64 n] w fun e w' => e = .returned (.bool true) ∧ w = w' := by
  have := isEnd_any n w
  rw [decide_eq_true h] at this
  exact this
theorem isEnd_no (n : Int) (w : World) (h : ¬ (1 ≤ n ∧ n ≤ 2)) : Calls Try.prog 60 #[.int .i64 n] w fun e w' => e = .returned (.bool false) ∧ w = w' := by
  have := isEnd_any n w
  rw [decide_eq_false h] at this
  exact this
theorem parcelValid_any (to : Int) (sent bytes : ByteArray) (w : World) (hs : sent.size ≤ 1048576) (ht : bytes.size ≤ 1048576) :
    Calls Try.prog 47 #[.agg #[.int .i64 to, .string sent, .string bytes]] w fun e w' => e = .returned (.bool (decide (PcOk ⟨to, sent, bytes⟩))) ∧ Below w.heap.size w w' := by
  have HB0 : Hid (∀ o' : Obj, Below w.heap.size w (w.alloc o')) := fun o' => (Below.refl _ _).alloc (Nat.le_refl _) _
  by_cases h1 : 1 ≤ to ∧ to ≤ 2
  · skip
    by_cases h2 : sent.size ≤ 100
    · skip
      by_cases h3 : bytes.size ≤ 100
      · skip
        have HT : Hid (decide (PcOk ⟨to, sent, bytes⟩) = true) := (decide_eq_true (by unfold PcOk; dsimp only; omega) : decide (PcOk ⟨to, sent, bytes⟩) = true)
        go_enter Try.func47, Try.ntmps47
        go_wp2_with (first | (go_at_call 60; first | (refine (isEnd_yes _ _ (by omega)).mono ?_; rintro e w' ⟨rfl, rfl⟩) | (refine (isEnd_no _ _ (by omega)).mono ?_; rintro e w' ⟨rfl, rfl⟩)) | fail)
        go_ret
        exact ⟨ret_b (by rw [HT.out] <;> simp <;> omega), HB0.out _⟩
      · skip
        have HT : Hid (decide (PcOk ⟨to, sent, bytes⟩) = false) := (decide_eq_false (by unfold PcOk; dsimp only; omega) : decide (PcOk ⟨to, sent, bytes⟩) = false)
        go_enter Try.func47, Try.ntmps47
        go_wp2_with (first | (go_at_call 60; first | (refine (isEnd_yes _ _ (by omega)).mono ?_; rintro e w' ⟨rfl, rfl⟩) | (refine (isEnd_no _ _ (by omega)).mono ?_; rintro e w' ⟨rfl, rfl⟩)) | fail)
        go_ret
        exact ⟨ret_b (by rw [HT.out] <;> simp <;> omega), HB0.out _⟩
    · skip
      have HT : Hid (decide (PcOk ⟨to, sent, bytes⟩) = false) := (decide_eq_false (by unfold PcOk; dsimp only; omega) : decide (PcOk ⟨to, sent, bytes⟩) = false)
      go_enter Try.func47, Try.ntmps47
      go_wp2_with (first | (go_at_call 60; first | (refine (isEnd_yes _ _ (by omega)).mono ?_; rintro e w' ⟨rfl, rfl⟩) | (refine (isEnd_no _ _ (by omega)).mono ?_; rintro e w' ⟨rfl, rfl⟩)) | fail)
      go_ret
      exact ⟨ret_b (by rw [HT.out] <;> simp <;> omega), HB0.out _⟩
  · skip
    have HT : Hid (decide (PcOk ⟨to, sent, bytes⟩) = false) := (decide_eq_false (by unfold PcOk; dsimp only; omega) : decide (PcOk ⟨to, sent, bytes⟩) = false)
    go_enter Try.func47, Try.ntmps47
    go_wp2_with (first | (go_at_call 60; first | (refine (isEnd_yes _ _ (by omega)).mono ?_; rintro e w' ⟨rfl, rfl⟩) | (refine (isEnd_no _ _ (by omega)).mono ?_; rintro e w' ⟨rfl, rfl⟩)) | fail)
    go_ret
    exact ⟨ret_b (by rw [HT.out] <;> simp <;> omega), HB0.out _⟩
theorem recordValid_any (frm a b : Int) (text : ByteArray) (w : World) (hs : text.size ≤ 1048576) :
    Calls Try.prog 49 #[.agg #[.int .i64 frm, .int .i64 a, .int .i64 b, .string text]] w fun e w' => e = .returned (.bool (decide (RcOk ⟨frm, a, b, text⟩))) ∧ Below w.heap.size w w' := by
  have HB0 : Hid (∀ o' : Obj, Below w.heap.size w (w.alloc o')) := fun o' => (Below.refl _ _).alloc (Nat.le_refl _) _
  by_cases h1 : 1 ≤ frm ∧ frm ≤ 2
  · skip
    by_cases h2 : 1 ≤ a ∧ a ≤ 1000
    · skip
      by_cases h3 : 1 ≤ b ∧ b ≤ 1000
      · skip
        by_cases h4 : text.size ≤ 200
        · skip
          have HT : Hid (decide (RcOk ⟨frm, a, b, text⟩) = true) := (decide_eq_true (by unfold RcOk; dsimp only; omega) : decide (RcOk ⟨frm, a, b, text⟩) = true)
          go_enter Try.func49, Try.ntmps49
          go_wp2_with (first | (go_at_call 60; first | (refine (isEnd_yes _ _ (by omega)).mono ?_; rintro e w' ⟨rfl, rfl⟩) | (refine (isEnd_no _ _ (by omega)).mono ?_; rintro e w' ⟨rfl, rfl⟩)) | (go_at_call 61; first | (refine (within_true _ _ _ _ (by omega) (by omega)).mono ?_; rintro e w' ⟨rfl, rfl⟩) | (refine (within_false _ _ _ _ (by omega)).mono ?_; rintro e w' ⟨rfl, rfl⟩)) | fail)
          go_ret
          exact ⟨ret_b (by rw [HT.out] <;> simp <;> omega), HB0.out _⟩
        · skip
          have HT : Hid (decide (RcOk ⟨frm, a, b, text⟩) = false) := (decide_eq_false (by unfold RcOk; dsimp only; omega) : decide (RcOk ⟨frm, a, b, text⟩) = false)
          go_enter Try.func49, Try.ntmps49
          go_wp2_with (first | (go_at_call 60; first | (refine (isEnd_yes _ _ (by omega)).mono ?_; rintro e w' ⟨rfl, rfl⟩) | (refine (isEnd_no _ _ (by omega)).mono ?_; rintro e w' ⟨rfl, rfl⟩)) | (go_at_call 61; first | (refine (within_true _ _ _ _ (by omega) (by omega)).mono ?_; rintro e w' ⟨rfl, rfl⟩) | (refine (within_false _ _ _ _ (by omega)).mono ?_; rintro e w' ⟨rfl, rfl⟩)) | fail)
          go_ret
          exact ⟨ret_b (by rw [HT.out] <;> simp <;> omega), HB0.out _⟩
      · skip
        have HT : Hid (decide (RcOk ⟨frm, a, b, text⟩) = false) := (decide_eq_false (by unfold RcOk; dsimp only; omega) : decide (RcOk ⟨frm, a, b, text⟩) = false)
        go_enter Try.func49, Try.ntmps49
        go_wp2_with (first | (go_at_call 60; first | (refine (isEnd_yes _ _ (by omega)).mono ?_; rintro e w' ⟨rfl, rfl⟩) | (refine (isEnd_no _ _ (by omega)).mono ?_; rintro e w' ⟨rfl, rfl⟩)) | (go_at_call 61; first | (refine (within_true _ _ _ _ (by omega) (by omega)).mono ?_; rintro e w' ⟨rfl, rfl⟩) | (refine (within_false _ _ _ _ (by omega)).mono ?_; rintro e w' ⟨rfl, rfl⟩)) | fail)
        go_ret
        exact ⟨ret_b (by rw [HT.out] <;> simp <;> omega), HB0.out _⟩
    · skip
      have HT : Hid (decide (RcOk ⟨frm, a, b, text⟩) = false) := (decide_eq_false (by unfold RcOk; dsimp only; omega) : decide (RcOk ⟨frm, a, b, text⟩) = false)
      go_enter Try.func49, Try.ntmps49
      go_wp2_with (first | (go_at_call 60; first | (refine (isEnd_yes _ _ (by omega)).mono ?_; rintro e w' ⟨rfl, rfl⟩) | (refine (isEnd_no _ _ (by omega)).mono ?_; rintro e w' ⟨rfl, rfl⟩)) | (go_at_call 61; first | (refine (within_true _ _ _ _ (by omega) (by omega)).mono ?_; rintro e w' ⟨rfl, rfl⟩) | (refine (within_false _ _ _ _ (by omega)).mono ?_; rintro e w' ⟨rfl, rfl⟩)) | fail)
      go_ret
      exact ⟨ret_b (by rw [HT.out] <;> simp <;> omega), HB0.out _⟩
  · skip
    have HT : Hid (decide (RcOk ⟨frm, a, b, text⟩) = false) := (decide_eq_false (by unfold RcOk; dsimp only; omega) : decide (RcOk ⟨frm, a, b, text⟩) = false)
    go_enter Try.func49, Try.ntmps49
    go_wp2_with (first | (go_at_call 60; first | (refine (isEnd_yes _ _ (by omega)).mono ?_; rintro e w' ⟨rfl, rfl⟩) | (refine (isEnd_no _ _ (by omega)).mono ?_; rintro e w' ⟨rfl, rfl⟩)) | (go_at_call 61; first | (refine (within_true _ _ _ _ (by omega) (by omega)).mono ?_; rintro e w' ⟨rfl, rfl⟩) | (refine (within_false _ _ _ _ (by omega)).mono ?_; rintro e w' ⟨rfl, rfl⟩)) | fail)
    go_ret
    exact ⟨ret_b (by rw [HT.out] <;> simp <;> omega), HB0.out _⟩
set_option maxHeartbeats 1000000 in
theorem allOfParcel_any (ao : Option Addr) (cap : Nat) (xs : List Pc) (w : World) (hm : xs.length ≤ 1048576) (hz : ∀ i (h : i < xs.length), xs[i].fits 1048576) (hr : Rs w ao xs.length (pcs xs)) :
    Calls Try.prog 46 #[.slice ao xs.length cap, .func (.func 47) #[] #[]] w fun e w' => e = .returned (.bool (pcsOk xs)) ∧ Below w.heap.size w w' := by
  have HR : Hid (Rs w ao xs.length (pcs xs)) := hr
  have HZ : Hid (∀ i (h : i < xs.length), xs[i].fits 1048576) := hz
  clear hr hz
  go_enter Try.func46, Try.ntmps46
  go_wp2
  go_loopw [9] (fun i wr => ∃ k : Nat, k ≤ xs.length ∧ i = .int .i64 k ∧ (∀ j (h : j < xs.length), j < k → PcOk xs[j]) ∧ Below w.heap.size w wr) (fun i _ => xs.length - (intOf i).toNat)
  case atStart => exact ⟨0, Nat.zero_le _, rfl, fun j _ h => absurd h (by omega), Below.refl _ _⟩
  case round =>
    obtain ⟨k, hk, rfl, hall, hbel⟩ := hrel
    have HL : Hid (∀ j (h : j < xs.length), j < k → PcOk xs[j]) := hall
    clear hall
    by_cases hlt : k < xs.length
    · rcases HR.out.ex with h | ⟨g, rfl, hg, hgc⟩
      · omega
      obtain ⟨a0, a1, a2⟩ := Rs.pcs (n := 0) hg hgc hbel k hlt
      have HSZ : Hid (Pc.fits 1048576 ⟨xs[k].to, xs[k].sent, xs[k].bytes⟩) := HZ.out k hlt
      clear hgc
      have HI : Hid (PcOk xs[k] ↔ PcOk ⟨xs[k].to, xs[k].sent, xs[k].bytes⟩) := Iff.rfl
      generalize xs[k].to = vto at *
      generalize xs[k].sent = vsent at *
      generalize xs[k].bytes = vbytes at *
      by_cases hok : PcOk ⟨vto, vsent, vbytes⟩
      · have HN : Hid (∀ j (h : j < xs.length), j < k + 1 → PcOk xs[j]) := fun j h hj => by
          rcases Nat.lt_or_ge j k with h1 | h1
          · exact HL.out j h h1
          · obtain rfl : j = k := by omega
            exact HI.out.2 hok
        have hd : decide (PcOk ⟨vto, vsent, vbytes⟩) = true := decide_eq_true hok
        have HC : Hid (∀ u : World, Calls Try.prog 47 #[.agg #[.int .i64 vto, .string vsent, .string vbytes]] u fun e u' => e = .returned (.bool true) ∧ Below u.heap.size u u') := fun u => by have := parcelValid_any vto vsent vbytes u (by have := HSZ.out; unfold Pc.fits at this; dsimp only at this; omega) (by have := HSZ.out; unfold Pc.fits at this; dsimp only at this; omega); rw [hd] at this; exact this
        clear hok hd
        go_wp2_with (go_at_call 47; refine (HC.out _).mono ?_; rintro e w1 ⟨rfl, hb1⟩)
        refine ⟨⟨k + 1, by omega, by go_num, HN.out, kb (hbel.alloc hbel.size _) hb1 (Nat.le_refl _)⟩, by simp [intOf]; omega⟩
      · have HF : Hid (pcsOk xs = false) := pcsOk_no hlt (fun h => hok (HI.out.1 h))
        have hd : decide (PcOk ⟨vto, vsent, vbytes⟩) = false := decide_eq_false hok
        have HC : Hid (∀ u : World, Calls Try.prog 47 #[.agg #[.int .i64 vto, .string vsent, .string vbytes]] u fun e u' => e = .returned (.bool false) ∧ Below u.heap.size u u') := fun u => by have := parcelValid_any vto vsent vbytes u (by have := HSZ.out; unfold Pc.fits at this; dsimp only at this; omega) (by have := HSZ.out; unfold Pc.fits at this; dsimp only at this; omega); rw [hd] at this; exact this
        clear hok hd
        go_wp2_with (go_at_call 47; refine (HC.out _).mono ?_; rintro e w1 ⟨rfl, hb1⟩)
        go_ret
        exact ⟨ret_b (by rw [HF.out]), kb (hbel.alloc hbel.size _) hb1 (Nat.le_refl _)⟩
    · obtain rfl : k = xs.length := by omega
      go_wp2
      go_ret
      exact ⟨ret_b (by rw [pcsOk_yes (fun i h => HL.out i h h)]), hbel⟩
set_option maxHeartbeats 1000000 in
theorem allOfRecord_any (ao : Option Addr) (cap : Nat) (xs : List Rc) (w : World) (hm : xs.length ≤ 1048576) (hz : ∀ i (h : i < xs.length), xs[i].fits 1048576) (hr : Rs w ao xs.length (rcs xs)) :
    Calls Try.prog 48 #[.slice ao xs.length cap, .func (.func 49) #[] #[]] w fun e w' => e = .returned (.bool (rcsOk xs)) ∧ Below w.heap.size w w' := by
  have HR : Hid (Rs w ao xs.length (rcs xs)) := hr
  have HZ : Hid (∀ i (h : i < xs.length), xs[i].fits 1048576) := hz
  clear hr hz
  go_enter Try.func48, Try.ntmps48
  go_wp2
  go_loopw [9] (fun i wr => ∃ k : Nat, k ≤ xs.length ∧ i = .int .i64 k ∧ (∀ j (h : j < xs.length), j < k → RcOk xs[j]) ∧ Below w.heap.size w wr) (fun i _ => xs.length - (intOf i).toNat)
  case atStart => exact ⟨0, Nat.zero_le _, rfl, fun j _ h => absurd h (by omega), Below.refl _ _⟩
  case round =>
    obtain ⟨k, hk, rfl, hall, hbel⟩ := hrel
    have HL : Hid (∀ j (h : j < xs.length), j < k → RcOk xs[j]) := hall
    clear hall
    by_cases hlt : k < xs.length
    · rcases HR.out.ex with h | ⟨g, rfl, hg, hgc⟩
      · omega
      obtain ⟨a0, a1, a2, a3⟩ := Rs.rcs (n := 0) hg hgc hbel k hlt
      have HSZ : Hid (Rc.fits 1048576 ⟨xs[k].frm, xs[k].a, xs[k].b, xs[k].text⟩) := HZ.out k hlt
      clear hgc
      have HI : Hid (RcOk xs[k] ↔ RcOk ⟨xs[k].frm, xs[k].a, xs[k].b, xs[k].text⟩) := Iff.rfl
      generalize xs[k].frm = vfrm at *
      generalize xs[k].a = va at *
      generalize xs[k].b = vb at *
      generalize xs[k].text = vtext at *
      by_cases hok : RcOk ⟨vfrm, va, vb, vtext⟩
      · have HN : Hid (∀ j (h : j < xs.length), j < k + 1 → RcOk xs[j]) := fun j h hj => by
          rcases Nat.lt_or_ge j k with h1 | h1
          · exact HL.out j h h1
          · obtain rfl : j = k := by omega
            exact HI.out.2 hok
        have hd : decide (RcOk ⟨vfrm, va, vb, vtext⟩) = true := decide_eq_true hok
        have HC : Hid (∀ u : World, Calls Try.prog 49 #[.agg #[.int .i64 vfrm, .int .i64 va, .int .i64 vb, .string vtext]] u fun e u' => e = .returned (.bool true) ∧ Below u.heap.size u u') := fun u => by have := recordValid_any vfrm va vb vtext u (by have := HSZ.out; unfold Rc.fits at this; dsimp only at this; omega); rw [hd] at this; exact this
        clear hok hd
        go_wp2_with (go_at_call 49; refine (HC.out _).mono ?_; rintro e w1 ⟨rfl, hb1⟩)
        refine ⟨⟨k + 1, by omega, by go_num, HN.out, kb (hbel.alloc hbel.size _) hb1 (Nat.le_refl _)⟩, by simp [intOf]; omega⟩
      · have HF : Hid (rcsOk xs = false) := rcsOk_no hlt (fun h => hok (HI.out.1 h))
        have hd : decide (RcOk ⟨vfrm, va, vb, vtext⟩) = false := decide_eq_false hok
        have HC : Hid (∀ u : World, Calls Try.prog 49 #[.agg #[.int .i64 vfrm, .int .i64 va, .int .i64 vb, .string vtext]] u fun e u' => e = .returned (.bool false) ∧ Below u.heap.size u u') := fun u => by have := recordValid_any vfrm va vb vtext u (by have := HSZ.out; unfold Rc.fits at this; dsimp only at this; omega); rw [hd] at this; exact this
        clear hok hd
        go_wp2_with (go_at_call 49; refine (HC.out _).mono ?_; rintro e w1 ⟨rfl, hb1⟩)
        go_ret
        exact ⟨ret_b (by rw [HF.out]), kb (hbel.alloc hbel.size _) hb1 (Nat.le_refl _)⟩
    · obtain rfl : k = xs.length := by omega
      go_wp2
      go_ret
      exact ⟨ret_b (by rw [rcsOk_yes (fun i h => HL.out i h h)]), hbel⟩
set_option maxHeartbeats 1000000 in
theorem recordsOk_any (ao : Option Addr) (cap : Nat) (xs : List Rc) (w : World) (hm : xs.length ≤ 1048576) (hz : ∀ i (h : i < xs.length), xs[i].fits 1048576) (hr : Rs w ao xs.length (rcs xs)) :
    Calls Try.prog 26 #[.slice ao xs.length cap] w fun e w' => e = .returned (.bool (rcsOk xs)) ∧ Below w.heap.size w w' := by
  have HR : Hid (Rs w ao xs.length (rcs xs)) := hr
  have HZ : Hid (∀ i (h : i < xs.length), xs[i].fits 1048576) := hz
  clear hr hz
  go_enter Try.func26, Try.ntmps26
  go_wp2
  go_loopw [3] (fun i wr => ∃ k : Nat, k ≤ xs.length ∧ i = .int .i64 k ∧ (∀ j (h : j < xs.length), j < k → RcOk xs[j]) ∧ Below w.heap.size w wr) (fun i _ => xs.length - (intOf i).toNat)
  case atStart => exact ⟨0, Nat.zero_le _, rfl, fun j _ h => absurd h (by omega), Below.refl _ _⟩
  case round =>
    obtain ⟨k, hk, rfl, hall, hbel⟩ := hrel
    have HL : Hid (∀ j (h : j < xs.length), j < k → RcOk xs[j]) := hall
    clear hall
    by_cases hlt : k < xs.length
    · rcases HR.out.ex with h | ⟨g, rfl, hg, hgc⟩
      · omega
      obtain ⟨a0, a1, a2, a3⟩ := Rs.rcs (n := 0) hg hgc hbel k hlt
      have hsz : xs[k].text.size ≤ 1048576 := HZ.out k hlt
      clear hgc
      have HI : Hid (RcOk xs[k] ↔ RcOk ⟨xs[k].frm, xs[k].a, xs[k].b, xs[k].text⟩) := Iff.rfl
      generalize xs[k].frm = vf at *
      generalize xs[k].a = va at *
      generalize xs[k].b = vb at *
      generalize xs[k].text = vt at *
      have B1 : Hid (∀ o : Obj, Below w.heap.size w (wr.alloc o)) := fun o => hbel.alloc hbel.size _
      by_cases hok : RcOk ⟨vf, va, vb, vt⟩
      · have HN : Hid (∀ j (h : j < xs.length), j < k + 1 → RcOk xs[j]) := fun j h hj => by
          rcases Nat.lt_or_ge j k with h1 | h1
          · exact HL.out j h h1
          · obtain rfl : j = k := by omega
            exact HI.out.2 hok
        obtain ⟨⟨q1, q2⟩, ⟨q3, q4⟩, ⟨q5, q6⟩, q7⟩ := hok
        dsimp only at q1 q2 q3 q4 q5 q6 q7
        go_wp2_with (first | (go_at_call 24; first | (refine (l1In_true _ _ _ _ (by omega) (by omega)).mono ?_; rintro e w' ⟨rfl, rfl⟩) | (refine (l1In_false _ _ _ _ (by omega)).mono ?_; rintro e w' ⟨rfl, rfl⟩)) | fail)
        refine ⟨⟨k + 1, by omega, by go_num, HN.out, B1.out _⟩, by simp [intOf]; omega⟩
      · have HF : Hid (rcsOk xs = false) := rcsOk_no hlt (fun h => hok (HI.out.1 h))
        have hcase : ¬ (1 ≤ vf ∧ vf ≤ 2) ∨ ((1 ≤ vf ∧ vf ≤ 2) ∧ ¬ (1 ≤ va ∧ va ≤ 1000)) ∨ ((1 ≤ vf ∧ vf ≤ 2) ∧ (1 ≤ va ∧ va ≤ 1000) ∧ ¬ (1 ≤ vb ∧ vb ≤ 1000)) ∨ ((1 ≤ vf ∧ vf ≤ 2) ∧ (1 ≤ va ∧ va ≤ 1000) ∧ (1 ≤ vb ∧ vb ≤ 1000) ∧ 200 < vt.size) := by
          unfold RcOk at hok
          dsimp only at hok
          omega
        clear hok HI HL
        rcases hcase with e | ⟨e0, e⟩ | ⟨e0, e1, e⟩ | ⟨e0, e1, e2, e⟩
        all_goals go_wp2_with (first | (go_at_call 24; first | (refine (l1In_true _ _ _ _ (by omega) (by omega)).mono ?_; rintro e w' ⟨rfl, rfl⟩) | (refine (l1In_false _ _ _ _ (by omega)).mono ?_; rintro e w' ⟨rfl, rfl⟩)) | fail)
        all_goals go_ret
        all_goals exact ⟨ret_b (by rw [HF.out]), B1.out _⟩
    · obtain rfl : k = xs.length := by omega
      go_wp2
      go_ret
      exact ⟨ret_b (by rw [rcsOk_yes (fun i h => HL.out i h h)]), hbel⟩
end Go.Proofs.Ytmliinglojmojab.mk

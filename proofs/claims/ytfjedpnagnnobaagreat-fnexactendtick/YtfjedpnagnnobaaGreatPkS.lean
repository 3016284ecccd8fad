/-
  PACKETS: rows of them: compared, marked, held.
-/
import Derived.Test.YtfjedpnagnnobaaGreatMarks
import Derived.Test.YtfjedpnagnnobaaGreatBase
namespace Go.Proofs.YtfjedpnagnnobaaGreat.mk
open Go.RowKit
set_option linter.unusedVariables false

structure Pk where
  kind : Int
  frm : Int
  mine : Int
  yours : Int
  next : Int
  mask : Int
  seq : Int
  last : Bool
  part : ByteArray
def Pk.vals (x : Pk) : List Value := [.int .i64 x.kind, .int .i64 x.frm, .int .i64 x.mine, .int .i64 x.yours, .int .i64 x.next, .int .i64 x.mask, .int .i64 x.seq, .bool x.last, .string x.part]
def pks (xs : List Pk) : List Value := xs.flatMap Pk.vals
theorem pks_length (xs : List Pk) : (pks xs).length = xs.length * 9 := by
  induction xs with
  | nil => rfl
  | cons x xs ih => simp only [pks, Pk.vals, List.flatMap_cons, List.length_append, List.length_cons, List.length_nil] at ih ⊢; omega
theorem pks_append (xs ys : List Pk) : pks (xs ++ ys) = pks xs ++ pks ys := by simp [pks]
theorem pks_at (xs : List Pk) (i : Nat) (h : i < xs.length) : (pks xs)[i * 9]? = some (.int .i64 xs[i].kind) ∧ (pks xs)[i * 9 + 1]? = some (.int .i64 xs[i].frm) ∧ (pks xs)[i * 9 + 2]? = some (.int .i64 xs[i].mine) ∧ (pks xs)[i * 9 + 3]? = some (.int .i64 xs[i].yours) ∧ (pks xs)[i * 9 + 4]? = some (.int .i64 xs[i].next) ∧ (pks xs)[i * 9 + 5]? = some (.int .i64 xs[i].mask) ∧ (pks xs)[i * 9 + 6]? = some (.int .i64 xs[i].seq) ∧ (pks xs)[i * 9 + 7]? = some (.bool xs[i].last) ∧ (pks xs)[i * 9 + 8]? = some (.string xs[i].part) := by
  induction xs generalizing i with
  | nil => simp at h
  | cons x xs ih =>
    cases i with
    | zero => simp [pks, Pk.vals]
    | succ i =>
      have := ih i (by simpa using h)
      have e : (i + 1) * 9 = i * 9 + 9 := by omega
      rw [e]
      simpa [pks, Pk.vals] using this
theorem Rs.pks {w wr : World} {g n : Nat} {xs : List Pk} (hg : g < w.heap.size) (h : ∀ j, j < (pks xs).length → w.cell? ⟨g, j, none⟩ = (pks xs)[j]?) (hb : Below w.heap.size w wr) (i : Nat) (hi : i < xs.length) :
    wr.cell? ⟨g, i * 9, none⟩ = some (.int .i64 xs[i].kind) ∧ wr.cell? ⟨g, i * 9 + 1, none⟩ = some (.int .i64 xs[i].frm) ∧ wr.cell? ⟨g, i * 9 + 2, none⟩ = some (.int .i64 xs[i].mine) ∧ wr.cell? ⟨g, i * 9 + 3, none⟩ = some (.int .i64 xs[i].yours) ∧ wr.cell? ⟨g, i * 9 + 4, none⟩ = some (.int .i64 xs[i].next) ∧ wr.cell? ⟨g, i * 9 + 5, none⟩ = some (.int .i64 xs[i].mask) ∧ wr.cell? ⟨g, i * 9 + 6, none⟩ = some (.int .i64 xs[i].seq) ∧ wr.cell? ⟨g, i * 9 + 7, none⟩ = some (.bool xs[i].last) ∧ wr.cell? ⟨g, i * 9 + 8, none⟩ = some (.string xs[i].part) := by
  have hx := pks_at xs i hi
  have hl := pks_length xs
  exact ⟨(hb.cell (p := ⟨g, i * 9, none⟩) hg).trans ((h _ (by omega)).trans hx.1), (hb.cell (p := ⟨g, i * 9 + 1, none⟩) hg).trans ((h _ (by omega)).trans hx.2.1), (hb.cell (p := ⟨g, i * 9 + 2, none⟩) hg).trans ((h _ (by omega)).trans hx.2.2.1), (hb.cell (p := ⟨g, i * 9 + 3, none⟩) hg).trans ((h _ (by omega)).trans hx.2.2.2.1), (hb.cell (p := ⟨g, i * 9 + 4, none⟩) hg).trans ((h _ (by omega)).trans hx.2.2.2.2.1), (hb.cell (p := ⟨g, i * 9 + 5, none⟩) hg).trans ((h _ (by omega)).trans hx.2.2.2.2.2.1), (hb.cell (p := ⟨g, i * 9 + 6, none⟩) hg).trans ((h _ (by omega)).trans hx.2.2.2.2.2.2.1), (hb.cell (p := ⟨g, i * 9 + 7, none⟩) hg).trans ((h _ (by omega)).trans hx.2.2.2.2.2.2.2.1), (hb.cell (p := ⟨g, i * 9 + 8, none⟩) hg).trans ((h _ (by omega)).trans hx.2.2.2.2.2.2.2.2)⟩
theorem eqPacket_same (vkind : Int) (vfrm : Int) (vmine : Int) (vyours : Int) (vnext : Int) (vmask : Int) (vseq : Int) (vlast : Bool) (vpart : ByteArray) (w : World) :
    Calls Tryz.prog 68 #[.agg #[.int .i64 vkind, .int .i64 vfrm, .int .i64 vmine, .int .i64 vyours, .int .i64 vnext, .int .i64 vmask, .int .i64 vseq, .bool vlast, .string vpart], .agg #[.int .i64 vkind, .int .i64 vfrm, .int .i64 vmine, .int .i64 vyours, .int .i64 vnext, .int .i64 vmask, .int .i64 vseq, .bool vlast, .string vpart]] w fun e w' => e = .returned (.bool true) ∧ Below w.heap.size w w' := by
  go_enter Tryz.func68, Tryz.ntmps68
  go_wp2
  go_ret
  exact ⟨rfl, ((Below.refl _ _).alloc (Nat.le_refl _) _).alloc (by simp) _⟩
set_option maxRecDepth 100000 in
set_option maxHeartbeats 2000000 in
theorem eqPacketS_same (ao bo : Option Addr) (ca cb : Nat) (xs : List Pk) (w : World) (hl : xs.length ≤ 1000000000) (ha : Rs w ao xs.length (pks xs)) (hb : Rs w bo xs.length (pks xs)) :
    Calls Tryz.prog 30 #[.slice ao xs.length ca, .slice bo xs.length cb] w fun e w' => e = .returned (.bool true) ∧ Below w.heap.size w w' := by
  have HA : Hid (Rs w ao xs.length (pks xs)) := ha
  have HB : Hid (Rs w bo xs.length (pks xs)) := hb
  clear ha hb
  go_enter Tryz.func30, Tryz.ntmps30
  go_wp2
  go_loopw [5] (fun i wr => ∃ k : Nat, k ≤ xs.length ∧ i = .int .i64 k ∧ Below w.heap.size w wr) (fun i _ => xs.length - (intOf i).toNat)
  case atStart => exact ⟨0, Nat.zero_le _, rfl, Below.refl _ _⟩
  case round =>
    obtain ⟨k, hk, rfl, hbel⟩ := hrel
    by_cases hlt : k < xs.length
    · rcases HA.out.ex with h | ⟨g, rfl, hg, hgc⟩
      · omega
      rcases HB.out.ex with h | ⟨g', rfl, hg', hgc'⟩
      · omega
      obtain ⟨a0, a1, a2, a3, a4, a5, a6, a7, a8⟩ := Rs.pks (n := 0) hg hgc hbel k hlt
      obtain ⟨b0, b1, b2, b3, b4, b5, b6, b7, b8⟩ := Rs.pks (n := 0) hg' hgc' hbel k hlt
      have hgr : g < wr.heap.size := Nat.lt_of_lt_of_le hg hbel.size
      have hgr' : g' < wr.heap.size := Nat.lt_of_lt_of_le hg' hbel.size
      clear hgc hgc'
      generalize xs[k].kind = vkind at *
      generalize xs[k].frm = vfrm at *
      generalize xs[k].mine = vmine at *
      generalize xs[k].yours = vyours at *
      generalize xs[k].next = vnext at *
      generalize xs[k].mask = vmask at *
      generalize xs[k].seq = vseq at *
      generalize xs[k].last = vlast at *
      generalize xs[k].part = vpart at *
      go_wp2
      go_region_held3 (fun w' => w'.cell? ⟨g, k * 9, none⟩ = some (.int .i64 vkind) ∧ w'.cell? ⟨g, k * 9 + 1, none⟩ = some (.int .i64 vfrm) ∧ w'.cell? ⟨g, k * 9 + 2, none⟩ = some (.int .i64 vmine) ∧ w'.cell? ⟨g, k * 9 + 3, none⟩ = some (.int .i64 vyours) ∧ w'.cell? ⟨g, k * 9 + 4, none⟩ = some (.int .i64 vnext) ∧ w'.cell? ⟨g, k * 9 + 5, none⟩ = some (.int .i64 vmask) ∧ w'.cell? ⟨g, k * 9 + 6, none⟩ = some (.int .i64 vseq) ∧ w'.cell? ⟨g, k * 9 + 7, none⟩ = some (.bool vlast) ∧ w'.cell? ⟨g, k * 9 + 8, none⟩ = some (.string vpart) ∧ w'.cell? ⟨g', k * 9, none⟩ = some (.int .i64 vkind) ∧ w'.cell? ⟨g', k * 9 + 1, none⟩ = some (.int .i64 vfrm) ∧ w'.cell? ⟨g', k * 9 + 2, none⟩ = some (.int .i64 vmine) ∧ w'.cell? ⟨g', k * 9 + 3, none⟩ = some (.int .i64 vyours) ∧ w'.cell? ⟨g', k * 9 + 4, none⟩ = some (.int .i64 vnext) ∧ w'.cell? ⟨g', k * 9 + 5, none⟩ = some (.int .i64 vmask) ∧ w'.cell? ⟨g', k * 9 + 6, none⟩ = some (.int .i64 vseq) ∧ w'.cell? ⟨g', k * 9 + 7, none⟩ = some (.bool vlast) ∧ w'.cell? ⟨g', k * 9 + 8, none⟩ = some (.string vpart) ∧ Below wr.heap.size wr w')
        (first | assumption | exact ⟨a0, a1, a2, a3, a4, a5, a6, a7, a8, b0, b1, b2, b3, b4, b5, b6, b7, b8, (Below.refl _ _).drew⟩ | (go_split_ands; refine ⟨kp (by assumption) (by assumption) hb2 hgr, kp (by assumption) (by assumption) hb2 hgr, kp (by assumption) (by assumption) hb2 hgr, kp (by assumption) (by assumption) hb2 hgr, kp (by assumption) (by assumption) hb2 hgr, kp (by assumption) (by assumption) hb2 hgr, kp (by assumption) (by assumption) hb2 hgr, kp (by assumption) (by assumption) hb2 hgr, kp (by assumption) (by assumption) hb2 hgr, kp (by assumption) (by assumption) hb2 hgr', kp (by assumption) (by assumption) hb2 hgr', kp (by assumption) (by assumption) hb2 hgr', kp (by assumption) (by assumption) hb2 hgr', kp (by assumption) (by assumption) hb2 hgr', kp (by assumption) (by assumption) hb2 hgr', kp (by assumption) (by assumption) hb2 hgr', kp (by assumption) (by assumption) hb2 hgr', kp (by assumption) (by assumption) hb2 hgr', kb (by assumption) hb2 (Nat.le_refl _)⟩))
        (first | (go_at_call 68; refine (eqPacket_same _ _ _ _ _ _ _ _ _ _).mono ?_; rintro e w2 ⟨rfl, hb2⟩))
      have hbl : Below wr.heap.size wr w2 := by go_split_ands; assumption
      go_wp2
      go_roundw
      case rel => exact ⟨k + 1, by omega, by go_num, hbel.trans (hbl.mono hbel.size)⟩
      case measure => simp [intOf]; omega
    · obtain rfl : k = xs.length := by omega
      go_wp2
      go_ret
      exact ⟨rfl, hbel⟩
def putPk (cs : List Value) (k : Nat) (a0 a1 a2 a3 a4 a5 a6 a7 a8 : Value) : List Value := (((((((((cs.set (k * 9) a0).set (k * 9 + 1) a1).set (k * 9 + 2) a2).set (k * 9 + 3) a3).set (k * 9 + 4) a4).set (k * 9 + 5) a5).set (k * 9 + 6) a6).set (k * 9 + 7) a7).set (k * 9 + 8) a8)
theorem putPk_at {cs : List Value} {k : Nat} {a0 a1 a2 a3 a4 a5 a6 a7 a8 : Value} (hl : k * 9 + 8 < cs.length) : (putPk cs k a0 a1 a2 a3 a4 a5 a6 a7 a8)[k * 9]? = some a0 ∧ (putPk cs k a0 a1 a2 a3 a4 a5 a6 a7 a8)[k * 9 + 1]? = some a1 ∧ (putPk cs k a0 a1 a2 a3 a4 a5 a6 a7 a8)[k * 9 + 2]? = some a2 ∧ (putPk cs k a0 a1 a2 a3 a4 a5 a6 a7 a8)[k * 9 + 3]? = some a3 ∧ (putPk cs k a0 a1 a2 a3 a4 a5 a6 a7 a8)[k * 9 + 4]? = some a4 ∧ (putPk cs k a0 a1 a2 a3 a4 a5 a6 a7 a8)[k * 9 + 5]? = some a5 ∧ (putPk cs k a0 a1 a2 a3 a4 a5 a6 a7 a8)[k * 9 + 6]? = some a6 ∧ (putPk cs k a0 a1 a2 a3 a4 a5 a6 a7 a8)[k * 9 + 7]? = some a7 ∧ (putPk cs k a0 a1 a2 a3 a4 a5 a6 a7 a8)[k * 9 + 8]? = some a8 := by
  unfold putPk
  refine ⟨?_, ?_, ?_, ?_, ?_, ?_, ?_, ?_, ?_⟩
  · rw [List.getElem?_set_ne (by omega), List.getElem?_set_ne (by omega), List.getElem?_set_ne (by omega), List.getElem?_set_ne (by omega), List.getElem?_set_ne (by omega), List.getElem?_set_ne (by omega), List.getElem?_set_ne (by omega), List.getElem?_set_ne (by omega), List.getElem?_set_self (by first | omega | (simp; omega))]
  · rw [List.getElem?_set_ne (by omega), List.getElem?_set_ne (by omega), List.getElem?_set_ne (by omega), List.getElem?_set_ne (by omega), List.getElem?_set_ne (by omega), List.getElem?_set_ne (by omega), List.getElem?_set_ne (by omega), List.getElem?_set_self (by first | omega | (simp; omega))]
  · rw [List.getElem?_set_ne (by omega), List.getElem?_set_ne (by omega), List.getElem?_set_ne (by omega), List.getElem?_set_ne (by omega), List.getElem?_set_ne (by omega), List.getElem?_set_ne (by omega), List.getElem?_set_self (by first | omega | (simp; omega))]
  · rw [List.getElem?_set_ne (by omega), List.getElem?_set_ne (by omega), List.getElem?_set_ne (by omega), List.getElem?_set_ne (by omega), List.getElem?_set_ne (by omega), List.getElem?_set_self (by first | omega | (simp; omega))]
  · rw [List.getElem?_set_ne (by omega), List.getElem?_set_ne (by omega), List.getElem?_set_ne (by omega), List.getElem?_set_ne (by omega), List.getElem?_set_self (by first | omega | (simp; omega))]
  · rw [List.getElem?_set_ne (by omega), List.getElem?_set_ne (by omega), List.getElem?_set_ne (by omega), List.getElem?_set_self (by first | omega | (simp; omega))]
  · rw [List.getElem?_set_ne (by omega), List.getElem?_set_ne (by omega), List.getElem?_set_self (by first | omega | (simp; omega))]
  · rw [List.getElem?_set_ne (by omega), List.getElem?_set_self (by first | omega | (simp; omega))]
  · rw [List.getElem?_set_self (by first | omega | (simp; omega))]
theorem putPk_other {cs : List Value} {k j : Nat} {a0 a1 a2 a3 a4 a5 a6 a7 a8 : Value} (h : j < k * 9 ∨ k * 9 + 8 < j) : (putPk cs k a0 a1 a2 a3 a4 a5 a6 a7 a8)[j]? = cs[j]? := by
  unfold putPk
  rw [List.getElem?_set_ne (by omega), List.getElem?_set_ne (by omega), List.getElem?_set_ne (by omega), List.getElem?_set_ne (by omega), List.getElem?_set_ne (by omega), List.getElem?_set_ne (by omega), List.getElem?_set_ne (by omega), List.getElem?_set_ne (by omega), List.getElem?_set_ne (by omega)]
/-- the cells as the marks from k on have left them -/
def Mq (k n : Nat) (cs : List Value) : Prop := ∀ i, i < n → cs[i * 9]? = some (.int .i64 (((k + i * 9 : Nat) : Int))) ∧ cs[i * 9 + 1]? = some (.int .i64 (((k + i * 9 : Nat) : Int) + 1)) ∧ cs[i * 9 + 2]? = some (.int .i64 (((k + i * 9 : Nat) : Int) + 1 + 1)) ∧ cs[i * 9 + 3]? = some (.int .i64 (((k + i * 9 : Nat) : Int) + 1 + 1 + 1)) ∧ cs[i * 9 + 4]? = some (.int .i64 (((k + i * 9 : Nat) : Int) + 1 + 1 + 1 + 1)) ∧ cs[i * 9 + 5]? = some (.int .i64 (((k + i * 9 : Nat) : Int) + 1 + 1 + 1 + 1 + 1)) ∧ cs[i * 9 + 6]? = some (.int .i64 (((k + i * 9 : Nat) : Int) + 1 + 1 + 1 + 1 + 1 + 1)) ∧ cs[i * 9 + 7]? = some (.bool ((((k + i * 9 : Nat) : Int) + 1 + 1 + 1 + 1 + 1 + 1 + 1) % 3 == 0)) ∧ cs[i * 9 + 8]? = some (.string (mkt (k + i * 9 + 8)))
theorem Mq.step {k i : Nat} {cs : List Value} (h : Mq k i cs) (hl : i * 9 + 8 < cs.length) :
    Mq k (i + 1) (putPk cs i (.int .i64 (((k + i * 9 : Nat) : Int))) (.int .i64 (((k + i * 9 : Nat) : Int) + 1)) (.int .i64 (((k + i * 9 : Nat) : Int) + 1 + 1)) (.int .i64 (((k + i * 9 : Nat) : Int) + 1 + 1 + 1)) (.int .i64 (((k + i * 9 : Nat) : Int) + 1 + 1 + 1 + 1)) (.int .i64 (((k + i * 9 : Nat) : Int) + 1 + 1 + 1 + 1 + 1)) (.int .i64 (((k + i * 9 : Nat) : Int) + 1 + 1 + 1 + 1 + 1 + 1)) (.bool ((((k + i * 9 : Nat) : Int) + 1 + 1 + 1 + 1 + 1 + 1 + 1) % 3 == 0)) (.string (mkt (k + i * 9 + 8)))) := by
  intro j hj
  rcases Nat.lt_or_ge j i with h1 | h1
  · rw [putPk_other (by omega), putPk_other (by omega), putPk_other (by omega), putPk_other (by omega), putPk_other (by omega), putPk_other (by omega), putPk_other (by omega), putPk_other (by omega), putPk_other (by omega)]
    exact h j h1
  · obtain rfl : j = i := by omega
    exact putPk_at hl
set_option maxRecDepth 100000 in
set_option maxHeartbeats 2000000 in
theorem markPacketS_any (base : Nat) (v : Value) (n k : Nat) (xs : List Value) (w : World) (hn : n ≤ 100000000) (hk : 0 < k) (hk2 : k ≤ 1000000000) (hown : w.ownsRow base 54 9 v n xs) :
    Calls Tryz.prog 35 #[v, .int .i64 k] w fun e w' => e = .returned (.int .i64 ((k + n * 9 : Nat) : Int)) ∧ (∃ cs, w'.ownsRow base 54 9 v n cs ∧ Mq k n cs) ∧ w.grownBy w' v.ownBlock := by
  obtain ⟨ao, cap, rfl, hcap, hmax, hrs⟩ := rs_of_owns hown
  have HO : Hid (w.ownsRow base 54 9 (.slice ao n cap) n xs) := hown
  clear hown
  go_enter Tryz.func35, Tryz.ntmps35
  go_wp2
  go_loopw [1, 5] (fun q i wr => ∃ j : Nat, j ≤ n ∧ i = .int .i64 j ∧ q = .int .i64 ((k + j * 9 : Nat) : Int) ∧ (∃ cs, wr.ownsRow base 54 9 (.slice ao n cap) n cs ∧ Mq k j cs) ∧ w.grownBy wr (Value.slice ao n cap).ownBlock) (fun _ i _ => n - (intOf i).toNat)
  case atStart => exact ⟨0, Nat.zero_le _, rfl, rfl, ⟨xs, HO.out, fun i hi => absurd hi (by omega)⟩, grow_below _ (Below.refl _ _)⟩
  case round =>
    obtain ⟨j, hj, rfl, rfl, ⟨cs, hown, hM⟩, hgr⟩ := hrel
    by_cases hlt : j < n
    · rcases hrs.ex with h | ⟨g, rfl, hg, hgc⟩
      · omega
      have hcl := hown.1
      clear hgc
      have HM : Hid (Mq k j cs) := hM
      clear hM
      obtain ⟨q, hq⟩ : ∃ q, q = k + j * 9 := ⟨_, rfl⟩
      rw [← hq]
      have hqb : q ≤ 8000000000 := by omega
      have HK : Hid (∀ u : World, Calls Tryz.prog 75 #[.int .i64 ((q : Int) + 1 + 1 + 1 + 1 + 1 + 1 + 1 + 1)] u fun e u' => e = .returned (.string (mkt (q + 8))) ∧ Below u.heap.size u u') := fun u => by have := markText_any (q + 8) u (by omega) (by omega); rw [show ((q + 8 : Nat) : Int) = (q : Int) + 1 + 1 + 1 + 1 + 1 + 1 + 1 + 1 by omega] at this; exact this
      have HQ : Hid (q = k + j * 9) := hq
      clear hq
      have HW : Hid (wr.ownsRow base 54 9 (.slice (some ⟨g, 0, none⟩) n cap) n cs) := hown
      have e0 := hown.cellAt (j * 9) (by omega)
      have e1 := hown.cellAt (j * 9 + 1) (by omega)
      have e2 := hown.cellAt (j * 9 + 2) (by omega)
      have e3 := hown.cellAt (j * 9 + 3) (by omega)
      have e4 := hown.cellAt (j * 9 + 4) (by omega)
      have e5 := hown.cellAt (j * 9 + 5) (by omega)
      have e6 := hown.cellAt (j * 9 + 6) (by omega)
      have e7 := hown.cellAt (j * 9 + 7) (by omega)
      rw [List.getElem?_eq_getElem (by omega)] at e0 e1 e2 e3 e4 e5 e6 e7
      have f0 := hown.frozenAt (j * 9)
      have f1 := hown.frozenAt (j * 9 + 1)
      have f2 := hown.frozenAt (j * 9 + 2)
      have f3 := hown.frozenAt (j * 9 + 3)
      have f4 := hown.frozenAt (j * 9 + 4)
      have f5 := hown.frozenAt (j * 9 + 5)
      have f6 := hown.frozenAt (j * 9 + 6)
      have f7 := hown.frozenAt (j * 9 + 7)
      clear hown
      go_wp2_with (go_at_call 75; (refine (HK.out _).mono ?_; rintro e w2 ⟨rfl, hb2⟩; (have ho2 := World.ownsRow.kept (show ((((((((wr.setCell ⟨g, j * 9, none⟩ (.int .i64 ((q : Int)))).setCell ⟨g, j * 9 + 1, none⟩ (.int .i64 ((q : Int) + 1))).setCell ⟨g, j * 9 + 2, none⟩ (.int .i64 ((q : Int) + 1 + 1))).setCell ⟨g, j * 9 + 3, none⟩ (.int .i64 ((q : Int) + 1 + 1 + 1))).setCell ⟨g, j * 9 + 4, none⟩ (.int .i64 ((q : Int) + 1 + 1 + 1 + 1))).setCell ⟨g, j * 9 + 5, none⟩ (.int .i64 ((q : Int) + 1 + 1 + 1 + 1 + 1))).setCell ⟨g, j * 9 + 6, none⟩ (.int .i64 ((q : Int) + 1 + 1 + 1 + 1 + 1 + 1))).setCell ⟨g, j * 9 + 7, none⟩ (.bool (((q : Int) + 1 + 1 + 1 + 1 + 1 + 1 + 1) % 3 == 0))).ownsRow base 54 9 (.slice (some ⟨g, 0, none⟩) n cap) n _ from ((((((((HW.out.stored (j * 9) (.int .i64 ((q : Int)))).1.stored (j * 9 + 1) (.int .i64 ((q : Int) + 1))).1.stored (j * 9 + 2) (.int .i64 ((q : Int) + 1 + 1))).1.stored (j * 9 + 3) (.int .i64 ((q : Int) + 1 + 1 + 1))).1.stored (j * 9 + 4) (.int .i64 ((q : Int) + 1 + 1 + 1 + 1))).1.stored (j * 9 + 5) (.int .i64 ((q : Int) + 1 + 1 + 1 + 1 + 1))).1.stored (j * 9 + 6) (.int .i64 ((q : Int) + 1 + 1 + 1 + 1 + 1 + 1))).1.stored (j * 9 + 7) (.bool (((q : Int) + 1 + 1 + 1 + 1 + 1 + 1 + 1) % 3 == 0))).1) (grow_below none hb2) (.inr (by simp [Value.ownBlock]))); (have hl8 := ho2.1); (have e8 := ho2.cellAt (j * 9 + 8) (by omega)); (rw [List.getElem?_eq_getElem (by omega)] at e8); (have f8 := ho2.frozenAt (j * 9 + 8))))
      go_roundw
      case rel =>
        have hq := HQ.out
        have hst := HM.out.step (by omega)
        rw [← hq] at hst
        refine ⟨j + 1, by omega, by go_num, by go_num, ⟨_, (ho2.stored (j * 9 + 8) (.string (mkt (q + 8)))).1, hst⟩, ?_⟩
        exact ((((((((((hgr).trans (grow_set _ ⟨g, j * 9, none⟩ _)).trans (grow_set _ ⟨g, j * 9 + 1, none⟩ _)).trans (grow_set _ ⟨g, j * 9 + 2, none⟩ _)).trans (grow_set _ ⟨g, j * 9 + 3, none⟩ _)).trans (grow_set _ ⟨g, j * 9 + 4, none⟩ _)).trans (grow_set _ ⟨g, j * 9 + 5, none⟩ _)).trans (grow_set _ ⟨g, j * 9 + 6, none⟩ _)).trans (grow_set _ ⟨g, j * 9 + 7, none⟩ _)).trans (grow_below _ hb2)).trans (grow_set _ ⟨g, j * 9 + 8, none⟩ _)
      case measure => simp [intOf]; omega
    · obtain rfl : j = n := by omega
      go_wp2
      go_ret
      exact ⟨rfl, ⟨cs, hown, hM⟩, hgr⟩
set_option maxRecDepth 100000 in
set_option maxHeartbeats 2000000 in
theorem heldPacketS_any (base : Nat) (v : Value) (n k : Nat) (cs : List Value) (w : World) (hn : n ≤ 100000000) (hk : 0 < k) (hk2 : k ≤ 1000000000) (hown : w.ownsRow base 54 9 v n cs) (hM : Mq k n cs) :
    Calls Tryz.prog 37 #[v, .int .i64 k] w fun e w' => e = .returned (.int .i64 ((k + n * 9 : Nat) : Int)) ∧ Below w.heap.size w w' := by
  obtain ⟨ao, cap, rfl, hcap, hmax, hrs⟩ := rs_of_owns hown
  have hcl := hown.1
  clear hown
  have HM : Hid (Mq k n cs) := hM
  clear hM
  go_enter Tryz.func37, Tryz.ntmps37
  go_wp2
  go_loopw [1, 5] (fun q i wr => ∃ j : Nat, j ≤ n ∧ i = .int .i64 j ∧ q = .int .i64 ((k + j * 9 : Nat) : Int) ∧ Below w.heap.size w wr) (fun _ i _ => n - (intOf i).toNat)
  case atStart => exact ⟨0, Nat.zero_le _, rfl, rfl, Below.refl _ _⟩
  case round =>
    obtain ⟨j, hj, rfl, rfl, hbel⟩ := hrel
    by_cases hlt : j < n
    · rcases hrs.ex with h | ⟨g, rfl, hg, hgc⟩
      · omega
      obtain ⟨m0, m1, m2, m3, m4, m5, m6, m7, m8⟩ := HM.out j hlt
      have a0 := (hbel.cell (p := ⟨g, j * 9, none⟩) hg).trans ((hgc _ (by omega)).trans m0)
      have a1 := (hbel.cell (p := ⟨g, j * 9 + 1, none⟩) hg).trans ((hgc _ (by omega)).trans m1)
      have a2 := (hbel.cell (p := ⟨g, j * 9 + 2, none⟩) hg).trans ((hgc _ (by omega)).trans m2)
      have a3 := (hbel.cell (p := ⟨g, j * 9 + 3, none⟩) hg).trans ((hgc _ (by omega)).trans m3)
      have a4 := (hbel.cell (p := ⟨g, j * 9 + 4, none⟩) hg).trans ((hgc _ (by omega)).trans m4)
      have a5 := (hbel.cell (p := ⟨g, j * 9 + 5, none⟩) hg).trans ((hgc _ (by omega)).trans m5)
      have a6 := (hbel.cell (p := ⟨g, j * 9 + 6, none⟩) hg).trans ((hgc _ (by omega)).trans m6)
      have a7 := (hbel.cell (p := ⟨g, j * 9 + 7, none⟩) hg).trans ((hgc _ (by omega)).trans m7)
      have a8 := (hbel.cell (p := ⟨g, j * 9 + 8, none⟩) hg).trans ((hgc _ (by omega)).trans m8)
      have hgr : g < wr.heap.size := Nat.lt_of_lt_of_le hg hbel.size
      clear m0 m1 m2 m3 m4 m5 m6 m7 m8 hgc
      obtain ⟨q, hq⟩ : ∃ q, q = k + j * 9 := ⟨_, rfl⟩
      rw [← hq] at a0 a1 a2 a3 a4 a5 a6 a7 a8 ⊢
      have hqb : q ≤ 8000000000 := by omega
      have HK : Hid (∀ u : World, Calls Tryz.prog 75 #[.int .i64 ((q : Int) + 1 + 1 + 1 + 1 + 1 + 1 + 1 + 1)] u fun e u' => e = .returned (.string (mkt (q + 8))) ∧ Below u.heap.size u u') := fun u => by have := markText_any (q + 8) u (by omega) (by omega); rw [show ((q + 8 : Nat) : Int) = (q : Int) + 1 + 1 + 1 + 1 + 1 + 1 + 1 + 1 by omega] at this; exact this
      have HQ : Hid (q = k + j * 9) := hq
      clear hq
      go_wp2
      go_region_held3 (fun w' => w'.cell? ⟨g, j * 9 + 8, none⟩ = some (.string (mkt (q + 8))) ∧ Below wr.heap.size wr w')
        (first | assumption | exact ⟨a8, (Below.refl _ _).drew⟩ | (go_split_ands; refine ⟨kp (by assumption) (by assumption) hb2 hgr, kb (by assumption) hb2 (Nat.le_refl _)⟩))
        (first | (go_at_call 75; refine (HK.out _).mono ?_; rintro e w2 ⟨rfl, hb2⟩))
      have hbl : Below wr.heap.size wr w2 := by go_split_ands; assumption
      go_wp2
      go_roundw
      case rel => exact ⟨j + 1, by omega, by go_num, by have := HQ.out; go_num, hbel.trans (hbl.mono hbel.size)⟩
      case measure => simp [intOf]; omega
    · obtain rfl : j = n := by omega
      go_wp2
      go_ret
      exact ⟨rfl, hbel⟩
end Go.Proofs.YtfjedpnagnnobaaGreat.mk

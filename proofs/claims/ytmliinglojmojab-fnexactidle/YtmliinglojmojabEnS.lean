/-
  ROWS OF ENDS.
-/
import Derived.Test.YtmliinglojmojabEnA
import Derived.Test.YtmliinglojmojabMarks
namespace Go.Proofs.Ytmliinglojmojab.mk
open Go.RowKit
set_option linter.unusedVariables false

/-- an end with where its rows lie -/
structure Ev where
  e : En
  ao : Option Addr
  ci : Nat
  ho : Option Addr
  ch : Nat
  so : Option Addr
  cs : Nat
def Ev.vals (x : Ev) : List Value := [.int .i64 x.e.num, .bool x.e.up, .int .i64 x.e.life, .int .i64 x.e.peer, .int .i64 x.e.since, .bool x.e.owes, .int .i64 x.e.b, .slice x.ao x.e.xs.length x.ci, .int .i64 x.e.nx, .slice x.ho x.e.hs.length x.ch, .string x.e.o, .slice x.so x.e.rs.length x.cs]
def evs (xs : List Ev) : List Value := xs.flatMap Ev.vals
theorem evs_length (xs : List Ev) : (evs xs).length = xs.length * 12 := by
  induction xs with
  | nil => rfl
  | cons x xs ih => simp only [evs, Ev.vals, List.flatMap_cons, List.length_append, List.length_cons, List.length_nil] at ih ⊢; omega
theorem evs_append (xs ys : List Ev) : evs (xs ++ ys) = evs xs ++ evs ys := by simp [evs]
theorem evs_at (xs : List Ev) (i : Nat) (h : i < xs.length) : (evs xs)[i * 12]? = some (.int .i64 xs[i].e.num) ∧ (evs xs)[i * 12 + 1]? = some (.bool xs[i].e.up) ∧ (evs xs)[i * 12 + 2]? = some (.int .i64 xs[i].e.life) ∧ (evs xs)[i * 12 + 3]? = some (.int .i64 xs[i].e.peer) ∧ (evs xs)[i * 12 + 4]? = some (.int .i64 xs[i].e.since) ∧ (evs xs)[i * 12 + 5]? = some (.bool xs[i].e.owes) ∧ (evs xs)[i * 12 + 6]? = some (.int .i64 xs[i].e.b) ∧ (evs xs)[i * 12 + 7]? = some (.slice xs[i].ao xs[i].e.xs.length xs[i].ci) ∧ (evs xs)[i * 12 + 8]? = some (.int .i64 xs[i].e.nx) ∧ (evs xs)[i * 12 + 9]? = some (.slice xs[i].ho xs[i].e.hs.length xs[i].ch) ∧ (evs xs)[i * 12 + 10]? = some (.string xs[i].e.o) ∧ (evs xs)[i * 12 + 11]? = some (.slice xs[i].so xs[i].e.rs.length xs[i].cs) := by
  induction xs generalizing i with
  | nil => simp at h
  | cons x xs ih =>
    cases i with
    | zero => simp [evs, Ev.vals]
    | succ i =>
      have := ih i (by simpa using h)
      have e : (i + 1) * 12 = i * 12 + 12 := by omega
      rw [e]
      simpa [evs, Ev.vals] using this
theorem Rs.evs {w wr : World} {g n : Nat} {xs : List Ev} (hg : g < w.heap.size) (h : ∀ j, j < (evs xs).length → w.cell? ⟨g, j, none⟩ = (mk.evs xs)[j]?) (hb : Below w.heap.size w wr) (i : Nat) (hi : i < xs.length) :
    wr.cell? ⟨g, i * 12, none⟩ = some (.int .i64 xs[i].e.num) ∧ wr.cell? ⟨g, i * 12 + 1, none⟩ = some (.bool xs[i].e.up) ∧ wr.cell? ⟨g, i * 12 + 2, none⟩ = some (.int .i64 xs[i].e.life) ∧ wr.cell? ⟨g, i * 12 + 3, none⟩ = some (.int .i64 xs[i].e.peer) ∧ wr.cell? ⟨g, i * 12 + 4, none⟩ = some (.int .i64 xs[i].e.since) ∧ wr.cell? ⟨g, i * 12 + 5, none⟩ = some (.bool xs[i].e.owes) ∧ wr.cell? ⟨g, i * 12 + 6, none⟩ = some (.int .i64 xs[i].e.b) ∧ wr.cell? ⟨g, i * 12 + 7, none⟩ = some (.slice xs[i].ao xs[i].e.xs.length xs[i].ci) ∧ wr.cell? ⟨g, i * 12 + 8, none⟩ = some (.int .i64 xs[i].e.nx) ∧ wr.cell? ⟨g, i * 12 + 9, none⟩ = some (.slice xs[i].ho xs[i].e.hs.length xs[i].ch) ∧ wr.cell? ⟨g, i * 12 + 10, none⟩ = some (.string xs[i].e.o) ∧ wr.cell? ⟨g, i * 12 + 11, none⟩ = some (.slice xs[i].so xs[i].e.rs.length xs[i].cs) := by
  have hx := evs_at xs i hi
  have hl := evs_length xs
  exact ⟨(hb.cell (p := ⟨g, i * 12, none⟩) hg).trans ((h _ (by omega)).trans hx.1), (hb.cell (p := ⟨g, i * 12 + 1, none⟩) hg).trans ((h _ (by omega)).trans hx.2.1), (hb.cell (p := ⟨g, i * 12 + 2, none⟩) hg).trans ((h _ (by omega)).trans hx.2.2.1), (hb.cell (p := ⟨g, i * 12 + 3, none⟩) hg).trans ((h _ (by omega)).trans hx.2.2.2.1), (hb.cell (p := ⟨g, i * 12 + 4, none⟩) hg).trans ((h _ (by omega)).trans hx.2.2.2.2.1), (hb.cell (p := ⟨g, i * 12 + 5, none⟩) hg).trans ((h _ (by omega)).trans hx.2.2.2.2.2.1), (hb.cell (p := ⟨g, i * 12 + 6, none⟩) hg).trans ((h _ (by omega)).trans hx.2.2.2.2.2.2.1), (hb.cell (p := ⟨g, i * 12 + 7, none⟩) hg).trans ((h _ (by omega)).trans hx.2.2.2.2.2.2.2.1), (hb.cell (p := ⟨g, i * 12 + 8, none⟩) hg).trans ((h _ (by omega)).trans hx.2.2.2.2.2.2.2.2.1), (hb.cell (p := ⟨g, i * 12 + 9, none⟩) hg).trans ((h _ (by omega)).trans hx.2.2.2.2.2.2.2.2.2.1), (hb.cell (p := ⟨g, i * 12 + 10, none⟩) hg).trans ((h _ (by omega)).trans hx.2.2.2.2.2.2.2.2.2.2.1), (hb.cell (p := ⟨g, i * 12 + 11, none⟩) hg).trans ((h _ (by omega)).trans hx.2.2.2.2.2.2.2.2.2.2.2)⟩
/-- a row of ends that is to be read -/
structure Res (w : World) (ao : Option Addr) (xs : List Ev) : Prop where
  row : Rs w ao xs.length (evs xs)
  each : ∀ i (h : i < xs.length), Re w xs[i].e xs[i].ao xs[i].ho xs[i].so
theorem Res.keep {w w' : World} {ao : Option Addr} {xs : List Ev} (h : Res w ao xs) (hb : Below w.heap.size w w') : Res w' ao xs := ⟨h.row.keep hb, fun i hi => (h.each i hi).keep hb⟩
/-- two rows of the same ends -/
structure Same (xs ys : List Ev) : Prop where
  len : ys.length = xs.length
  at' : ∀ i (h : i < xs.length) (h' : i < ys.length), ys[i].e = xs[i].e
theorem Same.refl (xs : List Ev) : Same xs xs := ⟨rfl, fun _ _ _ => rfl⟩
theorem Same.symm {xs ys : List Ev} (h : Same xs ys) : Same ys xs := ⟨h.len.symm, fun i a b => (h.at' i b a).symm⟩
theorem Same.trans {xs ys zs : List Ev} (h : Same xs ys) (h' : Same ys zs) : Same xs zs := ⟨h'.len.trans h.len, fun i a b => (h'.at' i (by rw [h.len]; exact a) b).trans (h.at' i a (by rw [h.len]; exact a))⟩
set_option maxHeartbeats 2000000 in
theorem eqEndS_same (ao bo : Option Addr) (ca cb : Nat) (xs ys : List Ev) (w : World) (hl : xs.length ≤ 1000000000) (hz : ∀ i (h : i < xs.length), xs[i].e.xs.length ≤ 1000000000 ∧ xs[i].e.hs.length ≤ 1000000000 ∧ xs[i].e.rs.length ≤ 1000000000) (hS : Same xs ys) (ha : Res w ao xs) (hb : Res w bo ys) :
    Calls Try.prog 18 #[.slice ao xs.length ca, .slice bo ys.length cb] w fun e w' => e = .returned (.bool true) ∧ Below w.heap.size w w' := by
  have HA : Hid (Res w ao xs) := ha
  have HB : Hid (Res w bo ys) := hb
  have HZ : Hid (∀ i (h : i < xs.length), xs[i].e.xs.length ≤ 1000000000 ∧ xs[i].e.hs.length ≤ 1000000000 ∧ xs[i].e.rs.length ≤ 1000000000) := hz
  have HSm : Hid (Same xs ys) := hS
  have hyl := hS.len
  obtain ⟨n, hn⟩ : ∃ n, n = xs.length := ⟨_, rfl⟩
  have HN : Hid (n = xs.length ∧ n = ys.length) := ⟨hn, by rw [hyl]; exact hn⟩
  rw [hyl, ← hn]
  rw [← hn] at hl
  clear ha hb hz hS hyl hn
  go_enter Try.func18, Try.ntmps18
  go_wp2
  go_loopw [5] (fun i wr => ∃ k : Nat, k ≤ n ∧ i = .int .i64 k ∧ Below w.heap.size w wr) (fun i _ => n - (intOf i).toNat)
  case atStart => exact ⟨0, Nat.zero_le _, rfl, Below.refl _ _⟩
  case round =>
    obtain ⟨k, hk, rfl, hbel⟩ := hrel
    by_cases hlt : k < n
    · have hkx : k < xs.length := by have := HN.out.1; omega
      have hky : k < ys.length := by have := HN.out.2; omega
      rcases HA.out.row.ex with h | ⟨g, rfl, hg, hgc⟩
      · omega
      rcases HB.out.row.ex with h | ⟨g', rfl, hg', hgc'⟩
      · omega
      obtain ⟨a0, a1, a2, a3, a4, a5, a6, a7, a8, a9, a10, a11⟩ := Rs.evs (n := 0) hg hgc hbel k hkx
      obtain ⟨b0, b1, b2, b3, b4, b5, b6, b7, b8, b9, b10, b11⟩ := Rs.evs (n := 0) hg' hgc' hbel k hky
      have hgr : g < wr.heap.size := Nat.lt_of_lt_of_le hg hbel.size
      have hgr' : g' < wr.heap.size := Nat.lt_of_lt_of_le hg' hbel.size
      have E1 := (HA.out.each k hkx).keep hbel
      have E2 := (HB.out.each k hky).keep hbel
      have z1 := HZ.out k hkx
      have hee := HSm.out.at' k hkx hky
      clear hgc hgc'
      generalize xs[k] = x at *
      generalize ys[k] = y at *
      clear hkx hky
      rw [hee] at E2 b0 b1 b2 b3 b4 b5 b6 b7 b8 b9 b10 b11
      obtain ⟨e, p0, p1, p2, p3, p4, p5⟩ := x
      obtain ⟨e', q0, q1, q2, q3, q4, q5⟩ := y
      simp only at hee E1 E2 z1 a0 b0 a1 b1 a2 b2 a3 b3 a4 b4 a5 b5 a6 b6 a7 b7 a8 b8 a9 b9 a10 b10 a11 b11
      clear hee e'
      have R1 : Hid (Re wr e p0 p2 p4) := E1
      have R2 : Hid (Re wr e q0 q2 q4) := E2
      have Z1 : Hid (e.xs.length ≤ 1000000000 ∧ e.hs.length ≤ 1000000000 ∧ e.rs.length ≤ 1000000000) := z1
      clear E1 E2 z1
      go_wp2
      go_region_held3 (fun w' => w'.cell? ⟨g, k * 12, none⟩ = some (.int .i64 e.num) ∧ w'.cell? ⟨g, k * 12 + 1, none⟩ = some (.bool e.up) ∧ w'.cell? ⟨g, k * 12 + 2, none⟩ = some (.int .i64 e.life) ∧ w'.cell? ⟨g, k * 12 + 3, none⟩ = some (.int .i64 e.peer) ∧ w'.cell? ⟨g, k * 12 + 4, none⟩ = some (.int .i64 e.since) ∧ w'.cell? ⟨g, k * 12 + 5, none⟩ = some (.bool e.owes) ∧ w'.cell? ⟨g, k * 12 + 6, none⟩ = some (.int .i64 e.b) ∧ w'.cell? ⟨g, k * 12 + 7, none⟩ = some (.slice p0 e.xs.length p1) ∧ w'.cell? ⟨g, k * 12 + 8, none⟩ = some (.int .i64 e.nx) ∧ w'.cell? ⟨g, k * 12 + 9, none⟩ = some (.slice p2 e.hs.length p3) ∧ w'.cell? ⟨g, k * 12 + 10, none⟩ = some (.string e.o) ∧ w'.cell? ⟨g, k * 12 + 11, none⟩ = some (.slice p4 e.rs.length p5) ∧ w'.cell? ⟨g', k * 12, none⟩ = some (.int .i64 e.num) ∧ w'.cell? ⟨g', k * 12 + 1, none⟩ = some (.bool e.up) ∧ w'.cell? ⟨g', k * 12 + 2, none⟩ = some (.int .i64 e.life) ∧ w'.cell? ⟨g', k * 12 + 3, none⟩ = some (.int .i64 e.peer) ∧ w'.cell? ⟨g', k * 12 + 4, none⟩ = some (.int .i64 e.since) ∧ w'.cell? ⟨g', k * 12 + 5, none⟩ = some (.bool e.owes) ∧ w'.cell? ⟨g', k * 12 + 6, none⟩ = some (.int .i64 e.b) ∧ w'.cell? ⟨g', k * 12 + 7, none⟩ = some (.slice q0 e.xs.length q1) ∧ w'.cell? ⟨g', k * 12 + 8, none⟩ = some (.int .i64 e.nx) ∧ w'.cell? ⟨g', k * 12 + 9, none⟩ = some (.slice q2 e.hs.length q3) ∧ w'.cell? ⟨g', k * 12 + 10, none⟩ = some (.string e.o) ∧ w'.cell? ⟨g', k * 12 + 11, none⟩ = some (.slice q4 e.rs.length q5) ∧ Below wr.heap.size wr w')
        (first | assumption | exact ⟨a0, a1, a2, a3, a4, a5, a6, a7, a8, a9, a10, a11, b0, b1, b2, b3, b4, b5, b6, b7, b8, b9, b10, b11, (Below.refl _ _).drew⟩ | (go_split_ands; refine ⟨kp (by assumption) (by assumption) hb2 hgr, kp (by assumption) (by assumption) hb2 hgr, kp (by assumption) (by assumption) hb2 hgr, kp (by assumption) (by assumption) hb2 hgr, kp (by assumption) (by assumption) hb2 hgr, kp (by assumption) (by assumption) hb2 hgr, kp (by assumption) (by assumption) hb2 hgr, kp (by assumption) (by assumption) hb2 hgr, kp (by assumption) (by assumption) hb2 hgr, kp (by assumption) (by assumption) hb2 hgr, kp (by assumption) (by assumption) hb2 hgr, kp (by assumption) (by assumption) hb2 hgr, kp (by assumption) (by assumption) hb2 hgr', kp (by assumption) (by assumption) hb2 hgr', kp (by assumption) (by assumption) hb2 hgr', kp (by assumption) (by assumption) hb2 hgr', kp (by assumption) (by assumption) hb2 hgr', kp (by assumption) (by assumption) hb2 hgr', kp (by assumption) (by assumption) hb2 hgr', kp (by assumption) (by assumption) hb2 hgr', kp (by assumption) (by assumption) hb2 hgr', kp (by assumption) (by assumption) hb2 hgr', kp (by assumption) (by assumption) hb2 hgr', kp (by assumption) (by assumption) hb2 hgr', kb (by assumption) hb2 (Nat.le_refl _)⟩))
        (first | (go_at_call 34; refine (eqEnd_same e _ _ _ _ _ _ _ _ _ _ _ _ _ Z1.out.1 Z1.out.2.1 Z1.out.2.2 (R1.out.keep (by go_split_ands; assumption)) (R2.out.keep (by go_split_ands; assumption))).mono ?_; rintro e' w2 ⟨rfl, hb2⟩))
      have hbl : Below wr.heap.size wr w2 := by go_split_ands; assumption
      go_wp2
      go_roundw
      case rel => exact ⟨k + 1, by omega, by go_num, hbel.trans (hbl.mono hbel.size)⟩
      case measure => simp [intOf]; omega
    · obtain rfl : k = n := by omega
      go_wp2
      go_ret
      exact ⟨rfl, hbel⟩
/-! ### that came in -/
structure Aes (w : World) (ao : Option Addr) (xs : List Ev) : Prop where
  ex : xs.length = 0 ∨ ∃ g o, ao = some ⟨g, o, none⟩ ∧ ∀ i (h : i < xs.length), w.cell? ⟨g, o + i * 12, none⟩ = some (.int .i64 xs[i].e.num) ∧ w.cell? ⟨g, o + i * 12 + 1, none⟩ = some (.bool xs[i].e.up) ∧ w.cell? ⟨g, o + i * 12 + 2, none⟩ = some (.int .i64 xs[i].e.life) ∧ w.cell? ⟨g, o + i * 12 + 3, none⟩ = some (.int .i64 xs[i].e.peer) ∧ w.cell? ⟨g, o + i * 12 + 4, none⟩ = some (.int .i64 xs[i].e.since) ∧ w.cell? ⟨g, o + i * 12 + 5, none⟩ = some (.bool xs[i].e.owes) ∧ w.cell? ⟨g, o + i * 12 + 6, none⟩ = some (.int .i64 xs[i].e.b) ∧ w.cell? ⟨g, o + i * 12 + 7, none⟩ = some (.slice xs[i].ao xs[i].e.xs.length xs[i].ci) ∧ w.cell? ⟨g, o + i * 12 + 8, none⟩ = some (.int .i64 xs[i].e.nx) ∧ w.cell? ⟨g, o + i * 12 + 9, none⟩ = some (.slice xs[i].ho xs[i].e.hs.length xs[i].ch) ∧ w.cell? ⟨g, o + i * 12 + 10, none⟩ = some (.string xs[i].e.o) ∧ w.cell? ⟨g, o + i * 12 + 11, none⟩ = some (.slice xs[i].so xs[i].e.rs.length xs[i].cs)
  each : ∀ i (h : i < xs.length), Ae w xs[i].e xs[i].ao xs[i].ho xs[i].so
theorem Aes.keep {w w' : World} {ao : Option Addr} {xs : List Ev} (h : Aes w ao xs) (hb : Below w.heap.size w w') : Aes w' ao xs := by
  refine ⟨?_, fun i hi => (h.each i hi).keep hb⟩
  rcases h.ex with h | ⟨g, o, h1, h2⟩
  · exact .inl h
  · exact .inr ⟨g, o, h1, fun i hi => ⟨cell_keep (h2 i hi).1 hb, cell_keep (h2 i hi).2.1 hb, cell_keep (h2 i hi).2.2.1 hb, cell_keep (h2 i hi).2.2.2.1 hb, cell_keep (h2 i hi).2.2.2.2.1 hb, cell_keep (h2 i hi).2.2.2.2.2.1 hb, cell_keep (h2 i hi).2.2.2.2.2.2.1 hb, cell_keep (h2 i hi).2.2.2.2.2.2.2.1 hb, cell_keep (h2 i hi).2.2.2.2.2.2.2.2.1 hb, cell_keep (h2 i hi).2.2.2.2.2.2.2.2.2.1 hb, cell_keep (h2 i hi).2.2.2.2.2.2.2.2.2.2.1 hb, cell_keep (h2 i hi).2.2.2.2.2.2.2.2.2.2.2 hb⟩⟩
set_option maxHeartbeats 2000000 in
theorem szEndS_any (ao : Option Addr) (cap : Nat) (xs : List Ev) (z : Int) (w : World) (hz : 0 ≤ z ∧ z ≤ 1048576) (hm : xs.length ≤ maxLen) (hs : ∀ i (h : i < xs.length), Se maxLen xs[i].e) (ha : Aes w ao xs) :
    Calls Try.prog 9 #[.slice ao xs.length cap, .int .i64 z] w fun e w' => (∃ z : Int, e = .returned (.int .i64 z) ∧ z ≤ 1048576 ∧ -1 ≤ z ∧ (0 ≤ z → xs.length ≤ 1048576 ∧ ∀ i (h : i < xs.length), Se 1048576 xs[i].e)) ∧ Below w.heap.size w w' := by
  have HA : Hid (Aes w ao xs) := ha
  have HS : Hid (∀ i (h : i < xs.length), Se maxLen xs[i].e) := hs
  have hm' : (xs.length : Int) ≤ 9223372036854775807 := by unfold maxLen at hm; omega
  clear ha hs
  by_cases h0 : z < xs.length
  · go_enter Try.func9, Try.ntmps9
    go_wp2
    go_ret
    exact ⟨⟨-1, rfl, by omega, by omega, fun h => by omega⟩, Below.refl _ _⟩
  · go_enter Try.func9, Try.ntmps9
    go_wp2
    go_loopw [1, 5] (fun q i wr => ∃ (k : Nat) (y : Int), k ≤ xs.length ∧ i = .int .i64 k ∧ q = .int .i64 y ∧ 0 ≤ y ∧ y ≤ 1048576 ∧ (∀ j (h : j < xs.length), j < k → Se 1048576 xs[j].e) ∧ Below w.heap.size w wr) (fun _ i _ => xs.length - (intOf i).toNat)
    case atStart => exact ⟨0, z - xs.length, Nat.zero_le _, rfl, rfl, by omega, by omega, fun j _ h => absurd h (by omega), Below.refl _ _⟩
    case round =>
      obtain ⟨k, y, hk, rfl, rfl, hy0, hy1, hall, hbel⟩ := hrel
      have HL : Hid (∀ j (h : j < xs.length), j < k → Se 1048576 xs[j].e) := hall
      clear hall
      by_cases hlt : k < xs.length
      · rcases HA.out.ex with h | ⟨g, o, rfl, hac⟩
        · omega
        have HSZ : Hid (Se maxLen xs[k].e) := HS.out k hlt
        have HE : Hid (Ae wr xs[k].e xs[k].ao xs[k].ho xs[k].so) := (HA.out.each k hlt).keep hbel
        obtain ⟨q0, q1, q2, q3, q4, q5, q6, q7, q8, q9, q10, q11⟩ := hac k hlt
        have c0 := (hbel.cell (cell_lt q0)).trans q0
        have c1 := (hbel.cell (cell_lt q1)).trans q1
        have c2 := (hbel.cell (cell_lt q2)).trans q2
        have c3 := (hbel.cell (cell_lt q3)).trans q3
        have c4 := (hbel.cell (cell_lt q4)).trans q4
        have c5 := (hbel.cell (cell_lt q5)).trans q5
        have c6 := (hbel.cell (cell_lt q6)).trans q6
        have c7 := (hbel.cell (cell_lt q7)).trans q7
        have c8 := (hbel.cell (cell_lt q8)).trans q8
        have c9 := (hbel.cell (cell_lt q9)).trans q9
        have c10 := (hbel.cell (cell_lt q10)).trans q10
        have c11 := (hbel.cell (cell_lt q11)).trans q11
        clear hac q0 q1 q2 q3 q4 q5 q6 q7 q8 q9 q10 q11
        revert HSZ HE c0 c1 c2 c3 c4 c5 c6 c7 c8 c9 c10 c11
        generalize hx : xs[k] = x
        have HX : Hid (xs[k] = x) := hx
        clear hx
        obtain ⟨e, p0, p1, p2, p3, p4, p5⟩ := x
        intro HSZ HE c0 c1 c2 c3 c4 c5 c6 c7 c8 c9 c10 c11
        simp only at HSZ HE c0 c1 c2 c3 c4 c5 c6 c7 c8 c9 c10 c11
        go_wp2_with (go_at_call 21; refine (szEnd_any e p0 p2 p4 p1 p3 p5 _ _ ⟨hy0, hy1⟩ HSZ.out HE.out).mono ?_; rintro e' w2 ⟨⟨y2, rfl, hy2, hy3, hy4⟩, hb2⟩; (have HY : Hid (0 ≤ y2 → Se 1048576 e) := hy4); clear hy4)
        · go_ret
          exact ⟨⟨-1, rfl, by omega, by omega, fun h => by omega⟩, hbel.trans (hb2.mono hbel.size)⟩
        · go_roundw
          case rel =>
            refine ⟨k + 1, y2, by omega, by go_num, rfl, by omega, by omega, fun j h hj => ?_, hbel.trans (hb2.mono hbel.size)⟩
            rcases Nat.lt_or_ge j k with h1 | h1
            · exact HL.out j h h1
            · obtain rfl : j = k := by omega
              rw [HX.out]
              exact HY.out (by omega)
          case measure => simp [intOf]; omega
      · obtain rfl : k = xs.length := by omega
        go_wp2
        go_ret
        exact ⟨⟨y, rfl, hy1, by omega, fun _ => ⟨by omega, fun i h => HL.out i h h⟩⟩, hbel⟩
/-! ### copies -/
def putE (cs : List Value) (k : Nat) (a0 a1 a2 a3 a4 a5 a6 a7 a8 a9 a10 a11 : Value) : List Value := ((((((((((((cs.set (k * 12) a0).set (k * 12 + 1) a1).set (k * 12 + 2) a2).set (k * 12 + 3) a3).set (k * 12 + 4) a4).set (k * 12 + 5) a5).set (k * 12 + 6) a6).set (k * 12 + 7) a7).set (k * 12 + 8) a8).set (k * 12 + 9) a9).set (k * 12 + 10) a10).set (k * 12 + 11) a11)
theorem putE_at {cs : List Value} {k : Nat} {a0 a1 a2 a3 a4 a5 a6 a7 a8 a9 a10 a11 : Value} (hl : k * 12 + 11 < cs.length) : (putE cs k a0 a1 a2 a3 a4 a5 a6 a7 a8 a9 a10 a11)[k * 12]? = some a0 ∧ (putE cs k a0 a1 a2 a3 a4 a5 a6 a7 a8 a9 a10 a11)[k * 12 + 1]? = some a1 ∧ (putE cs k a0 a1 a2 a3 a4 a5 a6 a7 a8 a9 a10 a11)[k * 12 + 2]? = some a2 ∧ (putE cs k a0 a1 a2 a3 a4 a5 a6 a7 a8 a9 a10 a11)[k * 12 + 3]? = some a3 ∧ (putE cs k a0 a1 a2 a3 a4 a5 a6 a7 a8 a9 a10 a11)[k * 12 + 4]? = some a4 ∧ (putE cs k a0 a1 a2 a3 a4 a5 a6 a7 a8 a9 a10 a11)[k * 12 + 5]? = some a5 ∧ (putE cs k a0 a1 a2 a3 a4 a5 a6 a7 a8 a9 a10 a11)[k * 12 + 6]? = some a6 ∧ (putE cs k a0 a1 a2 a3 a4 a5 a6 a7 a8 a9 a10 a11)[k * 12 + 7]? = some a7 ∧ (putE cs k a0 a1 a2 a3 a4 a5 a6 a7 a8 a9 a10 a11)[k * 12 + 8]? = some a8 ∧ (putE cs k a0 a1 a2 a3 a4 a5 a6 a7 a8 a9 a10 a11)[k * 12 + 9]? = some a9 ∧ (putE cs k a0 a1 a2 a3 a4 a5 a6 a7 a8 a9 a10 a11)[k * 12 + 10]? = some a10 ∧ (putE cs k a0 a1 a2 a3 a4 a5 a6 a7 a8 a9 a10 a11)[k * 12 + 11]? = some a11 := by
  unfold putE
  refine ⟨?_, ?_, ?_, ?_, ?_, ?_, ?_, ?_, ?_, ?_, ?_, ?_⟩
  · rw [List.getElem?_set_ne (by omega), List.getElem?_set_ne (by omega), List.getElem?_set_ne (by omega), List.getElem?_set_ne (by omega), List.getElem?_set_ne (by omega), List.getElem?_set_ne (by omega), List.getElem?_set_ne (by omega), List.getElem?_set_ne (by omega), List.getElem?_set_ne (by omega), List.getElem?_set_ne (by omega), List.getElem?_set_ne (by omega), List.getElem?_set_self (by first | omega | (simp; omega))]
  · rw [List.getElem?_set_ne (by omega), List.getElem?_set_ne (by omega), List.getElem?_set_ne (by omega), List.getElem?_set_ne (by omega), List.getElem?_set_ne (by omega), List.getElem?_set_ne (by omega), List.getElem?_set_ne (by omega), List.getElem?_set_ne (by omega), List.getElem?_set_ne (by omega), List.getElem?_set_ne (by omega), List.getElem?_set_self (by first | omega | (simp; omega))]
  · rw [List.getElem?_set_ne (by omega), List.getElem?_set_ne (by omega), List.getElem?_set_ne (by omega), List.getElem?_set_ne (by omega), List.getElem?_set_ne (by omega), List.getElem?_set_ne (by omega), List.getElem?_set_ne (by omega), List.getElem?_set_ne (by omega), List.getElem?_set_ne (by omega), List.getElem?_set_self (by first | omega | (simp; omega))]
  · rw [List.getElem?_set_ne (by omega), List.getElem?_set_ne (by omega), List.getElem?_set_ne (by omega), List.getElem?_set_ne (by omega), List.getElem?_set_ne (by omega), List.getElem?_set_ne (by omega), List.getElem?_set_ne (by omega), List.getElem?_set_ne (by omega), List.getElem?_set_self (by first | omega | (simp; omega))]
  · rw [List.getElem?_set_ne (by omega), List.getElem?_set_ne (by omega), List.getElem?_set_ne (by omega), List.getElem?_set_ne (by omega), List.getElem?_set_ne (by omega), List.getElem?_set_ne (by omega), List.getElem?_set_ne (by omega), List.getElem?_set_self (by first | omega | (simp; omega))]
  · rw [List.getElem?_set_ne (by omega), List.getElem?_set_ne (by omega), List.getElem?_set_ne (by omega), List.getElem?_set_ne (by omega), List.getElem?_set_ne (by omega), List.getElem?_set_ne (by omega), List.getElem?_set_self (by first | omega | (simp; omega))]
  · rw [List.getElem?_set_ne (by omega), List.getElem?_set_ne (by omega), List.getElem?_set_ne (by omega), List.getElem?_set_ne (by omega), List.getElem?_set_ne (by omega), List.getElem?_set_self (by first | omega | (simp; omega))]
  · rw [List.getElem?_set_ne (by omega), List.getElem?_set_ne (by omega), List.getElem?_set_ne (by omega), List.getElem?_set_ne (by omega), List.getElem?_set_self (by first | omega | (simp; omega))]
  · rw [List.getElem?_set_ne (by omega), List.getElem?_set_ne (by omega), List.getElem?_set_ne (by omega), List.getElem?_set_self (by first | omega | (simp; omega))]
  · rw [List.getElem?_set_ne (by omega), List.getElem?_set_ne (by omega), List.getElem?_set_self (by first | omega | (simp; omega))]
  · rw [List.getElem?_set_ne (by omega), List.getElem?_set_self (by first | omega | (simp; omega))]
  · rw [List.getElem?_set_self (by first | omega | (simp; omega))]
theorem putE_other {cs : List Value} {k j : Nat} {a0 a1 a2 a3 a4 a5 a6 a7 a8 a9 a10 a11 : Value} (h : j < k * 12 ∨ k * 12 + 11 < j) : (putE cs k a0 a1 a2 a3 a4 a5 a6 a7 a8 a9 a10 a11)[j]? = cs[j]? := by
  unfold putE
  rw [List.getElem?_set_ne (by omega), List.getElem?_set_ne (by omega), List.getElem?_set_ne (by omega), List.getElem?_set_ne (by omega), List.getElem?_set_ne (by omega), List.getElem?_set_ne (by omega), List.getElem?_set_ne (by omega), List.getElem?_set_ne (by omega), List.getElem?_set_ne (by omega), List.getElem?_set_ne (by omega), List.getElem?_set_ne (by omega), List.getElem?_set_ne (by omega)]
/-- the cells ahead of place k are those of xs -/
def Te (xs : List Ev) (cs : List Value) : Prop := ∀ i (h : i < xs.length), cs[i * 12]? = some (.int .i64 xs[i].e.num) ∧ cs[i * 12 + 1]? = some (.bool xs[i].e.up) ∧ cs[i * 12 + 2]? = some (.int .i64 xs[i].e.life) ∧ cs[i * 12 + 3]? = some (.int .i64 xs[i].e.peer) ∧ cs[i * 12 + 4]? = some (.int .i64 xs[i].e.since) ∧ cs[i * 12 + 5]? = some (.bool xs[i].e.owes) ∧ cs[i * 12 + 6]? = some (.int .i64 xs[i].e.b) ∧ cs[i * 12 + 7]? = some (.slice xs[i].ao xs[i].e.xs.length xs[i].ci) ∧ cs[i * 12 + 8]? = some (.int .i64 xs[i].e.nx) ∧ cs[i * 12 + 9]? = some (.slice xs[i].ho xs[i].e.hs.length xs[i].ch) ∧ cs[i * 12 + 10]? = some (.string xs[i].e.o) ∧ cs[i * 12 + 11]? = some (.slice xs[i].so xs[i].e.rs.length xs[i].cs)
theorem Te.step {xs : List Ev} {x : Ev} {cs : List Value} (h : Te xs cs) (hl : xs.length * 12 + 11 < cs.length) :
    Te (xs ++ [x]) (putE cs xs.length (.int .i64 x.e.num) (.bool x.e.up) (.int .i64 x.e.life) (.int .i64 x.e.peer) (.int .i64 x.e.since) (.bool x.e.owes) (.int .i64 x.e.b) (.slice x.ao x.e.xs.length x.ci) (.int .i64 x.e.nx) (.slice x.ho x.e.hs.length x.ch) (.string x.e.o) (.slice x.so x.e.rs.length x.cs)) := by
  intro j hj
  rcases Nat.lt_or_ge j xs.length with h1 | h1
  · rw [putE_other (by omega), putE_other (by omega), putE_other (by omega), putE_other (by omega), putE_other (by omega), putE_other (by omega), putE_other (by omega), putE_other (by omega), putE_other (by omega), putE_other (by omega), putE_other (by omega), putE_other (by omega)]
    have := h j h1
    rw [List.getElem_append_left h1]
    exact this
  · obtain rfl : j = xs.length := by simp at hj; omega
    rw [List.getElem_append_right (Nat.le_refl _)]
    simp only [Nat.sub_self, List.getElem_cons_zero]
    exact putE_at hl
theorem Te.all {xs : List Ev} {cs : List Value} (h : Te xs cs) (hl : cs.length = xs.length * 12) : cs = evs xs := by
  apply List.ext_getElem?
  intro j
  rcases Nat.lt_or_ge j (xs.length * 12) with hj | hj
  · have hi : j / 12 < xs.length := by omega
    have a := h (j / 12) hi
    have b := evs_at xs (j / 12) hi
    rcases (show j = j / 12 * 12 ∨ j = j / 12 * 12 + 1 ∨ j = j / 12 * 12 + 2 ∨ j = j / 12 * 12 + 3 ∨ j = j / 12 * 12 + 4 ∨ j = j / 12 * 12 + 5 ∨ j = j / 12 * 12 + 6 ∨ j = j / 12 * 12 + 7 ∨ j = j / 12 * 12 + 8 ∨ j = j / 12 * 12 + 9 ∨ j = j / 12 * 12 + 10 ∨ j = j / 12 * 12 + 11 by omega) with e | e | e | e | e | e | e | e | e | e | e | e
    · rw [e, a.1, b.1]
    · rw [e, a.2.1, b.2.1]
    · rw [e, a.2.2.1, b.2.2.1]
    · rw [e, a.2.2.2.1, b.2.2.2.1]
    · rw [e, a.2.2.2.2.1, b.2.2.2.2.1]
    · rw [e, a.2.2.2.2.2.1, b.2.2.2.2.2.1]
    · rw [e, a.2.2.2.2.2.2.1, b.2.2.2.2.2.2.1]
    · rw [e, a.2.2.2.2.2.2.2.1, b.2.2.2.2.2.2.2.1]
    · rw [e, a.2.2.2.2.2.2.2.2.1, b.2.2.2.2.2.2.2.2.1]
    · rw [e, a.2.2.2.2.2.2.2.2.2.1, b.2.2.2.2.2.2.2.2.2.1]
    · rw [e, a.2.2.2.2.2.2.2.2.2.2.1, b.2.2.2.2.2.2.2.2.2.2.1]
    · rw [e, a.2.2.2.2.2.2.2.2.2.2.2, b.2.2.2.2.2.2.2.2.2.2.2]
  · rw [List.getElem?_eq_none (by omega), List.getElem?_eq_none (by rw [evs_length]; omega)]
theorem owns_putE {w : World} {base g n cap : Nat} {e : TypeId} {cs : List Value} (h : w.ownsRow base e 12 (.slice (some ⟨g, 0, none⟩) n cap) n cs) (k : Nat) (a0 a1 a2 a3 a4 a5 a6 a7 a8 a9 a10 a11 : Value) :
    ((((((((((((w.setCell ⟨g, k * 12, none⟩ a0).setCell ⟨g, k * 12 + 1, none⟩ a1).setCell ⟨g, k * 12 + 2, none⟩ a2).setCell ⟨g, k * 12 + 3, none⟩ a3).setCell ⟨g, k * 12 + 4, none⟩ a4).setCell ⟨g, k * 12 + 5, none⟩ a5).setCell ⟨g, k * 12 + 6, none⟩ a6).setCell ⟨g, k * 12 + 7, none⟩ a7).setCell ⟨g, k * 12 + 8, none⟩ a8).setCell ⟨g, k * 12 + 9, none⟩ a9).setCell ⟨g, k * 12 + 10, none⟩ a10).setCell ⟨g, k * 12 + 11, none⟩ a11).ownsRow base e 12 (.slice (some ⟨g, 0, none⟩) n cap) n (putE cs k a0 a1 a2 a3 a4 a5 a6 a7 a8 a9 a10 a11) :=
  ((((((((((((h.stored (k * 12) a0).1.stored (k * 12 + 1) a1).1.stored (k * 12 + 2) a2).1.stored (k * 12 + 3) a3).1.stored (k * 12 + 4) a4).1.stored (k * 12 + 5) a5).1.stored (k * 12 + 6) a6).1.stored (k * 12 + 7) a7).1.stored (k * 12 + 8) a8).1.stored (k * 12 + 9) a9).1.stored (k * 12 + 10) a10).1.stored (k * 12 + 11) a11).1
theorem below_putE {B g : Nat} {w w1 : World} (h : Below B w w1) (hg : B ≤ g) (k : Nat) (a0 a1 a2 a3 a4 a5 a6 a7 a8 a9 a10 a11 : Value) :
    Below B w ((((((((((((w1.setCell ⟨g, k * 12, none⟩ a0).setCell ⟨g, k * 12 + 1, none⟩ a1).setCell ⟨g, k * 12 + 2, none⟩ a2).setCell ⟨g, k * 12 + 3, none⟩ a3).setCell ⟨g, k * 12 + 4, none⟩ a4).setCell ⟨g, k * 12 + 5, none⟩ a5).setCell ⟨g, k * 12 + 6, none⟩ a6).setCell ⟨g, k * 12 + 7, none⟩ a7).setCell ⟨g, k * 12 + 8, none⟩ a8).setCell ⟨g, k * 12 + 9, none⟩ a9).setCell ⟨g, k * 12 + 10, none⟩ a10).setCell ⟨g, k * 12 + 11, none⟩ a11) :=
  ((((((((((((h.setCell (p := ⟨g, k * 12, none⟩) hg _).setCell (p := ⟨g, k * 12 + 1, none⟩) hg _).setCell (p := ⟨g, k * 12 + 2, none⟩) hg _).setCell (p := ⟨g, k * 12 + 3, none⟩) hg _).setCell (p := ⟨g, k * 12 + 4, none⟩) hg _).setCell (p := ⟨g, k * 12 + 5, none⟩) hg _).setCell (p := ⟨g, k * 12 + 6, none⟩) hg _).setCell (p := ⟨g, k * 12 + 7, none⟩) hg _).setCell (p := ⟨g, k * 12 + 8, none⟩) hg _).setCell (p := ⟨g, k * 12 + 9, none⟩) hg _).setCell (p := ⟨g, k * 12 + 10, none⟩) hg _).setCell (p := ⟨g, k * 12 + 11, none⟩) hg _)
theorem grown_putE (w : World) (g k : Nat) (a0 a1 a2 a3 a4 a5 a6 a7 a8 a9 a10 a11 : Value) : w.grownBy ((((((((((((w.setCell ⟨g, k * 12, none⟩ a0).setCell ⟨g, k * 12 + 1, none⟩ a1).setCell ⟨g, k * 12 + 2, none⟩ a2).setCell ⟨g, k * 12 + 3, none⟩ a3).setCell ⟨g, k * 12 + 4, none⟩ a4).setCell ⟨g, k * 12 + 5, none⟩ a5).setCell ⟨g, k * 12 + 6, none⟩ a6).setCell ⟨g, k * 12 + 7, none⟩ a7).setCell ⟨g, k * 12 + 8, none⟩ a8).setCell ⟨g, k * 12 + 9, none⟩ a9).setCell ⟨g, k * 12 + 10, none⟩ a10).setCell ⟨g, k * 12 + 11, none⟩ a11) (some g) := by
  have h := grow_set
  exact ((((((((((((h _ ⟨g, k * 12, none⟩ _).trans (h _ ⟨g, k * 12 + 1, none⟩ _)).trans (h _ ⟨g, k * 12 + 2, none⟩ _)).trans (h _ ⟨g, k * 12 + 3, none⟩ _)).trans (h _ ⟨g, k * 12 + 4, none⟩ _)).trans (h _ ⟨g, k * 12 + 5, none⟩ _)).trans (h _ ⟨g, k * 12 + 6, none⟩ _)).trans (h _ ⟨g, k * 12 + 7, none⟩ _)).trans (h _ ⟨g, k * 12 + 8, none⟩ _)).trans (h _ ⟨g, k * 12 + 9, none⟩ _)).trans (h _ ⟨g, k * 12 + 10, none⟩ _)).trans (h _ ⟨g, k * 12 + 11, none⟩ _))
theorem info_evs : (Try.prog.info? 48).map (fun i => (i.zero, i.size, i.bytes)) = some (some (.agg #[.int .i64 0, .bool false, .int .i64 0, .int .i64 0, .int .i64 0, .bool false, .int .i64 0, .slice none 0 0, .int .i64 0, .slice none 0 0, .string ⟨#[]⟩, .slice none 0 0]), 12, 152) := by kernel_rfl
/-- a row of ends that is owned, in a stretch of blocks -/
structure Oes (u : World) (lo hi : Nat) (v : Value) (xs : List Ev) : Prop where
  row : Rw u lo hi 48 12 v xs.length (evs xs)
  each : ∀ i (h : i < xs.length), R3 u lo hi (.slice xs[i].ao xs[i].e.xs.length xs[i].ci) xs[i].e.xs.length (is xs[i].e.xs) (.slice xs[i].ho xs[i].e.hs.length xs[i].ch) xs[i].e.hs.length (hs xs[i].e.hs) (.slice xs[i].so xs[i].e.rs.length xs[i].cs) xs[i].e.rs.length (ss xs[i].e.rs)
theorem Oes.keep {u u' : World} {lo hi : Nat} {v : Value} {xs : List Ev} (h : Oes u lo hi v xs) (hb : Below u.heap.size u u') : Oes u' lo hi v xs := ⟨h.row.keep hb, fun i hi => (h.each i hi).keep hb⟩
theorem Oes.bet {u u' : World} {lo hi lo' hi' : Nat} {v : Value} {xs : List Ev} (h : Oes u lo hi v xs) (hb : Bet lo' hi' u u') (ho : hi ≤ lo' ∨ hi' ≤ lo) : Oes u' lo hi v xs := ⟨h.row.bet hb ho, fun i hi => (h.each i hi).bet hb ho⟩
theorem Oes.res {u : World} {lo hi : Nat} {ao : Option Addr} {cap : Nat} {xs : List Ev} (h : Oes u lo hi (.slice ao xs.length cap) xs) : Res u ao xs := ⟨owns_rs h.row.own, fun i hi => (h.each i hi).re⟩
theorem R3.lo {u : World} {lo hi lo' hi' : Nat} {v1 : Value} {n1 : Nat} {x1 : List Value} {v2 : Value} {n2 : Nat} {x2 : List Value} {v3 : Value} {n3 : Nat} {x3 : List Value} (h : R3 u lo hi v1 n1 x1 v2 n2 x2 v3 n3 x3) (h1 : lo' ≤ lo) (h2 : hi ≤ hi') : R3 u lo' hi' v1 n1 x1 v2 n2 x2 v3 n3 x3 :=
  ⟨⟨owns_mono3 h.i.own h1, fun r e => Nat.lt_of_lt_of_le (h.i.lt r e) h2⟩, ⟨owns_mono3 h.h.own h1, fun r e => Nat.lt_of_lt_of_le (h.h.lt r e) h2⟩, ⟨owns_mono3 h.s.own h1, fun r e => Nat.lt_of_lt_of_le (h.s.lt r e) h2⟩⟩
/-- an end's rows stand where the row of the ends turns -/
theorem R3.row {u u' : World} {lo hi g : Nat} {b : Nat} {n cap : Nat} {cs : List Value} {v1 : Value} {n1 : Nat} {x1 : List Value} {v2 : Value} {n2 : Nat} {x2 : List Value} {v3 : Value} {n3 : Nat} {x3 : List Value} (h : R3 u lo hi v1 n1 x1 v2 n2 x2 v3 n3 x3) (hE : u.ownsRow b 48 12 (.slice (some ⟨g, 0, none⟩) n cap) n cs) (hg : u.grownBy u' (some g)) : R3 u' lo hi v1 n1 x1 v2 n2 x2 v3 n3 x3 :=
  ⟨⟨h.i.own.kept hg (rows_ne6 h.i.own hE (by decide)), h.i.lt⟩, ⟨h.h.own.kept hg (rows_ne6 h.h.own hE (by decide)), h.h.lt⟩, ⟨h.s.own.kept hg (rows_ne6 h.s.own hE (by decide)), h.s.lt⟩⟩
set_option maxRecDepth 100000 in
set_option maxHeartbeats 4000000 in
theorem toEndS_any (ao : Option Addr) (cap : Nat) (xs : List Ev) (w : World) (hm : xs.length ≤ 1048576) (hs : ∀ i (h : i < xs.length), Se 1048576 xs[i].e) (ha : Aes w ao xs) :
    Calls Try.prog 13 #[.slice ao xs.length cap] w fun e w' => (∃ g ys, Same xs ys ∧ (∀ i (h : i < ys.length), ys[i].ao ≠ none ∧ ys[i].ho ≠ none ∧ ys[i].so ≠ none) ∧ e = .returned (.slice (some ⟨g, 0, none⟩) ys.length ys.length) ∧ Oes w' w.heap.size w'.heap.size (.slice (some ⟨g, 0, none⟩) ys.length ys.length) ys) ∧ Below w.heap.size w w' := by
  have HA : Hid (Aes w ao xs) := ha
  have HS : Hid (∀ i (h : i < xs.length), Se 1048576 xs[i].e) := hs
  clear ha hs
  obtain ⟨i0, hi, hz0, hz1, hz2⟩ := info_parts info_evs
  obtain ⟨n, hn⟩ : ∃ n, n = xs.length := ⟨_, rfl⟩
  have HN : Hid (n = xs.length) := hn
  rw [← hn]
  rw [← hn] at hm
  clear hn
  go_enter Try.func13, Try.ntmps13
  go_wp2_with (at_make; refine wpList_make_full _ rfl _ _ 29 rfl w.heap.size 48 i0 (.agg #[.int .i64 0, .bool false, .int .i64 0, .int .i64 0, .int .i64 0, .bool false, .int .i64 0, .slice none 0 0, .int .i64 0, .slice none 0 0, .string ⟨#[]⟩, .slice none 0 0]) 12 Try.underlying29 hi hz0 hz1 _ _ _ _ n rfl rfl rfl rfl (by rw [hz2]; omega) (by unfold maxLen; omega) (Nat.le_refl _) ?_)
  intro w1 hown hgrow
  have hb1 : Below w.heap.size w w1 := (Below.refl _ _).grown hgrow (Nat.le_refl _) (fun k h => by cases h)
  go_wp2
  go_loopw [4] (fun i wr => ∃ (k : Nat) (cs : List Value) (ys : List Ev), ys.length = k ∧ k ≤ n ∧ i = .int .i64 k ∧ wr.ownsRow w.heap.size 48 12 (.slice (some ⟨w.heap.size, 0, none⟩) n n) n cs ∧ Te ys cs ∧ (∀ i (h : i < ys.length), ys[i].ao ≠ none ∧ ys[i].ho ≠ none ∧ ys[i].so ≠ none) ∧ (∀ i (h : i < ys.length) (h' : i < xs.length), ys[i].e = xs[i].e) ∧ (∀ i (h : i < ys.length), R3 wr w.heap.size wr.heap.size (.slice ys[i].ao ys[i].e.xs.length ys[i].ci) ys[i].e.xs.length (is ys[i].e.xs) (.slice ys[i].ho ys[i].e.hs.length ys[i].ch) ys[i].e.hs.length (mk.hs ys[i].e.hs) (.slice ys[i].so ys[i].e.rs.length ys[i].cs) ys[i].e.rs.length (ss ys[i].e.rs)) ∧ Below w.heap.size w wr) (fun i _ => n - (intOf i).toNat)
  case atStart => exact ⟨0, _, [], rfl, Nat.zero_le _, rfl, hown, fun i h => absurd h (by simp), fun i h => absurd h (by simp), fun i h => absurd h (by simp), fun i h => absurd h (by simp), hb1⟩
  case round =>
    clear hown hgrow hb1
    obtain ⟨k, cs, ys, hyk, hk, rfl, hown, hT, hN, hE, hR, hbel⟩ := hrel
    by_cases hlt : k < n
    · have hkx : k < xs.length := by have := HN.out; omega
      rcases HA.out.ex with h | ⟨g, o, rfl, hac⟩
      · omega
      have hcl := hown.1
      have HSZ : Hid (Se 1048576 xs[k].e) := HS.out k hkx
      have HE : Hid (Ae wr xs[k].e xs[k].ao xs[k].ho xs[k].so) := (HA.out.each k hkx).keep hbel
      obtain ⟨q0, q1, q2, q3, q4, q5, q6, q7, q8, q9, q10, q11⟩ := hac k hkx
      have c0 := (hbel.cell (cell_lt q0)).trans q0
      have c1 := (hbel.cell (cell_lt q1)).trans q1
      have c2 := (hbel.cell (cell_lt q2)).trans q2
      have c3 := (hbel.cell (cell_lt q3)).trans q3
      have c4 := (hbel.cell (cell_lt q4)).trans q4
      have c5 := (hbel.cell (cell_lt q5)).trans q5
      have c6 := (hbel.cell (cell_lt q6)).trans q6
      have c7 := (hbel.cell (cell_lt q7)).trans q7
      have c8 := (hbel.cell (cell_lt q8)).trans q8
      have c9 := (hbel.cell (cell_lt q9)).trans q9
      have c10 := (hbel.cell (cell_lt q10)).trans q10
      have c11 := (hbel.cell (cell_lt q11)).trans q11
      clear hac q0 q1 q2 q3 q4 q5 q6 q7 q8 q9 q10 q11
      revert HSZ HE c0 c1 c2 c3 c4 c5 c6 c7 c8 c9 c10 c11
      generalize hx : xs[k] = x
      have HX : Hid (xs[k] = x) := hx
      clear hx
      obtain ⟨e, p0, p1, p2, p3, p4, p5⟩ := x
      intro HSZ HE c0 c1 c2 c3 c4 c5 c6 c7 c8 c9 c10 c11
      simp only at HSZ HE c0 c1 c2 c3 c4 c5 c6 c7 c8 c9 c10 c11
      have HW : Hid (wr.ownsRow w.heap.size 48 12 (.slice (some ⟨w.heap.size, 0, none⟩) n n) n cs) := hown
      have HT : Hid (Te ys cs) := hT
      have HNN : Hid (∀ i (h : i < ys.length), ys[i].ao ≠ none ∧ ys[i].ho ≠ none ∧ ys[i].so ≠ none) := hN
      have HEE : Hid (∀ i (h : i < ys.length) (h' : i < xs.length), ys[i].e = xs[i].e) := hE
      have HRR : Hid (∀ i (h : i < ys.length), R3 wr w.heap.size wr.heap.size (.slice ys[i].ao ys[i].e.xs.length ys[i].ci) ys[i].e.xs.length (is ys[i].e.xs) (.slice ys[i].ho ys[i].e.hs.length ys[i].ch) ys[i].e.hs.length (mk.hs ys[i].e.hs) (.slice ys[i].so ys[i].e.rs.length ys[i].cs) ys[i].e.rs.length (ss ys[i].e.rs)) := hR
      have HYK : Hid (ys.length = k) := hyk
      clear hown hT hN hE hR hyk
      go_wp2_with (go_at_call 27; refine (toEnd_any e p0 p2 p4 p1 p3 p5 _ HSZ.out HE.out).mono ?_; rintro e' w2 ⟨⟨g2, k2, q2, rfl, u1, u2, u3⟩, hb2⟩; (have ho2 := HW.out.kept (grow_below none hb2) (.inr (by simp [Value.ownBlock]))); (have e0 := ho2.cellAt (k * 12) (by omega)); (have e1 := ho2.cellAt (k * 12 + 1) (by omega)); (have e2 := ho2.cellAt (k * 12 + 2) (by omega)); (have e3 := ho2.cellAt (k * 12 + 3) (by omega)); (have e4 := ho2.cellAt (k * 12 + 4) (by omega)); (have e5 := ho2.cellAt (k * 12 + 5) (by omega)); (have e6 := ho2.cellAt (k * 12 + 6) (by omega)); (have e7 := ho2.cellAt (k * 12 + 7) (by omega)); (have e8 := ho2.cellAt (k * 12 + 8) (by omega)); (have e9 := ho2.cellAt (k * 12 + 9) (by omega)); (have e10 := ho2.cellAt (k * 12 + 10) (by omega)); (have e11 := ho2.cellAt (k * 12 + 11) (by omega)); (rw [List.getElem?_eq_getElem (by omega)] at e0 e1 e2 e3 e4 e5 e6 e7 e8 e9 e10 e11); (have f0 := ho2.frozenAt (k * 12)); (have f1 := ho2.frozenAt (k * 12 + 1)); (have f2 := ho2.frozenAt (k * 12 + 2)); (have f3 := ho2.frozenAt (k * 12 + 3)); (have f4 := ho2.frozenAt (k * 12 + 4)); (have f5 := ho2.frozenAt (k * 12 + 5)); (have f6 := ho2.frozenAt (k * 12 + 6)); (have f7 := ho2.frozenAt (k * 12 + 7)); (have f8 := ho2.frozenAt (k * 12 + 8)); (have f9 := ho2.frozenAt (k * 12 + 9)); (have f10 := ho2.frozenAt (k * 12 + 10)); (have f11 := ho2.frozenAt (k * 12 + 11)))
      go_roundw
      case rel =>
        have hyk := HYK.out
        subst hyk
        have gw := grown_putE w2 w.heap.size ys.length (.int .i64 (⟨e, some ⟨g2, 0, none⟩, e.xs.length, some ⟨k2, 0, none⟩, e.hs.length, some ⟨q2, 0, none⟩, e.rs.length⟩ : Ev).e.num) (.bool (⟨e, some ⟨g2, 0, none⟩, e.xs.length, some ⟨k2, 0, none⟩, e.hs.length, some ⟨q2, 0, none⟩, e.rs.length⟩ : Ev).e.up) (.int .i64 (⟨e, some ⟨g2, 0, none⟩, e.xs.length, some ⟨k2, 0, none⟩, e.hs.length, some ⟨q2, 0, none⟩, e.rs.length⟩ : Ev).e.life) (.int .i64 (⟨e, some ⟨g2, 0, none⟩, e.xs.length, some ⟨k2, 0, none⟩, e.hs.length, some ⟨q2, 0, none⟩, e.rs.length⟩ : Ev).e.peer) (.int .i64 (⟨e, some ⟨g2, 0, none⟩, e.xs.length, some ⟨k2, 0, none⟩, e.hs.length, some ⟨q2, 0, none⟩, e.rs.length⟩ : Ev).e.since) (.bool (⟨e, some ⟨g2, 0, none⟩, e.xs.length, some ⟨k2, 0, none⟩, e.hs.length, some ⟨q2, 0, none⟩, e.rs.length⟩ : Ev).e.owes) (.int .i64 (⟨e, some ⟨g2, 0, none⟩, e.xs.length, some ⟨k2, 0, none⟩, e.hs.length, some ⟨q2, 0, none⟩, e.rs.length⟩ : Ev).e.b) (.slice (⟨e, some ⟨g2, 0, none⟩, e.xs.length, some ⟨k2, 0, none⟩, e.hs.length, some ⟨q2, 0, none⟩, e.rs.length⟩ : Ev).ao (⟨e, some ⟨g2, 0, none⟩, e.xs.length, some ⟨k2, 0, none⟩, e.hs.length, some ⟨q2, 0, none⟩, e.rs.length⟩ : Ev).e.xs.length (⟨e, some ⟨g2, 0, none⟩, e.xs.length, some ⟨k2, 0, none⟩, e.hs.length, some ⟨q2, 0, none⟩, e.rs.length⟩ : Ev).ci) (.int .i64 (⟨e, some ⟨g2, 0, none⟩, e.xs.length, some ⟨k2, 0, none⟩, e.hs.length, some ⟨q2, 0, none⟩, e.rs.length⟩ : Ev).e.nx) (.slice (⟨e, some ⟨g2, 0, none⟩, e.xs.length, some ⟨k2, 0, none⟩, e.hs.length, some ⟨q2, 0, none⟩, e.rs.length⟩ : Ev).ho (⟨e, some ⟨g2, 0, none⟩, e.xs.length, some ⟨k2, 0, none⟩, e.hs.length, some ⟨q2, 0, none⟩, e.rs.length⟩ : Ev).e.hs.length (⟨e, some ⟨g2, 0, none⟩, e.xs.length, some ⟨k2, 0, none⟩, e.hs.length, some ⟨q2, 0, none⟩, e.rs.length⟩ : Ev).ch) (.string (⟨e, some ⟨g2, 0, none⟩, e.xs.length, some ⟨k2, 0, none⟩, e.hs.length, some ⟨q2, 0, none⟩, e.rs.length⟩ : Ev).e.o) (.slice (⟨e, some ⟨g2, 0, none⟩, e.xs.length, some ⟨k2, 0, none⟩, e.hs.length, some ⟨q2, 0, none⟩, e.rs.length⟩ : Ev).so (⟨e, some ⟨g2, 0, none⟩, e.xs.length, some ⟨k2, 0, none⟩, e.hs.length, some ⟨q2, 0, none⟩, e.rs.length⟩ : Ev).e.rs.length (⟨e, some ⟨g2, 0, none⟩, e.xs.length, some ⟨k2, 0, none⟩, e.hs.length, some ⟨q2, 0, none⟩, e.rs.length⟩ : Ev).cs)
        refine ⟨ys.length + 1, _, ys ++ [⟨e, some ⟨g2, 0, none⟩, e.xs.length, some ⟨k2, 0, none⟩, e.hs.length, some ⟨q2, 0, none⟩, e.rs.length⟩], by simp, by omega, by go_num, owns_putE ho2 ys.length _ _ _ _ _ _ _ _ _ _ _ _, HT.out.step (by omega), ?_, ?_, ?_, below_putE (hbel.trans (hb2.mono hbel.size)) (Nat.le_refl _) ys.length _ _ _ _ _ _ _ _ _ _ _ _⟩
        · intro j hj
          rcases Nat.lt_or_ge j ys.length with h1 | h1
          · rw [List.getElem_append_left h1]; exact HNN.out j h1
          · obtain rfl : j = ys.length := by simp at hj; omega
            rw [List.getElem_append_right (Nat.le_refl _)]
            simp
        · intro j hj hj'
          rcases Nat.lt_or_ge j ys.length with h1 | h1
          · rw [List.getElem_append_left h1]; exact HEE.out j h1 hj'
          · obtain rfl : j = ys.length := by simp at hj; omega
            rw [List.getElem_append_right (Nat.le_refl _), HX.out]
            simp
        · intro j hj
          rcases Nat.lt_or_ge j ys.length with h1 | h1
          · rw [List.getElem_append_left h1]
            exact (((HRR.out j h1).keep hb2).row ho2 gw).lo (Nat.le_refl _) (Nat.le_trans hb2.size gw.size)
          · obtain rfl : j = ys.length := by simp at hj; omega
            rw [List.getElem_append_right (Nat.le_refl _)]
            simp only [Nat.sub_self, List.getElem_cons_zero]
            exact ((R3.of u1 u2 u3).row ho2 gw).lo hbel.size gw.size
      case measure => simp [intOf]; omega
    · obtain rfl : k = n := by omega
      subst hyk
      have hcs := hT.all hown.1
      subst hcs
      have hw : ∀ r, (Value.slice (some ⟨w.heap.size, 0, none⟩) ys.length ys.length).ownBlock = some r → r < wr.heap.size := fun r e => (hown.lt r e).2
      go_wp2
      go_ret
      exact ⟨⟨w.heap.size, ys, ⟨HN.out, fun i a b => hE i b a⟩, hN, rfl, ⟨⟨hown, hw⟩, hR⟩⟩, hbel⟩
end Go.Proofs.Ytmliinglojmojab.mk

import Derived.Test.YtmliinglojmojabRows
import Derived.WalkKit
import Derived.ProofKit
import Derived.OpenShut
import Derived.ShutString
import Derived.ChangeOld
import Derived.Below
import Derived.Deep.SlicePairs
import Derived.Test.YtmliinglojmojabBase
/-
  AN ARGUMENT THAT IS A SEND, OPENED.
-/
namespace Go.Proofs.Ytmliinglojmojab.opened
open Go.ChangeShapes Go.WideShapes Go.ChangeAt Go.RowKit

theorem cI : Try.prog.cellsOf 3 = 1 := by kernel_rfl
theorem cB : Try.prog.cellsOf 4 = 1 := by kernel_rfl
theorem cS : Try.prog.cellsOf 9 = 1 := by kernel_rfl
theorem cPart : Try.prog.cellsOf 114 = 2 := by kernel_rfl
theorem cItem : Try.prog.cellsOf 116 = 4 := by kernel_rfl
theorem cItems : Try.prog.cellsOf 57 = 1 := by kernel_rfl
theorem cSend : Try.prog.cellsOf 59 = 2 := by kernel_rfl
theorem plainAddr {w : World} {a : Addr} {v : Value} (h : w.cell? a = some v) : a = ⟨a.block, a.off, none⟩ := by
  obtain ⟨b, o, s⟩ := a
  cases s with
  | none => rfl
  | some s =>
    unfold World.cell? at h
    split at h <;> simp at h
theorem addPlain (g o n : Nat) : (⟨g, o, none⟩ : Addr).add n = ⟨g, o + n, none⟩ := by
  unfold Addr.add; split <;> simp_all
theorem getLen {α : Type} {xs : List α} {n i : Nat} (h : xs.length = n) (hi : i < n) : ∃ y, xs[i]? = some y := by
  subst h
  exact ⟨xs[i], by simp [hi]⟩
theorem list4 {α : Type} {cs : List α} (h : cs.length = 4) : ∃ c0 c1 c2 c3, cs = [c0, c1, c2, c3] := by
  match cs, h with
  | [c0, c1, c2, c3], _ => exact ⟨c0, c1, c2, c3, rfl⟩
theorem array2 {α : Type} {cs : Array α} (h : cs.size = 2) : ∃ c0 c1, cs = #[c0, c1] := by
  obtain ⟨l⟩ := cs
  match l, h with
  | [c0, c1], _ => exact ⟨c0, c1, rfl⟩
set_option maxRecDepth 100000 in
theorem item {H : Type} {enc : TypeId × Value → H} {W : World} {base : Nat} {spare : Nat → Bool} {held : Bool} {fuel : Nat} {cs : List Value} {x : DataW H × List MemPlace} (hl : cs.length = 4)
    (h : DataW.trod enc Try.prog W base spare held fuel 116 cs = some x) : ∃ q : mk.It, cs = q.vals ∧ q.text.size ≤ maxLen := by
  obtain ⟨c0, c1, c2, c3, rfl⟩ := list4 hl
  obtain ⟨ys, n, _, _, _, hlen, hff⟩ := DataW.trod_struct Try.underlying116 h
  obtain ⟨y0, g0⟩ := getLen (i := 0) hlen (by decide)
  obtain ⟨y1, g1⟩ := getLen (i := 1) hlen (by decide)
  obtain ⟨y2, g2⟩ := getLen (i := 2) hlen (by decide)
  have f0 := (hff 0 _ rfl).trans g0
  obtain ⟨zs, n', _, _, _, hlen', hff'⟩ := DataW.trod_struct Try.underlying114 f0
  obtain ⟨z0, k0⟩ := getLen (i := 0) hlen' (by decide)
  obtain ⟨z1, k1⟩ := getLen (i := 1) hlen' (by decide)
  obtain ⟨s, e0, -, hm⟩ := DataW.trod_string Try.underlying9 ((hff' 0 _ rfl).trans k0)
  obtain ⟨l, e1, -⟩ := DataW.trod_bool Try.underlying4 ((hff' 1 _ rfl).trans k1)
  obtain ⟨hh, e2, -⟩ := DataW.trod_bool Try.underlying4 ((hff 1 _ rfl).trans g1)
  obtain ⟨z, e3, -⟩ := DataW.trod_int Try.underlying3 ((hff 2 _ rfl).trans g2)
  simp [cI, cB, cS, cPart] at e0 e1 e2 e3
  subst e0 e1 e2 e3
  exact ⟨⟨s, l, hh, z⟩, rfl, hm⟩
set_option maxRecDepth 100000 in
theorem send {H : Type} {enc : TypeId × Value → H} {W : World} {base : Nat} {spare : Nat → Bool} {held : Bool} {r : Reach} {b0 : Nat} {v : Value} {d : DataW H} {p : List MemPlace}
    (hv : Value.okWide Try.prog W r b0 59 v) (h : DataW.Trod enc Try.prog W base spare held 59 v d p) :
    ∃ (b : Int) (ao : Option Addr) (cap : Nat) (xs : List mk.It), v = .agg #[.int .i64 b, .slice ao xs.length cap] ∧ mk.Ai W ao xs ∧ xs.length ≤ maxLen ∧ (∀ i (h : i < xs.length), xs[i].text.size ≤ maxLen) := by
  obtain ⟨cs, rfl, hsz⟩ := okWide_struct Try.underlying59 hv
  obtain ⟨c0, c1, rfl⟩ := array2 (hsz.trans cSend)
  obtain ⟨fuel, hf⟩ := h
  obtain ⟨ys, n, _, _, _, hlen, hff⟩ := DataW.trod_struct Try.underlying59 hf
  obtain ⟨y0, g0⟩ := getLen (i := 0) hlen (by decide)
  obtain ⟨y1, g1⟩ := getLen (i := 1) hlen (by decide)
  obtain ⟨b, e0, -⟩ := DataW.trod_int Try.underlying3 ((hff 0 _ rfl).trans g0)
  have f1 := (hff 1 _ rfl).trans g1
  simp [Value.cells, cI, cItems] at e0 f1
  subst e0
  rcases Go.Deep.open_slice Try.underlying57 f1 with ⟨hc, _⟩ | ⟨a, len, cap, m, k, D, Pl, hc, _, hl, hm, hmm, _, hall⟩
  · simp at hc
    subst hc
    exact ⟨b, none, 0, [], rfl, ⟨.inl rfl⟩, Nat.zero_le _, fun i h => absurd h (by simp)⟩
  · simp at hc
    subst hc
    rw [cItem] at hall
    have hlm : len ≤ m := by rw [hmm]; split <;> omega
    have each : ∀ i, i < len → ∃ q : mk.It, W.cell? (a.add (i * 4)) = some (.string q.text) ∧ W.cell? (a.add (i * 4 + 1)) = some (.bool q.last) ∧ W.cell? (a.add (i * 4 + 2)) = some (.bool q.has) ∧ W.cell? (a.add (i * 4 + 3)) = some (.int .i64 q.since) ∧ q.text.size ≤ maxLen := by
      intro i hi
      obtain ⟨cs', h1, h2⟩ := hall i (by omega)
      obtain ⟨_, hl4, hcell⟩ := World.cells?_some h1
      obtain ⟨q, rfl, hq⟩ := item hl4 h2
      have q0 := hcell 0 (by omega)
      have q1 := hcell 1 (by omega)
      have q2 := hcell 2 (by omega)
      have q3 := hcell 3 (by omega)
      rw [Go.Deep.add_add] at q0 q1 q2 q3
      exact ⟨q, q0, q1, q2, q3, hq⟩
    obtain ⟨q, hq⟩ := Go.Deep.choose_lt each
    refine ⟨b, some a, cap, (List.range len).map q, by simp, ⟨?_⟩, by simp; omega, fun i hi => ?_⟩
    · rcases Nat.eq_zero_or_pos len with h0 | h0
      · exact .inl (by simp [h0])
      · have hp := plainAddr (a := a) (by simpa [Addr.add] using (hq 0 h0).1)
        refine .inr ⟨a.block, a.off, by rw [← hp], fun i hi => ?_⟩
        have hi' : i < len := by simpa using hi
        have h1 := hq i hi'
        rw [hp, addPlain, addPlain, addPlain, addPlain] at h1
        simp only [List.getElem_map, List.getElem_range]
        exact ⟨h1.1, h1.2.1, h1.2.2.1, h1.2.2.2.1⟩
    · have hi' : i < len := by simpa using hi
      simp only [List.getElem_map, List.getElem_range]
      exact (hq i hi').2.2.2.2
end Go.Proofs.Ytmliinglojmojab.opened
/-
  AN ARGUMENT THAT IS A TAKE, OPENED.
-/
namespace Go.Proofs.Ytmliinglojmojab.openedT
open Go.ChangeShapes Go.WideShapes Go.ChangeAt Go.RowKit

theorem cI : Try.prog.cellsOf 3 = 1 := by kernel_rfl
theorem cB : Try.prog.cellsOf 4 = 1 := by kernel_rfl
theorem cS : Try.prog.cellsOf 9 = 1 := by kernel_rfl
theorem cPart : Try.prog.cellsOf 114 = 2 := by kernel_rfl
theorem cHeld : Try.prog.cellsOf 119 = 3 := by kernel_rfl
theorem cHelds : Try.prog.cellsOf 60 = 1 := by kernel_rfl
theorem cStrs : Try.prog.cellsOf 44 = 1 := by kernel_rfl
theorem cTake : Try.prog.cellsOf 62 = 4 := by kernel_rfl
theorem plainAddr {w : World} {a : Addr} {v : Value} (h : w.cell? a = some v) : a = ⟨a.block, a.off, none⟩ := by
  obtain ⟨b, o, s⟩ := a
  cases s with
  | none => rfl
  | some s =>
    unfold World.cell? at h
    split at h <;> simp at h
theorem addPlain (g o n : Nat) : (⟨g, o, none⟩ : Addr).add n = ⟨g, o + n, none⟩ := by
  unfold Addr.add; split <;> simp_all
theorem getLen {α : Type} {xs : List α} {n i : Nat} (h : xs.length = n) (hi : i < n) : ∃ y, xs[i]? = some y := by
  subst h
  exact ⟨xs[i], by simp [hi]⟩
theorem list1 {α : Type} {cs : List α} (h : cs.length = 1) : ∃ c0, cs = [c0] := by
  match cs, h with
  | [c0], _ => exact ⟨c0, rfl⟩
theorem list3 {α : Type} {cs : List α} (h : cs.length = 3) : ∃ c0 c1 c2, cs = [c0, c1, c2] := by
  match cs, h with
  | [c0, c1, c2], _ => exact ⟨c0, c1, c2, rfl⟩
theorem array4 {α : Type} {cs : Array α} (h : cs.size = 4) : ∃ c0 c1 c2 c3, cs = #[c0, c1, c2, c3] := by
  obtain ⟨l⟩ := cs
  match l, h with
  | [c0, c1, c2, c3], _ => exact ⟨c0, c1, c2, c3, rfl⟩
set_option maxRecDepth 100000 in
theorem heldPart {H : Type} {enc : TypeId × Value → H} {W : World} {base : Nat} {spare : Nat → Bool} {held : Bool} {fuel : Nat} {cs : List Value} {x : DataW H × List MemPlace} (hl : cs.length = 3)
    (h : DataW.trod enc Try.prog W base spare held fuel 119 cs = some x) : ∃ q : mk.Hd, cs = q.vals ∧ q.text.size ≤ maxLen := by
  obtain ⟨c0, c1, c2, rfl⟩ := list3 hl
  obtain ⟨ys, n, _, _, _, hlen, hff⟩ := DataW.trod_struct Try.underlying119 h
  obtain ⟨y0, g0⟩ := getLen (i := 0) hlen (by decide)
  obtain ⟨y1, g1⟩ := getLen (i := 1) hlen (by decide)
  obtain ⟨z, e0, -⟩ := DataW.trod_int Try.underlying3 ((hff 0 _ rfl).trans g0)
  have f1 := (hff 1 _ rfl).trans g1
  obtain ⟨zs, n', _, _, _, hlen', hff'⟩ := DataW.trod_struct Try.underlying114 f1
  obtain ⟨z0, k0⟩ := getLen (i := 0) hlen' (by decide)
  obtain ⟨z1, k1⟩ := getLen (i := 1) hlen' (by decide)
  obtain ⟨s, e1, -, hm⟩ := DataW.trod_string Try.underlying9 ((hff' 0 _ rfl).trans k0)
  obtain ⟨l, e2, -⟩ := DataW.trod_bool Try.underlying4 ((hff' 1 _ rfl).trans k1)
  simp [cI, cB, cS, cPart] at e0 e1 e2
  subst e0 e1 e2
  exact ⟨⟨z, s, l⟩, rfl, hm⟩
set_option maxRecDepth 100000 in
theorem oneText {H : Type} {enc : TypeId × Value → H} {W : World} {base : Nat} {spare : Nat → Bool} {held : Bool} {fuel : Nat} {cs : List Value} {x : DataW H × List MemPlace} (hl : cs.length = 1)
    (h : DataW.trod enc Try.prog W base spare held fuel 9 cs = some x) : ∃ q : ByteArray, cs = [.string q] ∧ q.size ≤ maxLen := by
  obtain ⟨c0, rfl⟩ := list1 hl
  obtain ⟨s, e1, -, hm⟩ := DataW.trod_string Try.underlying9 h
  simp at e1
  subst e1
  exact ⟨s, rfl, hm⟩
set_option maxRecDepth 100000 in
theorem helds {H : Type} {enc : TypeId × Value → H} {W : World} {base : Nat} {spare : Nat → Bool} {held : Bool} {fuel : Nat} {v : Value} {x : DataW H × List MemPlace} (h : DataW.trod enc Try.prog W base spare held fuel 60 [v] = some x) :
    ∃ (ao : Option Addr) (cap : Nat) (xs : List mk.Hd), v = .slice ao xs.length cap ∧ mk.Ah W ao xs ∧ xs.length ≤ maxLen ∧ (∀ i (h : i < xs.length), xs[i].text.size ≤ maxLen) := by
  rcases Go.Deep.open_slice Try.underlying60 h with ⟨hc, _⟩ | ⟨a, len, cap, m, k, D, Pl, hc, _, hl, hm, hmm, _, hall⟩
  · simp at hc
    subst hc
    exact ⟨none, 0, [], rfl, ⟨.inl rfl⟩, Nat.zero_le _, fun i h => absurd h (by simp)⟩
  · simp at hc
    subst hc
    rw [cHeld] at hall
    have hlm : len ≤ m := by rw [hmm]; split <;> omega
    have each : ∀ i, i < len → ∃ q : mk.Hd, W.cell? (a.add (i * 3)) = some (.int .i64 q.seq) ∧ W.cell? (a.add (i * 3 + 1)) = some (.string q.text) ∧ W.cell? (a.add (i * 3 + 2)) = some (.bool q.last) ∧ q.text.size ≤ maxLen := by
      intro i hi
      obtain ⟨cs', h1, h2⟩ := hall i (by omega)
      obtain ⟨_, hl4, hcell⟩ := World.cells?_some h1
      obtain ⟨q, rfl, hq⟩ := heldPart hl4 h2
      have q0 := hcell 0 (by omega)
      have q1 := hcell 1 (by omega)
      have q2 := hcell 2 (by omega)
      rw [Go.Deep.add_add] at q0 q1 q2
      exact ⟨q, q0, q1, q2, hq⟩
    obtain ⟨q, hq⟩ := Go.Deep.choose_lt each
    refine ⟨some a, cap, (List.range len).map q, by simp, ⟨?_⟩, by simp; omega, fun i hi => ?_⟩
    · rcases Nat.eq_zero_or_pos len with h0 | h0
      · exact .inl (by simp [h0])
      · have hp := plainAddr (a := a) (by simpa [Addr.add] using (hq 0 h0).1)
        refine .inr ⟨a.block, a.off, by rw [← hp], fun i hi => ?_⟩
        have hi' : i < len := by simpa using hi
        have h1 := hq i hi'
        rw [hp, addPlain, addPlain, addPlain] at h1
        simp only [List.getElem_map, List.getElem_range]
        exact ⟨h1.1, h1.2.1, h1.2.2.1⟩
    · have hi' : i < len := by simpa using hi
      simp only [List.getElem_map, List.getElem_range]
      exact (hq i hi').2.2.2
set_option maxRecDepth 100000 in
theorem texts {H : Type} {enc : TypeId × Value → H} {W : World} {base : Nat} {spare : Nat → Bool} {held : Bool} {fuel : Nat} {v : Value} {x : DataW H × List MemPlace} (h : DataW.trod enc Try.prog W base spare held fuel 44 [v] = some x) :
    ∃ (ao : Option Addr) (cap : Nat) (xs : List ByteArray), v = .slice ao xs.length cap ∧ mk.As W ao xs ∧ xs.length ≤ maxLen ∧ (∀ i (h : i < xs.length), xs[i].size ≤ maxLen) := by
  rcases Go.Deep.open_slice Try.underlying44 h with ⟨hc, _⟩ | ⟨a, len, cap, m, k, D, Pl, hc, _, hl, hm, hmm, _, hall⟩
  · simp at hc
    subst hc
    exact ⟨none, 0, [], rfl, ⟨.inl rfl⟩, Nat.zero_le _, fun i h => absurd h (by simp)⟩
  · simp at hc
    subst hc
    rw [cS] at hall
    have hlm : len ≤ m := by rw [hmm]; split <;> omega
    have each : ∀ i, i < len → ∃ q : ByteArray, W.cell? (a.add (i * 1)) = some (.string q) ∧ q.size ≤ maxLen := by
      intro i hi
      obtain ⟨cs', h1, h2⟩ := hall i (by omega)
      obtain ⟨_, hl4, hcell⟩ := World.cells?_some h1
      obtain ⟨q, rfl, hq⟩ := oneText hl4 h2
      have q0 := hcell 0 (by omega)
      rw [Go.Deep.add_add] at q0
      exact ⟨q, q0, hq⟩
    obtain ⟨q, hq⟩ := Go.Deep.choose_lt each
    refine ⟨some a, cap, (List.range len).map q, by simp, ⟨?_⟩, by simp; omega, fun i hi => ?_⟩
    · rcases Nat.eq_zero_or_pos len with h0 | h0
      · exact .inl (by simp [h0])
      · have hp := plainAddr (a := a) (by simpa [Addr.add] using (hq 0 h0).1)
        refine .inr ⟨a.block, a.off, by rw [← hp], fun i hi => ?_⟩
        have hi' : i < len := by simpa using hi
        have h1 := hq i hi'
        rw [hp, addPlain, Nat.mul_one] at h1
        simp only [List.getElem_map, List.getElem_range]
        exact h1.1
    · have hi' : i < len := by simpa using hi
      simp only [List.getElem_map, List.getElem_range]
      exact (hq i hi').2
set_option maxRecDepth 100000 in
theorem take {H : Type} {enc : TypeId × Value → H} {W : World} {base : Nat} {spare : Nat → Bool} {held : Bool} {r : Reach} {b0 : Nat} {v : Value} {d : DataW H} {p : List MemPlace}
    (hv : Value.okWide Try.prog W r b0 62 v) (h : DataW.Trod enc Try.prog W base spare held 62 v d p) :
    ∃ (nx : Int) (ao so : Option Addr) (ca cs : Nat) (xs : List mk.Hd) (o : ByteArray) (rs : List ByteArray), v = .agg #[.int .i64 nx, .slice ao xs.length ca, .string o, .slice so rs.length cs] ∧ mk.At W ao so xs rs ∧ mk.Sm maxLen xs o rs := by
  obtain ⟨cs, rfl, hsz⟩ := okWide_struct Try.underlying62 hv
  obtain ⟨c0, c1, c2, c3, rfl⟩ := array4 (hsz.trans cTake)
  obtain ⟨fuel, hf⟩ := h
  obtain ⟨ys, n, _, _, _, hlen, hff⟩ := DataW.trod_struct Try.underlying62 hf
  obtain ⟨y0, g0⟩ := getLen (i := 0) hlen (by decide)
  obtain ⟨y1, g1⟩ := getLen (i := 1) hlen (by decide)
  obtain ⟨y2, g2⟩ := getLen (i := 2) hlen (by decide)
  obtain ⟨y3, g3⟩ := getLen (i := 3) hlen (by decide)
  obtain ⟨nx, e0, -⟩ := DataW.trod_int Try.underlying3 ((hff 0 _ rfl).trans g0)
  have f1 := (hff 1 _ rfl).trans g1
  obtain ⟨o, e2, -, ho⟩ := DataW.trod_string Try.underlying9 ((hff 2 _ rfl).trans g2)
  have f3 := (hff 3 _ rfl).trans g3
  simp [Value.cells, cI, cHelds, cS, cStrs] at e0 f1 e2 f3
  subst e0 e2
  obtain ⟨ao, ca, xs, rfl, hA, hm, ht⟩ := helds f1
  obtain ⟨so, cs, rs, rfl, hB, hk, hr⟩ := texts f3
  exact ⟨nx, ao, so, ca, cs, xs, o, rs, rfl, ⟨hA, hB⟩, ⟨hm, ht, ho, hk, hr⟩⟩
end Go.Proofs.Ytmliinglojmojab.openedT

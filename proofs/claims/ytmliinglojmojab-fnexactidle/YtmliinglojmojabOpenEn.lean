/-
  AN ARGUMENT THAT IS AN END, OPENED.
-/
import Derived.Test.YtmliinglojmojabOpens
import Derived.Test.YtmliinglojmojabEnA
namespace Go.Proofs.Ytmliinglojmojab.openedE
open Go.ChangeShapes Go.WideShapes Go.ChangeAt Go.RowKit
open opened (getLen plainAddr addPlain cI cB cS cSend cItems)

theorem cTake : Try.prog.cellsOf 62 = 4 := by kernel_rfl
theorem cEnd : Try.prog.cellsOf 64 = 12 := by kernel_rfl
theorem array12 {α : Type} {cs : Array α} (h : cs.size = 12) : ∃ c0 c1 c2 c3 c4 c5 c6 c7 c8 c9 ca cb, cs = #[c0, c1, c2, c3, c4, c5, c6, c7, c8, c9, ca, cb] := by
  obtain ⟨l⟩ := cs
  match l, h with
  | [c0, c1, c2, c3, c4, c5, c6, c7, c8, c9, ca, cb], _ => exact ⟨c0, c1, c2, c3, c4, c5, c6, c7, c8, c9, ca, cb, rfl⟩
set_option maxRecDepth 100000 in
theorem sendC {H : Type} {enc : TypeId × Value → H} {W : World} {base : Nat} {spare : Nat → Bool} {held : Bool} {fuel : Nat} {c0 c1 : Value} {x : DataW H × List MemPlace}
    (hf : DataW.trod enc Try.prog W base spare held fuel 59 [c0, c1] = some x) :
    ∃ (b : Int) (ao : Option Addr) (cap : Nat) (xs : List mk.It), c0 = .int .i64 b ∧ c1 = .slice ao xs.length cap ∧ mk.Ai W ao xs ∧ xs.length ≤ maxLen ∧ (∀ i (h : i < xs.length), xs[i].text.size ≤ maxLen) := by
  obtain ⟨ys, n, _, _, _, hlen, hff⟩ := DataW.trod_struct Try.underlying59 hf
  obtain ⟨y0, g0⟩ := getLen (i := 0) hlen (by decide)
  obtain ⟨y1, g1⟩ := getLen (i := 1) hlen (by decide)
  obtain ⟨b, e0, -⟩ := DataW.trod_int Try.underlying3 ((hff 0 _ rfl).trans g0)
  have f1 := (hff 1 _ rfl).trans g1
  simp [cI, cItems] at e0 f1
  subst e0
  rcases Go.Deep.open_slice Try.underlying57 f1 with ⟨hc, _⟩ | ⟨a, len, cap, m, k, D, Pl, hc, _, hl, hm, hmm, _, hall⟩
  · simp at hc
    subst hc
    exact ⟨b, none, 0, [], rfl, rfl, ⟨.inl rfl⟩, Nat.zero_le _, fun i h => absurd h (by simp)⟩
  · simp at hc
    subst hc
    rw [opened.cItem] at hall
    have hlm : len ≤ m := by rw [hmm]; split <;> omega
    have each : ∀ i, i < len → ∃ q : mk.It, W.cell? (a.add (i * 4)) = some (.string q.text) ∧ W.cell? (a.add (i * 4 + 1)) = some (.bool q.last) ∧ W.cell? (a.add (i * 4 + 2)) = some (.bool q.has) ∧ W.cell? (a.add (i * 4 + 3)) = some (.int .i64 q.since) ∧ q.text.size ≤ maxLen := by
      intro i hi
      obtain ⟨cs', h1, h2⟩ := hall i (by omega)
      obtain ⟨_, hl4, hcell⟩ := World.cells?_some h1
      obtain ⟨q, rfl, hq⟩ := opened.item hl4 h2
      have q0 := hcell 0 (by omega)
      have q1 := hcell 1 (by omega)
      have q2 := hcell 2 (by omega)
      have q3 := hcell 3 (by omega)
      rw [Go.Deep.add_add] at q0 q1 q2 q3
      exact ⟨q, q0, q1, q2, q3, hq⟩
    obtain ⟨q, hq⟩ := Go.Deep.choose_lt each
    refine ⟨b, some a, cap, (List.range len).map q, rfl, by simp, ⟨?_⟩, by simp; omega, fun i hi => ?_⟩
    · rcases Nat.eq_zero_or_pos len with h0 | h0
      · exact .inl (by simp [h0])
      · have hp := plainAddr (a := a) (by simpa [Addr.add] using (hq 0 h0).1)
        refine .inr ⟨a.block, a.off, by rw [← hp], fun i hi => ?_⟩
        have hi' : i < len := by simpa using hi
        have h1 := hq i hi'
        rw [hp, addPlain, addPlain, addPlain, addPlain] at h1
        simp only [List.getElem_map, List.getElem_range]
        exact ⟨h1.1, h1.2.1, h1.2.2.1, h1.2.2.2.1⟩
    · have hi' : i < len := by simpa using hi
      simp only [List.getElem_map, List.getElem_range]
      exact (hq i hi').2.2.2.2
set_option maxRecDepth 100000 in
theorem takeC {H : Type} {enc : TypeId × Value → H} {W : World} {base : Nat} {spare : Nat → Bool} {held : Bool} {fuel : Nat} {c0 c1 c2 c3 : Value} {x : DataW H × List MemPlace}
    (hf : DataW.trod enc Try.prog W base spare held fuel 62 [c0, c1, c2, c3] = some x) :
    ∃ (nx : Int) (ao so : Option Addr) (ca cs : Nat) (xs : List mk.Hd) (o : ByteArray) (rs : List ByteArray), c0 = .int .i64 nx ∧ c1 = .slice ao xs.length ca ∧ c2 = .string o ∧ c3 = .slice so rs.length cs ∧ mk.At W ao so xs rs ∧ mk.Sm maxLen xs o rs := by
  obtain ⟨ys, n, _, _, _, hlen, hff⟩ := DataW.trod_struct Try.underlying62 hf
  obtain ⟨y0, g0⟩ := getLen (i := 0) hlen (by decide)
  obtain ⟨y1, g1⟩ := getLen (i := 1) hlen (by decide)
  obtain ⟨y2, g2⟩ := getLen (i := 2) hlen (by decide)
  obtain ⟨y3, g3⟩ := getLen (i := 3) hlen (by decide)
  obtain ⟨nx, e0, -⟩ := DataW.trod_int Try.underlying3 ((hff 0 _ rfl).trans g0)
  have f1 := (hff 1 _ rfl).trans g1
  obtain ⟨o, e2, -, ho⟩ := DataW.trod_string Try.underlying9 ((hff 2 _ rfl).trans g2)
  have f3 := (hff 3 _ rfl).trans g3
  simp [cI, openedT.cHelds, cS, openedT.cStrs] at e0 f1 e2 f3
  subst e0 e2
  obtain ⟨ao, ca, xs, rfl, hA, hm, ht⟩ := openedT.helds f1
  obtain ⟨so, cs, rs, rfl, hB, hk, hr⟩ := openedT.texts f3
  exact ⟨nx, ao, so, ca, cs, xs, o, rs, rfl, rfl, rfl, rfl, ⟨hA, hB⟩, ⟨hm, ht, ho, hk, hr⟩⟩
set_option maxRecDepth 100000 in
theorem endv {H : Type} {enc : TypeId × Value → H} {W : World} {base : Nat} {spare : Nat → Bool} {held : Bool} {r : Reach} {b0 : Nat} {v : Value} {d : DataW H} {p : List MemPlace}
    (hv : Value.okWide Try.prog W r b0 64 v) (h : DataW.Trod enc Try.prog W base spare held 64 v d p) :
    ∃ (e : mk.En) (ao ho so : Option Addr) (ci ch cs : Nat), v = e.val (.slice ao e.xs.length ci) (.slice ho e.hs.length ch) (.slice so e.rs.length cs) ∧ mk.Ae W e ao ho so ∧ mk.Se maxLen e := by
  obtain ⟨cs, rfl, hsz⟩ := okWide_struct Try.underlying64 hv
  obtain ⟨c0, c1, c2, c3, c4, c5, c6, c7, c8, c9, ca, cb, rfl⟩ := array12 (hsz.trans cEnd)
  obtain ⟨fuel, hf⟩ := h
  obtain ⟨ys, n, _, _, _, hlen, hff⟩ := DataW.trod_struct Try.underlying64 hf
  obtain ⟨y0, g0⟩ := getLen (i := 0) hlen (by decide)
  obtain ⟨y1, g1⟩ := getLen (i := 1) hlen (by decide)
  obtain ⟨y2, g2⟩ := getLen (i := 2) hlen (by decide)
  obtain ⟨y3, g3⟩ := getLen (i := 3) hlen (by decide)
  obtain ⟨y4, g4⟩ := getLen (i := 4) hlen (by decide)
  obtain ⟨y5, g5⟩ := getLen (i := 5) hlen (by decide)
  obtain ⟨y6, g6⟩ := getLen (i := 6) hlen (by decide)
  obtain ⟨y7, g7⟩ := getLen (i := 7) hlen (by decide)
  obtain ⟨a0, e0, -⟩ := DataW.trod_int Try.underlying3 ((hff 0 _ rfl).trans g0)
  obtain ⟨a1, e1, -⟩ := DataW.trod_bool Try.underlying4 ((hff 1 _ rfl).trans g1)
  obtain ⟨a2, e2, -⟩ := DataW.trod_int Try.underlying3 ((hff 2 _ rfl).trans g2)
  obtain ⟨a3, e3, -⟩ := DataW.trod_int Try.underlying3 ((hff 3 _ rfl).trans g3)
  obtain ⟨a4, e4, -⟩ := DataW.trod_int Try.underlying3 ((hff 4 _ rfl).trans g4)
  obtain ⟨a5, e5, -⟩ := DataW.trod_bool Try.underlying4 ((hff 5 _ rfl).trans g5)
  have f6 := (hff 6 _ rfl).trans g6
  have f7 := (hff 7 _ rfl).trans g7
  simp [Value.cells, cI, cB, cSend, cTake] at e0 e1 e2 e3 e4 e5 f6 f7
  subst e0 e1 e2 e3 e4 e5
  obtain ⟨b, ao, ci, xs, rfl, rfl, hai, hx, hxs⟩ := sendC f6
  obtain ⟨nx, ho, so, ch, cs, hs, o, rs, rfl, rfl, rfl, rfl, hat, hsm⟩ := takeC f7
  exact ⟨⟨a0, a1, a2, a3, a4, a5, b, xs, nx, hs, o, rs⟩, ao, ho, so, ci, ch, cs, rfl, ⟨hai, hat⟩, ⟨hx, hxs, hsm⟩⟩
end Go.Proofs.Ytmliinglojmojab.openedE

/-
  AN ARGUMENT THAT IS A WORLD, OPENED.
-/
import Derived.Test.YtmliinglojmojabOpenEn
import Derived.Test.YtmliinglojmojabWoA
namespace Go.Proofs.Ytmliinglojmojab.openedW
open Go.ChangeShapes Go.WideShapes Go.ChangeAt Go.RowKit
open opened (getLen plainAddr addPlain cI cB cS cSend cItems)
open openedE (cTake cEnd sendC takeC)

theorem cParcel : Try.prog.cellsOf 67 = 3 := by kernel_rfl
theorem cParcels : Try.prog.cellsOf 23 = 1 := by kernel_rfl
theorem listPc {α : Type} {cs : List α} (h : cs.length = 3) : ∃ c0 c1 c2, cs = [c0, c1, c2] := by
  match cs, h with
  | [c0, c1, c2], _ => exact ⟨c0, c1, c2, rfl⟩
set_option maxRecDepth 100000 in
theorem oneParcel {H : Type} {enc : TypeId × Value → H} {W : World} {base : Nat} {spare : Nat → Bool} {held : Bool} {fuel : Nat} {cs : List Value} {x : DataW H × List MemPlace} (hl : cs.length = 3)
    (h : DataW.trod enc Try.prog W base spare held fuel 67 cs = some x) : ∃ q : mk.Pc, cs = q.vals ∧ q.fits maxLen := by
  obtain ⟨c0, c1, c2, rfl⟩ := listPc hl
  obtain ⟨ys, n, _, _, _, hlen, hff⟩ := DataW.trod_struct Try.underlying67 h
  obtain ⟨y0, g0⟩ := getLen (i := 0) hlen (by decide)
  obtain ⟨y1, g1⟩ := getLen (i := 1) hlen (by decide)
  obtain ⟨y2, g2⟩ := getLen (i := 2) hlen (by decide)
  obtain ⟨v0, e0, -⟩ := DataW.trod_int Try.underlying3 ((hff 0 _ rfl).trans g0)
  obtain ⟨v1, e1, -, m1⟩ := DataW.trod_string Try.underlying9 ((hff 1 _ rfl).trans g1)
  obtain ⟨v2, e2, -, m2⟩ := DataW.trod_string Try.underlying9 ((hff 2 _ rfl).trans g2)
  simp [cI, cS] at e0 e1 e2
  subst e0 e1 e2
  exact ⟨⟨v0, v1, v2⟩, rfl, ⟨m1, m2⟩⟩
set_option maxRecDepth 100000 in
theorem parcels {H : Type} {enc : TypeId × Value → H} {W : World} {base : Nat} {spare : Nat → Bool} {held : Bool} {fuel : Nat} {v : Value} {x : DataW H × List MemPlace} (h : DataW.trod enc Try.prog W base spare held fuel 23 [v] = some x) :
    ∃ (ao : Option Addr) (cap : Nat) (xs : List mk.Pc), v = .slice ao xs.length cap ∧ mk.APc W ao xs ∧ xs.length ≤ maxLen ∧ (∀ i (h : i < xs.length), xs[i].fits maxLen) := by
  rcases Go.Deep.open_slice Try.underlying23 h with ⟨hc, _⟩ | ⟨a, len, cap, m, k, D, Pl, hc, _, hl, hm, hmm, _, hall⟩
  · simp at hc
    subst hc
    exact ⟨none, 0, [], rfl, ⟨.inl rfl⟩, Nat.zero_le _, fun i h => absurd h (by simp)⟩
  · simp at hc
    subst hc
    rw [cParcel] at hall
    have hlm : len ≤ m := by rw [hmm]; split <;> omega
    have each : ∀ i, i < len → ∃ q : mk.Pc, W.cell? (a.add (i * 3)) = some (.int .i64 q.to) ∧ W.cell? (a.add (i * 3 + 1)) = some (.string q.sent) ∧ W.cell? (a.add (i * 3 + 2)) = some (.string q.bytes) ∧ q.fits maxLen := by
      intro i hi
      obtain ⟨cs', h1, h2⟩ := hall i (by omega)
      obtain ⟨_, hl4, hcell⟩ := World.cells?_some h1
      obtain ⟨q, rfl, hq⟩ := oneParcel hl4 h2
      have q0 := hcell 0 (by omega)
      have q1 := hcell 1 (by omega)
      have q2 := hcell 2 (by omega)
      rw [Go.Deep.add_add] at q0 q1 q2
      exact ⟨q, q0, q1, q2, hq⟩
    obtain ⟨q, hq⟩ := Go.Deep.choose_lt each
    refine ⟨some a, cap, (List.range len).map q, by simp, ⟨?_⟩, by simp; omega, fun i hi => ?_⟩
    · rcases Nat.eq_zero_or_pos len with h0 | h0
      · exact .inl (by simp [h0])
      · have hp := plainAddr (a := a) (by simpa [Addr.add] using (hq 0 h0).1)
        refine .inr ⟨a.block, a.off, by rw [← hp], fun i hi => ?_⟩
        have hi' : i < len := by simpa using hi
        have h1 := hq i hi'
        rw [hp, addPlain, addPlain, addPlain] at h1
        simp only [List.getElem_map, List.getElem_range]
        exact ⟨h1.1, h1.2.1, h1.2.2.1⟩
    · have hi' : i < len := by simpa using hi
      simp only [List.getElem_map, List.getElem_range]
      exact (hq i hi').2.2.2
theorem cRecord : Try.prog.cellsOf 70 = 4 := by kernel_rfl
theorem cRecords : Try.prog.cellsOf 24 = 1 := by kernel_rfl
theorem listRc {α : Type} {cs : List α} (h : cs.length = 4) : ∃ c0 c1 c2 c3, cs = [c0, c1, c2, c3] := by
  match cs, h with
  | [c0, c1, c2, c3], _ => exact ⟨c0, c1, c2, c3, rfl⟩
set_option maxRecDepth 100000 in
theorem oneRecord {H : Type} {enc : TypeId × Value → H} {W : World} {base : Nat} {spare : Nat → Bool} {held : Bool} {fuel : Nat} {cs : List Value} {x : DataW H × List MemPlace} (hl : cs.length = 4)
    (h : DataW.trod enc Try.prog W base spare held fuel 70 cs = some x) : ∃ q : mk.Rc, cs = q.vals ∧ q.fits maxLen := by
  obtain ⟨c0, c1, c2, c3, rfl⟩ := listRc hl
  obtain ⟨ys, n, _, _, _, hlen, hff⟩ := DataW.trod_struct Try.underlying70 h
  obtain ⟨y0, g0⟩ := getLen (i := 0) hlen (by decide)
  obtain ⟨y1, g1⟩ := getLen (i := 1) hlen (by decide)
  obtain ⟨y2, g2⟩ := getLen (i := 2) hlen (by decide)
  obtain ⟨y3, g3⟩ := getLen (i := 3) hlen (by decide)
  obtain ⟨v0, e0, -⟩ := DataW.trod_int Try.underlying3 ((hff 0 _ rfl).trans g0)
  obtain ⟨v1, e1, -⟩ := DataW.trod_int Try.underlying3 ((hff 1 _ rfl).trans g1)
  obtain ⟨v2, e2, -⟩ := DataW.trod_int Try.underlying3 ((hff 2 _ rfl).trans g2)
  obtain ⟨v3, e3, -, m3⟩ := DataW.trod_string Try.underlying9 ((hff 3 _ rfl).trans g3)
  simp [cI, cS] at e0 e1 e2 e3
  subst e0 e1 e2 e3
  exact ⟨⟨v0, v1, v2, v3⟩, rfl, m3⟩
set_option maxRecDepth 100000 in
theorem records {H : Type} {enc : TypeId × Value → H} {W : World} {base : Nat} {spare : Nat → Bool} {held : Bool} {fuel : Nat} {v : Value} {x : DataW H × List MemPlace} (h : DataW.trod enc Try.prog W base spare held fuel 24 [v] = some x) :
    ∃ (ao : Option Addr) (cap : Nat) (xs : List mk.Rc), v = .slice ao xs.length cap ∧ mk.ARc W ao xs ∧ xs.length ≤ maxLen ∧ (∀ i (h : i < xs.length), xs[i].fits maxLen) := by
  rcases Go.Deep.open_slice Try.underlying24 h with ⟨hc, _⟩ | ⟨a, len, cap, m, k, D, Pl, hc, _, hl, hm, hmm, _, hall⟩
  · simp at hc
    subst hc
    exact ⟨none, 0, [], rfl, ⟨.inl rfl⟩, Nat.zero_le _, fun i h => absurd h (by simp)⟩
  · simp at hc
    subst hc
    rw [cRecord] at hall
    have hlm : len ≤ m := by rw [hmm]; split <;> omega
    have each : ∀ i, i < len → ∃ q : mk.Rc, W.cell? (a.add (i * 4)) = some (.int .i64 q.frm) ∧ W.cell? (a.add (i * 4 + 1)) = some (.int .i64 q.a) ∧ W.cell? (a.add (i * 4 + 2)) = some (.int .i64 q.b) ∧ W.cell? (a.add (i * 4 + 3)) = some (.string q.text) ∧ q.fits maxLen := by
      intro i hi
      obtain ⟨cs', h1, h2⟩ := hall i (by omega)
      obtain ⟨_, hl4, hcell⟩ := World.cells?_some h1
      obtain ⟨q, rfl, hq⟩ := oneRecord hl4 h2
      have q0 := hcell 0 (by omega)
      have q1 := hcell 1 (by omega)
      have q2 := hcell 2 (by omega)
      have q3 := hcell 3 (by omega)
      rw [Go.Deep.add_add] at q0 q1 q2 q3
      exact ⟨q, q0, q1, q2, q3, hq⟩
    obtain ⟨q, hq⟩ := Go.Deep.choose_lt each
    refine ⟨some a, cap, (List.range len).map q, by simp, ⟨?_⟩, by simp; omega, fun i hi => ?_⟩
    · rcases Nat.eq_zero_or_pos len with h0 | h0
      · exact .inl (by simp [h0])
      · have hp := plainAddr (a := a) (by simpa [Addr.add] using (hq 0 h0).1)
        refine .inr ⟨a.block, a.off, by rw [← hp], fun i hi => ?_⟩
        have hi' : i < len := by simpa using hi
        have h1 := hq i hi'
        rw [hp, addPlain, addPlain, addPlain, addPlain] at h1
        simp only [List.getElem_map, List.getElem_range]
        exact ⟨h1.1, h1.2.1, h1.2.2.1, h1.2.2.2.1⟩
    · have hi' : i < len := by simpa using hi
      simp only [List.getElem_map, List.getElem_range]
      exact (hq i hi').2.2.2.2
instance : Inhabited mk.Ev := ⟨⟨⟨0, false, 0, 0, 0, false, 0, [], 0, [], ⟨#[]⟩, []⟩, none, 0, none, 0, none, 0⟩⟩
theorem cEnds : Try.prog.cellsOf 22 = 1 := by kernel_rfl
theorem list12 {α : Type} {cs : List α} (h : cs.length = 12) : ∃ c0 c1 c2 c3 c4 c5 c6 c7 c8 c9 ca cb, cs = [c0, c1, c2, c3, c4, c5, c6, c7, c8, c9, ca, cb] := by
  match cs, h with
  | [c0, c1, c2, c3, c4, c5, c6, c7, c8, c9, ca, cb], _ => exact ⟨c0, c1, c2, c3, c4, c5, c6, c7, c8, c9, ca, cb, rfl⟩
set_option maxRecDepth 100000 in
theorem oneEnd {H : Type} {enc : TypeId × Value → H} {W : World} {base : Nat} {spare : Nat → Bool} {held : Bool} {fuel : Nat} {cs : List Value} {x : DataW H × List MemPlace} (hl : cs.length = 12)
    (hf : DataW.trod enc Try.prog W base spare held fuel 64 cs = some x) : ∃ q : mk.Ev, cs = q.vals ∧ mk.Ae W q.e q.ao q.ho q.so ∧ mk.Se maxLen q.e := by
  obtain ⟨c0, c1, c2, c3, c4, c5, c6, c7, c8, c9, ca, cb, rfl⟩ := list12 hl
  obtain ⟨ys, n, _, _, _, hlen, hff⟩ := DataW.trod_struct Try.underlying64 hf
  obtain ⟨y0, g0⟩ := getLen (i := 0) hlen (by decide)
  obtain ⟨y1, g1⟩ := getLen (i := 1) hlen (by decide)
  obtain ⟨y2, g2⟩ := getLen (i := 2) hlen (by decide)
  obtain ⟨y3, g3⟩ := getLen (i := 3) hlen (by decide)
  obtain ⟨y4, g4⟩ := getLen (i := 4) hlen (by decide)
  obtain ⟨y5, g5⟩ := getLen (i := 5) hlen (by decide)
  obtain ⟨y6, g6⟩ := getLen (i := 6) hlen (by decide)
  obtain ⟨y7, g7⟩ := getLen (i := 7) hlen (by decide)
  obtain ⟨a0, e0, -⟩ := DataW.trod_int Try.underlying3 ((hff 0 _ rfl).trans g0)
  obtain ⟨a1, e1, -⟩ := DataW.trod_bool Try.underlying4 ((hff 1 _ rfl).trans g1)
  obtain ⟨a2, e2, -⟩ := DataW.trod_int Try.underlying3 ((hff 2 _ rfl).trans g2)
  obtain ⟨a3, e3, -⟩ := DataW.trod_int Try.underlying3 ((hff 3 _ rfl).trans g3)
  obtain ⟨a4, e4, -⟩ := DataW.trod_int Try.underlying3 ((hff 4 _ rfl).trans g4)
  obtain ⟨a5, e5, -⟩ := DataW.trod_bool Try.underlying4 ((hff 5 _ rfl).trans g5)
  have f6 := (hff 6 _ rfl).trans g6
  have f7 := (hff 7 _ rfl).trans g7
  simp [cI, cB, cSend, cTake] at e0 e1 e2 e3 e4 e5 f6 f7
  subst e0 e1 e2 e3 e4 e5
  obtain ⟨b, ao, ci, xs, rfl, rfl, hai, hx, hxs⟩ := sendC f6
  obtain ⟨nx, ho, so, ch, cs, hs, o, rs, rfl, rfl, rfl, rfl, hat, hsm⟩ := takeC f7
  exact ⟨⟨⟨a0, a1, a2, a3, a4, a5, b, xs, nx, hs, o, rs⟩, ao, ci, ho, ch, so, cs⟩, rfl, ⟨hai, hat⟩, ⟨hx, hxs, hsm⟩⟩
set_option maxRecDepth 100000 in
theorem ends {H : Type} {enc : TypeId × Value → H} {W : World} {base : Nat} {spare : Nat → Bool} {held : Bool} {fuel : Nat} {v : Value} {x : DataW H × List MemPlace} (h : DataW.trod enc Try.prog W base spare held fuel 22 [v] = some x) :
    ∃ (ao : Option Addr) (cap : Nat) (xs : List mk.Ev), v = .slice ao xs.length cap ∧ mk.Aes W ao xs ∧ xs.length ≤ maxLen ∧ (∀ i (h : i < xs.length), mk.Se maxLen xs[i].e) := by
  rcases Go.Deep.open_slice Try.underlying22 h with ⟨hc, _⟩ | ⟨a, len, cap, m, k, D, Pl, hc, _, hl, hm, hmm, _, hall⟩
  · simp at hc
    subst hc
    exact ⟨none, 0, [], rfl, ⟨.inl rfl, fun i h => absurd h (by simp)⟩, Nat.zero_le _, fun i h => absurd h (by simp)⟩
  · simp at hc
    subst hc
    rw [cEnd] at hall
    have hlm : len ≤ m := by rw [hmm]; split <;> omega
    have each : ∀ i, i < len → ∃ q : mk.Ev, W.cell? (a.add (i * 12)) = some (.int .i64 q.e.num) ∧ W.cell? (a.add (i * 12 + 1)) = some (.bool q.e.up) ∧ W.cell? (a.add (i * 12 + 2)) = some (.int .i64 q.e.life) ∧ W.cell? (a.add (i * 12 + 3)) = some (.int .i64 q.e.peer) ∧ W.cell? (a.add (i * 12 + 4)) = some (.int .i64 q.e.since) ∧ W.cell? (a.add (i * 12 + 5)) = some (.bool q.e.owes) ∧ W.cell? (a.add (i * 12 + 6)) = some (.int .i64 q.e.b) ∧ W.cell? (a.add (i * 12 + 7)) = some (.slice q.ao q.e.xs.length q.ci) ∧ W.cell? (a.add (i * 12 + 8)) = some (.int .i64 q.e.nx) ∧ W.cell? (a.add (i * 12 + 9)) = some (.slice q.ho q.e.hs.length q.ch) ∧ W.cell? (a.add (i * 12 + 10)) = some (.string q.e.o) ∧ W.cell? (a.add (i * 12 + 11)) = some (.slice q.so q.e.rs.length q.cs) ∧ mk.Ae W q.e q.ao q.ho q.so ∧ mk.Se maxLen q.e := by
      intro i hi
      obtain ⟨cs', h1, h2⟩ := hall i (by omega)
      obtain ⟨_, hl4, hcell⟩ := World.cells?_some h1
      obtain ⟨q, rfl, hq⟩ := oneEnd hl4 h2
      have q0 := hcell 0 (by omega)
      have q1 := hcell 1 (by omega)
      have q2 := hcell 2 (by omega)
      have q3 := hcell 3 (by omega)
      have q4 := hcell 4 (by omega)
      have q5 := hcell 5 (by omega)
      have q6 := hcell 6 (by omega)
      have q7 := hcell 7 (by omega)
      have q8 := hcell 8 (by omega)
      have q9 := hcell 9 (by omega)
      have q10 := hcell 10 (by omega)
      have q11 := hcell 11 (by omega)
      rw [Go.Deep.add_add] at q0 q1 q2 q3 q4 q5 q6 q7 q8 q9 q10 q11
      exact ⟨q, q0, q1, q2, q3, q4, q5, q6, q7, q8, q9, q10, q11, hq⟩
    obtain ⟨q, hq⟩ := Go.Deep.choose_lt each
    refine ⟨some a, cap, (List.range len).map q, by simp, ⟨?_, fun i hi => ?_⟩, by simp; omega, fun i hi => ?_⟩
    · rcases Nat.eq_zero_or_pos len with h0 | h0
      · exact .inl (by simp [h0])
      · have hp := plainAddr (a := a) (by simpa [Addr.add] using (hq 0 h0).1)
        refine .inr ⟨a.block, a.off, by rw [← hp], fun i hi => ?_⟩
        have hi' : i < len := by simpa using hi
        have h1 := hq i hi'
        rw [hp, addPlain, addPlain, addPlain, addPlain, addPlain, addPlain, addPlain, addPlain, addPlain, addPlain, addPlain, addPlain] at h1
        simp only [List.getElem_map, List.getElem_range]
        exact ⟨h1.1, h1.2.1, h1.2.2.1, h1.2.2.2.1, h1.2.2.2.2.1, h1.2.2.2.2.2.1, h1.2.2.2.2.2.2.1, h1.2.2.2.2.2.2.2.1, h1.2.2.2.2.2.2.2.2.1, h1.2.2.2.2.2.2.2.2.2.1, h1.2.2.2.2.2.2.2.2.2.2.1, h1.2.2.2.2.2.2.2.2.2.2.2.1⟩
    · have hi' : i < len := by simpa using hi
      simp only [List.getElem_map, List.getElem_range]
      exact (hq i hi').2.2.2.2.2.2.2.2.2.2.2.2.1
    · have hi' : i < len := by simpa using hi
      simp only [List.getElem_map, List.getElem_range]
      exact (hq i hi').2.2.2.2.2.2.2.2.2.2.2.2.2
theorem cWorld : Try.prog.cellsOf 26 = 7 := by kernel_rfl
theorem array7 {α : Type} {cs : Array α} (h : cs.size = 7) : ∃ c0 c1 c2 c3 c4 c5 c6, cs = #[c0, c1, c2, c3, c4, c5, c6] := by
  obtain ⟨l⟩ := cs
  match l, h with
  | [c0, c1, c2, c3, c4, c5, c6], _ => exact ⟨c0, c1, c2, c3, c4, c5, c6, rfl⟩
set_option maxRecDepth 100000 in
theorem world {H : Type} {enc : TypeId × Value → H} {W : World} {base : Nat} {spare : Nat → Bool} {held : Bool} {r : Reach} {b0 : Nat} {v : Value} {d : DataW H} {p : List MemPlace}
    (hv : Value.okWide Try.prog W r b0 26 v) (h : DataW.Trod enc Try.prog W base spare held 26 v d p) :
    ∃ (key : ByteArray) (width : Int) (eo : Option Addr) (ce : Nat) (es : List mk.Ev) (fo : Option Addr) (cf : Nat) (fl : List mk.Pc) (fg : ByteArray) (go : Option Addr) (cg : Nat) (gv : List mk.Rc) (ko : Option Addr) (ck : Nat) (tk : List mk.Rc),
      v = .agg #[.string key, .int .i64 width, .slice eo es.length ce, .slice fo fl.length cf, .string fg, .slice go gv.length cg, .slice ko tk.length ck] ∧ mk.Aw W eo es fo fl go gv ko tk ∧ mk.Sw maxLen key es fl fg gv tk := by
  obtain ⟨cs, rfl, hsz⟩ := okWide_struct Try.underlying26 hv
  obtain ⟨c0, c1, c2, c3, c4, c5, c6, rfl⟩ := array7 (hsz.trans cWorld)
  obtain ⟨fuel, hf⟩ := h
  obtain ⟨ys, n, _, _, _, hlen, hff⟩ := DataW.trod_struct Try.underlying26 hf
  obtain ⟨y0, g0⟩ := getLen (i := 0) hlen (by decide)
  obtain ⟨y1, g1⟩ := getLen (i := 1) hlen (by decide)
  obtain ⟨y2, g2⟩ := getLen (i := 2) hlen (by decide)
  obtain ⟨y3, g3⟩ := getLen (i := 3) hlen (by decide)
  obtain ⟨y4, g4⟩ := getLen (i := 4) hlen (by decide)
  obtain ⟨y5, g5⟩ := getLen (i := 5) hlen (by decide)
  obtain ⟨y6, g6⟩ := getLen (i := 6) hlen (by decide)
  obtain ⟨key, e0, -, m0⟩ := DataW.trod_string Try.underlying9 ((hff 0 _ rfl).trans g0)
  obtain ⟨width, e1, -⟩ := DataW.trod_int Try.underlying3 ((hff 1 _ rfl).trans g1)
  have f2 := (hff 2 _ rfl).trans g2
  have f3 := (hff 3 _ rfl).trans g3
  obtain ⟨fg, e4, -, m4⟩ := DataW.trod_string Try.underlying9 ((hff 4 _ rfl).trans g4)
  have f5 := (hff 5 _ rfl).trans g5
  have f6 := (hff 6 _ rfl).trans g6
  simp [Value.cells, cI, cS, cEnds, cParcels, cRecords] at e0 e1 e4 f2 f3 f5 f6
  subst e0 e1 e4
  obtain ⟨eo, ce, es, rfl, A1, l1, s1⟩ := ends f2
  obtain ⟨fo, cf, fl, rfl, A2, l2, s2⟩ := parcels f3
  obtain ⟨go, cg, gv, rfl, A3, l3, s3⟩ := records f5
  obtain ⟨ko, ck, tk, rfl, A4, l4, s4⟩ := records f6
  exact ⟨key, width, eo, ce, es, fo, cf, fl, fg, go, cg, gv, ko, ck, tk, rfl, ⟨A1, A2, A3, A4⟩, ⟨m0, l1, s1, l2, s2, m4, l3, s3, l4, s4⟩⟩
end Go.Proofs.Ytmliinglojmojab.openedW

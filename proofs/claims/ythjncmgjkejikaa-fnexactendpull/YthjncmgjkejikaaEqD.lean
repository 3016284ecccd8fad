/-
  PULLING at an end: one contract a side.
-/
import Derived.Test.YthjncmgjkejikaaEqB
import Derived.Test.YthjncmgjkejikaaEqC
import Derived.Test.YthjncmgjkejikaaEqE
import Derived.Test.YthjncmgjkejikaaEqF
namespace Go.Proofs.Ythjncmgjkejikaa.mk
open Go.RowKit
set_option linter.unusedVariables false

/-- what a pull makes of an end -/
noncomputable def pullE (e : En) : Int × En × ByteArray := if enOk e.num e.up e.life e.peer e.since e.owes e.b e.xs e.nx e.hs e.o e.rs = true then (if e.up = true then (if e.rs.length = 0 then (4, zeroE, ⟨#[]⟩) else (0, { e with owes := true, nx := ((pullT e.nx.toNat e.hs e.o e.rs).1 : Int), hs := (pullT e.nx.toNat e.hs e.o e.rs).2.1, o := (pullT e.nx.toNat e.hs e.o e.rs).2.2.1, rs := (pullT e.nx.toNat e.hs e.o e.rs).2.2.2 }, pullS e.rs)) else (2, zeroE, ⟨#[]⟩)) else (1, zeroE, ⟨#[]⟩)
theorem pullE_size {e : En} {m : Nat} (hm : 60 ≤ m) (h : Se m e) : (pullE e).2.1.xs.length ≤ m ∧ (pullE e).2.1.hs.length ≤ m ∧ (pullE e).2.1.rs.length ≤ m := by
  unfold pullE
  split
  · rename_i hV
    split
    · split
      · exact ⟨Nat.zero_le _, Nat.zero_le _, Nat.zero_le _⟩
      · have := pull_lenQ (enOk_parts (e := e) hV).2.1
        exact ⟨h.n, by show (pullT e.nx.toNat e.hs e.o e.rs).2.1.length ≤ m; omega, by show (pullT e.nx.toNat e.hs e.o e.rs).2.2.2.length ≤ m; omega⟩
    · exact ⟨Nat.zero_le _, Nat.zero_le _, Nat.zero_le _⟩
  · exact ⟨Nat.zero_le _, Nat.zero_le _, Nat.zero_le _⟩
set_option maxHeartbeats 1000000 in
theorem specEq_any (e : En) (g : Nat) (ho so : Option Addr) (ci ch cs : Nat) (w : World) (hm : Se 1048576 e) (hr : Re w e (some ⟨g, 0, none⟩) ho so) (hn1 : ho = none → e.hs.length = 0 ∧ ch = 0) (hn2 : so = none → e.rs.length = 0 ∧ cs = 0) :
    Calls Try.prog 26 #[.agg #[.int .i64 e.num, .bool e.up, .int .i64 e.life, .int .i64 e.peer, .int .i64 e.since, .bool e.owes, .int .i64 e.b, .slice (some ⟨g, 0, none⟩) e.xs.length ci, .int .i64 e.nx, .slice ho e.hs.length ch, .string e.o, .slice so e.rs.length cs]] w fun x w' => mp.ActPost (pullE e).1 (pullE e).2.1 (pullE e).2.2 w x w' := by
  obtain ⟨num, up, life, peer, since, owes, b, xs, nx, hs', o, rs⟩ := e
  unfold pullE
  cases V : enOk num up life peer since owes b xs nx hs' o rs with
  | false => exact specEq_no num up life peer since owes b xs nx hs' o rs g ho so ci ch cs w hm hr.send hr.take hn1 hn2 V
  | true =>
    simp only [if_true]
    cases up with
    | false =>
      simp only [Bool.false_eq_true, if_false]
      exact specEq_apartA num life peer since owes b xs nx hs' o rs g ho so ci ch cs w hm hr.send hr.take hn1 hn2 V
    | true =>
      simp only [if_true]
      have hp := enOk_parts (e := ⟨num, true, life, peer, since, owes, b, xs, nx, hs', o, rs⟩) V
      have hv : tkOk nx hs' o rs = true := hp.2.1
      have hsd : SdOk b xs := sdOk_of hp.1
      have htk : TkOk nx hs' o rs := tkOk_of hv
      obtain ⟨b, rfl⟩ := Int.eq_ofNat_of_zero_le (show 0 ≤ b by have := hsd.1; unfold HdOk at this; omega)
      obtain ⟨nx, rfl⟩ := Int.eq_ofNat_of_zero_le (show 0 ≤ nx by have := htk.1; unfold TkHd at this; omega)
      obtain ⟨M, Z, P, S, hT⟩ : ∃ M Z P S, pullT nx hs' o rs = (M, Z, P, S) := ⟨_, _, _, _, rfl⟩
      by_cases h0 : rs.length = 0
      · have := specEq_ref M Z P S ⟨#[]⟩ num life peer since owes (b : Int) xs (nx : Int) hs' o rs g ho so ci ch cs w hm hr.send hr.take hn1 hn2 V (by simp [pullOf, hv, hT]) (by simp [pulledS, pullS, List.eq_nil_of_length_eq_zero h0]) (by simp [pulledB, hv, pullB, h0])
        rw [if_pos h0]
        exact this
      · have := specEq_yes M Z P S (pullS rs) num life peer since owes (b : Int) xs (nx : Int) hs' o rs g ho so ci ch cs w hm hr.send hr.take hn1 hn2 V (by simp [pullOf, hv, hT]) (by simp [pulledS, hv]) (by simp [pulledB, hv, pullB, h0])
        rw [if_neg h0]
        simp only [Int.toNat_natCast, hT]
        exact this
set_option maxHeartbeats 1000000 in
theorem implEq_any (e : En) (g : Nat) (ho so : Option Addr) (ci ch cs : Nat) (w : World) (hm : Se 1048576 e) (hr : Re w e (some ⟨g, 0, none⟩) ho so) (hn1 : ho = none → e.hs.length = 0 ∧ ch = 0) (hn2 : so = none → e.rs.length = 0 ∧ cs = 0) :
    Calls Try.prog 27 #[.agg #[.int .i64 e.num, .bool e.up, .int .i64 e.life, .int .i64 e.peer, .int .i64 e.since, .bool e.owes, .int .i64 e.b, .slice (some ⟨g, 0, none⟩) e.xs.length ci, .int .i64 e.nx, .slice ho e.hs.length ch, .string e.o, .slice so e.rs.length cs]] w fun x w' => mp.ActPost (pullE e).1 (pullE e).2.1 (pullE e).2.2 w x w' := by
  obtain ⟨num, up, life, peer, since, owes, b, xs, nx, hs', o, rs⟩ := e
  unfold pullE
  cases V : enOk num up life peer since owes b xs nx hs' o rs with
  | false => exact implEq_no num up life peer since owes b xs nx hs' o rs g ho so ci ch cs w hm hr.send hr.take hn1 hn2 V
  | true =>
    simp only [if_true]
    cases up with
    | false =>
      simp only [Bool.false_eq_true, if_false]
      exact implEq_apartA num life peer since owes b xs nx hs' o rs g ho so ci ch cs w hm hr.send hr.take hn1 hn2 V
    | true =>
      simp only [if_true]
      have hp := enOk_parts (e := ⟨num, true, life, peer, since, owes, b, xs, nx, hs', o, rs⟩) V
      have hv : tkOk nx hs' o rs = true := hp.2.1
      have hsd : SdOk b xs := sdOk_of hp.1
      have htk : TkOk nx hs' o rs := tkOk_of hv
      obtain ⟨b, rfl⟩ := Int.eq_ofNat_of_zero_le (show 0 ≤ b by have := hsd.1; unfold HdOk at this; omega)
      obtain ⟨nx, rfl⟩ := Int.eq_ofNat_of_zero_le (show 0 ≤ nx by have := htk.1; unfold TkHd at this; omega)
      obtain ⟨M, Z, P, S, hT⟩ : ∃ M Z P S, pullT nx hs' o rs = (M, Z, P, S) := ⟨_, _, _, _, rfl⟩
      by_cases h0 : rs.length = 0
      · have := implEq_ref M Z P S ⟨#[]⟩ num life peer since owes b xs nx hs' o rs g ho so ci ch cs w hm hr.send hr.take hn1 hn2 V hT (by simp [pullS, List.eq_nil_of_length_eq_zero h0]) (by simp [pullB, h0])
        rw [if_pos h0]
        exact this
      · have := implEq_yes M Z P S (pullS rs) num life peer since owes b xs nx hs' o rs g ho so ci ch cs w hm hr.send hr.take hn1 hn2 V hT (rfl) (by simp [pullB, h0])
        rw [if_neg h0]
        simp only [Int.toNat_natCast, hT]
        exact this
end Go.Proofs.Ythjncmgjkejikaa.mk

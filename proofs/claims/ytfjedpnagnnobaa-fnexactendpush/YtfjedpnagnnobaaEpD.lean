/-
  PUSHING at an end: one contract a side.
-/
import Derived.Test.YtfjedpnagnnobaaEpB
import Derived.Test.YtfjedpnagnnobaaEpC
import Derived.Test.YtfjedpnagnnobaaEpE
import Derived.Test.YtfjedpnagnnobaaEpF
import Derived.Test.YtfjedpnagnnobaaEpG
namespace Go.Proofs.Ytfjedpnagnnobaa.mk
open Go.RowKit
set_option linter.unusedVariables false

open Classical in
noncomputable def pushE (e : En) (s : ByteArray) : Int × En := if enOk e.num e.up e.life e.peer e.since e.owes e.b e.xs e.nx e.hs e.o e.rs then (if e.up = true ∧ ¬ e.peer = 0 then (if (pushOf e.b e.xs s).2.2 = 0 then (0, { e with b := (pushOf e.b e.xs s).1, xs := (pushOf e.b e.xs s).2.1 }) else ((pushOf e.b e.xs s).2.2, zeroE)) else (2, zeroE)) else (1, zeroE)
theorem pushE_size {e : En} {m : Nat} (s : ByteArray) (hm : 60 ≤ m) (h : Se m e) : (pushE e s).2.xs.length ≤ m ∧ (pushE e s).2.hs.length ≤ m ∧ (pushE e s).2.rs.length ≤ m := by
  unfold pushE
  split
  · split
    · split
      · refine ⟨?_, h.tk.n, h.tk.k⟩
        show (pushOf e.b e.xs s).2.1.length ≤ m
        unfold pushOf
        split
        · split
          · exact Nat.zero_le _
          · rename_i hf
            unfold Full at hf
            simp
            omega
        · exact Nat.zero_le _
      · exact ⟨Nat.zero_le _, Nat.zero_le _, Nat.zero_le _⟩
    · exact ⟨Nat.zero_le _, Nat.zero_le _, Nat.zero_le _⟩
  · exact ⟨Nat.zero_le _, Nat.zero_le _, Nat.zero_le _⟩
set_option maxHeartbeats 1000000 in
theorem specEp_any (e : En) (g : Nat) (ho so : Option Addr) (ci ch cs : Nat) (s : ByteArray) (w : World) (hm : Se 1048576 e) (hr : Re w e (some ⟨g, 0, none⟩) ho so) (hn1 : ho = none → e.hs.length = 0 ∧ ch = 0) (hn2 : so = none → e.rs.length = 0 ∧ cs = 0) (hs : s.size ≤ 1048576) :
    Calls Try.prog 12 #[.agg #[.int .i64 e.num, .bool e.up, .int .i64 e.life, .int .i64 e.peer, .int .i64 e.since, .bool e.owes, .int .i64 e.b, .slice (some ⟨g, 0, none⟩) e.xs.length ci, .int .i64 e.nx, .slice ho e.hs.length ch, .string e.o, .slice so e.rs.length cs], .string s] w fun x w' => ActPost (pushE e s).1 (pushE e s).2 ⟨#[]⟩ w x w' := by
  obtain ⟨num, up, life, peer, since, owes, b, xs, nx, hs', o, rs⟩ := e
  unfold pushE
  cases V : enOk num up life peer since owes b xs nx hs' o rs with
  | false => exact specEp_no num up life peer since owes b xs nx hs' o rs g ho so ci ch cs s w hm hr.send hr.take hn1 hn2 V
  | true =>
    simp only [if_true]
    cases up with
    | false =>
      simp only [Bool.false_eq_true, false_and, if_false]
      exact specEp_apartA num life peer since owes b xs nx hs' o rs g ho so ci ch cs s w hm hr.send hr.take hn1 hn2 V
    | true =>
      by_cases hpe : peer = 0
      · subst hpe
        simp only [not_true_eq_false, and_false, if_false]
        exact specEp_apartB num life since owes b xs nx hs' o rs g ho so ci ch cs s w hm hr.send hr.take hn1 hn2 V
      · rw [if_pos ⟨rfl, hpe⟩]
        have hp := enOk_parts (e := ⟨num, true, life, peer, since, owes, b, xs, nx, hs', o, rs⟩) V
        have hsd : SdOk b xs := sdOk_of hp.1
        have htk : TkOk nx hs' o rs := tkOk_of hp.2.1
        obtain ⟨b, rfl⟩ := Int.eq_ofNat_of_zero_le (show 0 ≤ b by have := hsd.1; unfold HdOk at this; omega)
        obtain ⟨nx, rfl⟩ := Int.eq_ofNat_of_zero_le (show 0 ≤ nx by have := htk.1; unfold TkHd at this; omega)
        have hok := hsd.1
        unfold HdOk at hok
        have hv : sdOk (b : Int) xs = true := hp.1
        by_cases h2 : s.size ≤ 200
        · by_cases hf : Full b xs.length (cut s).length
          · have T : pushOf (b : Int) xs s = (0, [], ((3 : Nat) : Int)) := by rw [pushOf, if_pos ⟨hv, h2⟩, if_pos (by simpa using hf)]; rfl
            have := specEp_ref 3 (.inr rfl) num life peer since owes (b : Int) xs (nx : Int) hs' o rs g ho so ci ch cs s w hm hr.send hr.take hn1 hn2 V hpe hs T
            simp only [T]
            exact this
          · have T : pushOf (b : Int) xs s = ((b : Int), xs ++ (cut s).map newIt, 0) := by rw [pushOf, if_pos ⟨hv, h2⟩, if_neg (by simpa using hf)]
            have := specEp_yes (b : Int) (xs ++ (cut s).map newIt) num life peer since owes (b : Int) xs (nx : Int) hs' o rs g ho so ci ch cs s w hm hr.send hr.take hn1 hn2 V hpe hs T
            simp only [T, if_true]
            exact this
        · have T : pushOf (b : Int) xs s = (0, [], ((1 : Nat) : Int)) := by rw [pushOf, if_neg (fun q => h2 q.2)]; rfl
          have := specEp_ref 1 (.inl rfl) num life peer since owes (b : Int) xs (nx : Int) hs' o rs g ho so ci ch cs s w hm hr.send hr.take hn1 hn2 V hpe hs T
          simp only [T]
          exact this
set_option maxHeartbeats 1000000 in
theorem implEp_any (e : En) (g : Nat) (ho so : Option Addr) (ci ch cs : Nat) (s : ByteArray) (w : World) (hm : Se 1048576 e) (hr : Re w e (some ⟨g, 0, none⟩) ho so) (hn1 : ho = none → e.hs.length = 0 ∧ ch = 0) (hn2 : so = none → e.rs.length = 0 ∧ cs = 0) (hs : s.size ≤ 1048576) :
    Calls Try.prog 13 #[.agg #[.int .i64 e.num, .bool e.up, .int .i64 e.life, .int .i64 e.peer, .int .i64 e.since, .bool e.owes, .int .i64 e.b, .slice (some ⟨g, 0, none⟩) e.xs.length ci, .int .i64 e.nx, .slice ho e.hs.length ch, .string e.o, .slice so e.rs.length cs], .string s] w fun x w' => ActPost (pushE e s).1 (pushE e s).2 ⟨#[]⟩ w x w' := by
  obtain ⟨num, up, life, peer, since, owes, b, xs, nx, hs', o, rs⟩ := e
  unfold pushE
  cases V : enOk num up life peer since owes b xs nx hs' o rs with
  | false => exact implEp_no num up life peer since owes b xs nx hs' o rs g ho so ci ch cs s w hm hr.send hr.take hn1 hn2 V
  | true =>
    simp only [if_true]
    cases up with
    | false =>
      simp only [Bool.false_eq_true, false_and, if_false]
      exact implEp_apartA num life peer since owes b xs nx hs' o rs g ho so ci ch cs s w hm hr.send hr.take hn1 hn2 V
    | true =>
      by_cases hpe : peer = 0
      · subst hpe
        simp only [not_true_eq_false, and_false, if_false]
        exact implEp_apartB num life since owes b xs nx hs' o rs g ho so ci ch cs s w hm hr.send hr.take hn1 hn2 V
      · rw [if_pos ⟨rfl, hpe⟩]
        have hp := enOk_parts (e := ⟨num, true, life, peer, since, owes, b, xs, nx, hs', o, rs⟩) V
        have hsd : SdOk b xs := sdOk_of hp.1
        have htk : TkOk nx hs' o rs := tkOk_of hp.2.1
        obtain ⟨b, rfl⟩ := Int.eq_ofNat_of_zero_le (show 0 ≤ b by have := hsd.1; unfold HdOk at this; omega)
        obtain ⟨nx, rfl⟩ := Int.eq_ofNat_of_zero_le (show 0 ≤ nx by have := htk.1; unfold TkHd at this; omega)
        have hok := hsd.1
        unfold HdOk at hok
        have hv : sdOk (b : Int) xs = true := hp.1
        by_cases h2 : s.size ≤ 200
        · by_cases hf : Full b xs.length (cut s).length
          · have T : pushOf (b : Int) xs s = (0, [], ((3 : Nat) : Int)) := by rw [pushOf, if_pos ⟨hv, h2⟩, if_pos (by simpa using hf)]; rfl
            have := implEp_ref 3 (.inr rfl) num life peer since owes b xs nx hs' o rs g ho so ci ch cs s w hm hr.send hr.take hn1 hn2 V hpe (fun base A cr ds v u q1 q2 q3 q4 q5 => (ringPush_yes base ⟨A, 80, 274, _⟩ b xs s cr v rs.length (ss rs) u q4 ⟨q3, ⟨by show (80 : TypeId) ≠ 3; decide, by show (80 : TypeId) ≠ 9; decide⟩, q1⟩ q2 q5 (by omega) (by omega) (by omega) h2).mono fun e w' hp => by
              obtain ⟨q | q, hb⟩ := hp
              · exact absurd hf q.1
              · exact ⟨q.2, hb⟩)
            simp only [T]
            exact this
          · have T : pushOf (b : Int) xs s = ((b : Int), xs ++ (cut s).map newIt, 0) := by rw [pushOf, if_pos ⟨hv, h2⟩, if_neg (by simpa using hf)]
            have := implEp_yes num life peer since owes b xs nx hs' o rs g ho so ci ch cs s w hm hr.send hr.take hn1 hn2 V hpe h2 hf
            simp only [T, if_true]
            exact this
        · have T : pushOf (b : Int) xs s = (0, [], ((1 : Nat) : Int)) := by rw [pushOf, if_neg (fun q => h2 q.2)]; rfl
          have := implEp_ref 1 (.inl rfl) num life peer since owes b xs nx hs' o rs g ho so ci ch cs s w hm hr.send hr.take hn1 hn2 V hpe (fun base A cr ds v u q1 q2 q3 q4 q5 => (ringPush_no A s u (by omega) hs).mono fun e w' hp => ⟨hp.1, hp.2.mono q5, hp.2.size⟩)
          simp only [T]
          exact this
end Go.Proofs.Ytfjedpnagnnobaa.mk

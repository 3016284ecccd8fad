/-
  RISING: one contract a side.
-/
import Derived.Test.YtmliinglojmojaaRiseC
import Derived.Test.YtmliinglojmojaaRiseD
namespace Go.Proofs.Ytmliinglojmojaa.mk
open Go.RowKit
set_option linter.unusedVariables false

open Classical in
noncomputable def riseOf (e : En) : En := if enOk e.num e.up e.life e.peer e.since e.owes e.b e.xs e.nx e.hs e.o e.rs then (if e.up = true ∨ e.life = 1000 then e else newE e) else zeroE
theorem riseOf_size {e : En} {m : Nat} (h : Se m e) : (riseOf e).xs.length ≤ m ∧ (riseOf e).hs.length ≤ m ∧ (riseOf e).rs.length ≤ m := by
  unfold riseOf
  split
  · split
    · exact ⟨h.n, h.tk.n, h.tk.k⟩
    · exact ⟨Nat.zero_le _, Nat.zero_le _, Nat.zero_le _⟩
  · exact ⟨Nat.zero_le _, Nat.zero_le _, Nat.zero_le _⟩
set_option maxHeartbeats 1000000 in
theorem specRise_opt (e : En) (zo : Option Addr) (ho so : Option Addr) (ci ch cs : Nat) (w : World) (hm : Se 1048576 e) (hr : Re w e zo ho so) (hn0 : zo = none → e.xs.length = 0 ∧ ci = 0) (hn1 : ho = none → e.hs.length = 0 ∧ ch = 0) (hn2 : so = none → e.rs.length = 0 ∧ cs = 0) :
    Calls Try.prog 23 #[.agg #[.int .i64 e.num, .bool e.up, .int .i64 e.life, .int .i64 e.peer, .int .i64 e.since, .bool e.owes, .int .i64 e.b, .slice zo e.xs.length ci, .int .i64 e.nx, .slice ho e.hs.length ch, .string e.o, .slice so e.rs.length cs]] w fun x w' => EndPost (riseOf e) w x w' := by
  unfold riseOf
  cases V : enOk e.num e.up e.life e.peer e.since e.owes e.b e.xs e.nx e.hs e.o e.rs with
  | false => exact specRise_no e zo ho so ci ch cs w hm hr V
  | true =>
    simp only [if_true]
    have hp := enOk_parts V
    by_cases hu : e.up = true ∨ e.life = 1000
    · rw [if_pos hu]
      clear hp
      obtain ⟨num, up, life, peer, since, owes, b, xs, nx, hs, o, rs⟩ := e
      cases up with
      | true => exact specSameA num life peer since owes b xs nx hs o rs zo ho so ci ch cs w hm hr.send hr.take hn0 hn1 hn2 V
      | false =>
        obtain rfl : life = 1000 := by simpa using hu
        exact specSameB num peer since owes b xs nx hs o rs zo ho so ci ch cs w hm hr.send hr.take hn0 hn1 hn2 V
    · rw [if_neg hu]
      exact specRise_new e zo ho so ci ch cs w hm hr V (by simpa using fun h => hu (.inl h)) (by have : ¬ e.life = 1000 := fun h => hu (.inr h); omega)
set_option maxHeartbeats 1000000 in
theorem implRise_opt (e : En) (zo : Option Addr) (ho so : Option Addr) (ci ch cs : Nat) (w : World) (hm : Se 1048576 e) (hr : Re w e zo ho so) (hn0 : zo = none → e.xs.length = 0 ∧ ci = 0) (hn1 : ho = none → e.hs.length = 0 ∧ ch = 0) (hn2 : so = none → e.rs.length = 0 ∧ cs = 0) :
    Calls Try.prog 24 #[.agg #[.int .i64 e.num, .bool e.up, .int .i64 e.life, .int .i64 e.peer, .int .i64 e.since, .bool e.owes, .int .i64 e.b, .slice zo e.xs.length ci, .int .i64 e.nx, .slice ho e.hs.length ch, .string e.o, .slice so e.rs.length cs]] w fun x w' => EndPost (riseOf e) w x w' := by
  unfold riseOf
  cases V : enOk e.num e.up e.life e.peer e.since e.owes e.b e.xs e.nx e.hs e.o e.rs with
  | false => exact implRise_no e zo ho so ci ch cs w hm hr V
  | true =>
    simp only [if_true]
    have hp := enOk_parts V
    by_cases hu : e.up = true ∨ e.life = 1000
    · rw [if_pos hu]
      clear hp
      obtain ⟨num, up, life, peer, since, owes, b, xs, nx, hs, o, rs⟩ := e
      have hp := enOk_parts (e := ⟨num, up, life, peer, since, owes, b, xs, nx, hs, o, rs⟩) V
      have hb0 : 0 ≤ b := by have h1 : SdOk b xs := sdOk_of hp.1; have := h1.1; unfold HdOk at this; omega
      have hx0 : 0 ≤ nx := by have h1 : TkOk nx hs o rs := tkOk_of hp.2.1; have := h1.1; unfold TkHd at this; omega
      obtain ⟨b, rfl⟩ := Int.eq_ofNat_of_zero_le hb0
      obtain ⟨nx, rfl⟩ := Int.eq_ofNat_of_zero_le hx0
      clear hp hb0 hx0
      cases up with
      | true => exact implSameA num life peer since owes b xs nx hs o rs zo ho so ci ch cs w hm hr.send hr.take hn0 hn1 hn2 V
      | false =>
        obtain rfl : life = 1000 := by simpa using hu
        exact implSameB num peer since owes b xs nx hs o rs zo ho so ci ch cs w hm hr.send hr.take hn0 hn1 hn2 V
    · rw [if_neg hu]
      exact implRise_new e zo ho so ci ch cs w hm hr V (by simpa using fun h => hu (.inl h)) (by have : ¬ e.life = 1000 := fun h => hu (.inr h); omega)
theorem specRise_any (e : En) (g : Nat) (ho so : Option Addr) (ci ch cs : Nat) (w : World) (hm : Se 1048576 e) (hr : Re w e (some ⟨g, 0, none⟩) ho so) (hn1 : ho = none → e.hs.length = 0 ∧ ch = 0) (hn2 : so = none → e.rs.length = 0 ∧ cs = 0) :
    Calls Try.prog 23 #[.agg #[.int .i64 e.num, .bool e.up, .int .i64 e.life, .int .i64 e.peer, .int .i64 e.since, .bool e.owes, .int .i64 e.b, .slice (some ⟨g, 0, none⟩) e.xs.length ci, .int .i64 e.nx, .slice ho e.hs.length ch, .string e.o, .slice so e.rs.length cs]] w fun x w' => EndPost (riseOf e) w x w' :=
  specRise_opt e (some ⟨g, 0, none⟩) ho so ci ch cs w hm hr (fun h => by cases h) hn1 hn2
theorem implRise_any (e : En) (g : Nat) (ho so : Option Addr) (ci ch cs : Nat) (w : World) (hm : Se 1048576 e) (hr : Re w e (some ⟨g, 0, none⟩) ho so) (hn1 : ho = none → e.hs.length = 0 ∧ ch = 0) (hn2 : so = none → e.rs.length = 0 ∧ cs = 0) :
    Calls Try.prog 24 #[.agg #[.int .i64 e.num, .bool e.up, .int .i64 e.life, .int .i64 e.peer, .int .i64 e.since, .bool e.owes, .int .i64 e.b, .slice (some ⟨g, 0, none⟩) e.xs.length ci, .int .i64 e.nx, .slice ho e.hs.length ch, .string e.o, .slice so e.rs.length cs]] w fun x w' => EndPost (riseOf e) w x w' :=
  implRise_opt e (some ⟨g, 0, none⟩) ho so ci ch cs w hm hr (fun h => by cases h) hn1 hn2
end Go.Proofs.Ytmliinglojmojaa.mk

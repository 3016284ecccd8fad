/-
  A TICK of an end: one contract a side.
-/
import Derived.Test.YtfjedpnagnnobaaGreatEtD
import Derived.Test.YtfjedpnagnnobaaGreatEtF1
import Derived.Test.YtfjedpnagnnobaaGreatEtF2
import Derived.Test.YtfjedpnagnnobaaGreatEtF3
import Derived.Test.YtfjedpnagnnobaaGreatEtF4
import Derived.Test.YtfjedpnagnnobaaGreatEtF5
namespace Go.Proofs.YtfjedpnagnnobaaGreat.mk
open Go.RowKit
set_option linter.unusedVariables false

theorem beatP_len (num life peer since : Int) (owes : Bool) (b : Nat) (xs : List It) (nx : Nat) (hs : List Hd) : (beatP num life peer since owes b xs nx hs).length ≤ 9 := by
  have := snt_length b xs (min 8 xs.length)
  unfold beatP
  split <;> simp <;> omega
theorem tickE_size {e : En} {m : Nat} (h : Se m e) : (tickE e).2.1.xs.length ≤ m ∧ (tickE e).2.1.hs.length ≤ m ∧ (tickE e).2.1.rs.length ≤ m ∧ (tickE e).2.2.length ≤ 9 := by
  have h1 := h.n
  have h2 := h.tk.n
  have h3 := h.tk.k
  have h4 := snt_length e.b.toNat e.xs (min 8 e.xs.length)
  have h5 := tkn_length (min 8 e.xs.length) e.xs
  unfold tickE
  split
  · split
    · split
      · exact ⟨by show (tkn _ _).length ≤ m; omega, h2, h3, by simp; omega⟩
      · exact ⟨by show (tkn _ _).length ≤ m; omega, h2, h3, by simp; omega⟩
    · exact ⟨h1, h2, h3, Nat.zero_le _⟩
  · exact ⟨Nat.zero_le _, Nat.zero_le _, Nat.zero_le _, Nat.zero_le _⟩
set_option maxHeartbeats 1000000 in
theorem specEt_any (e : En) (g : Nat) (ho so : Option Addr) (ci ch cs : Nat) (w : World) (hm : Se 1048576 e) (hr : Re w e (some ⟨g, 0, none⟩) ho so) (hn1 : ho = none → e.hs.length = 0 ∧ ch = 0) (hn2 : so = none → e.rs.length = 0 ∧ cs = 0) :
    Calls Tryz.prog 6 #[.agg #[.int .i64 e.num, .bool e.up, .int .i64 e.life, .int .i64 e.peer, .int .i64 e.since, .bool e.owes, .int .i64 e.b, .slice (some ⟨g, 0, none⟩) e.xs.length ci, .int .i64 e.nx, .slice ho e.hs.length ch, .string e.o, .slice so e.rs.length cs]] w fun x w' => ActPostP (tickE e).1 (tickE e).2.1 (tickE e).2.2 ⟨#[]⟩ w x w' := by
  obtain ⟨num, up, life, peer, since, owes, b, xs, nx, hs', o, rs⟩ := e
  cases V : enOk num up life peer since owes b xs nx hs' o rs with
  | false =>
    unfold tickE
    simp only [V, Bool.false_eq_true, if_false]
    exact specEt_no num up life peer since owes b xs nx hs' o rs g ho so ci ch cs w hm hr.send hr.take hn1 hn2 V
  | true =>
    have hp := enOk_parts (e := ⟨num, up, life, peer, since, owes, b, xs, nx, hs', o, rs⟩) V
    have hsd : SdOk b xs := sdOk_of hp.1
    have htk : TkOk nx hs' o rs := tkOk_of hp.2.1
    obtain ⟨b, rfl⟩ := Int.eq_ofNat_of_zero_le (show 0 ≤ b by have := hsd.1; unfold HdOk at this; omega)
    obtain ⟨nx, rfl⟩ := Int.eq_ofNat_of_zero_le (show 0 ≤ nx by have := htk.1; unfold TkHd at this; omega)
    cases up with
    | false =>
      unfold tickE
      simp only [V, if_true, Bool.false_eq_true, if_false]
      exact specEt_down num life peer since owes b xs nx hs' o rs g ho so ci ch cs w hm hr.send hr.take hn1 hn2 V
    | true =>
      have T : tickE ⟨num, true, life, peer, since, owes, (b : Int), xs, (nx : Int), hs', o, rs⟩ = (0, ⟨num, true, life, peer, beatS since owes, beatO since owes, (b : Int), tkn (min 8 xs.length) xs, (nx : Int), hs', o, rs⟩, beatP num life peer since owes b xs nx hs') := by
        unfold tickE beatP beatS beatO
        simp only [V, if_true, Int.toNat_natCast]
        split <;> rfl
      rw [T]
      by_cases hsi : since < 1000000
      · by_cases hpe : peer = 0
        · subst hpe
          exact specEt_zA num life since owes b xs nx hs' o rs g ho so ci ch cs w hm hr.send hr.take hn1 hn2 V hsi
        · exact specEt_upA num life peer since owes b xs nx hs' o rs g ho so ci ch cs w hm hr.send hr.take hn1 hn2 V hpe hsi
      · by_cases hpe : peer = 0
        · subst hpe
          exact specEt_zB num life since owes b xs nx hs' o rs g ho so ci ch cs w hm hr.send hr.take hn1 hn2 V (by omega)
        · exact specEt_upB num life peer since owes b xs nx hs' o rs g ho so ci ch cs w hm hr.send hr.take hn1 hn2 V hpe (by omega)
set_option maxHeartbeats 1000000 in
theorem implEt_any (e : En) (g : Nat) (ho so : Option Addr) (ci ch cs : Nat) (w : World) (hm : Se 1048576 e) (hr : Re w e (some ⟨g, 0, none⟩) ho so) (hn1 : ho = none → e.hs.length = 0 ∧ ch = 0) (hn2 : so = none → e.rs.length = 0 ∧ cs = 0) :
    Calls Tryz.prog 8 #[.agg #[.int .i64 e.num, .bool e.up, .int .i64 e.life, .int .i64 e.peer, .int .i64 e.since, .bool e.owes, .int .i64 e.b, .slice (some ⟨g, 0, none⟩) e.xs.length ci, .int .i64 e.nx, .slice ho e.hs.length ch, .string e.o, .slice so e.rs.length cs]] w fun x w' => ActPostP (tickE e).1 (tickE e).2.1 (tickE e).2.2 ⟨#[]⟩ w x w' := by
  obtain ⟨num, up, life, peer, since, owes, b, xs, nx, hs', o, rs⟩ := e
  cases V : enOk num up life peer since owes b xs nx hs' o rs with
  | false =>
    unfold tickE
    simp only [V, Bool.false_eq_true, if_false]
    exact implEt_no num up life peer since owes b xs nx hs' o rs g ho so ci ch cs w hm hr.send hr.take hn1 hn2 V
  | true =>
    have hp := enOk_parts (e := ⟨num, up, life, peer, since, owes, b, xs, nx, hs', o, rs⟩) V
    have hsd : SdOk b xs := sdOk_of hp.1
    have htk : TkOk nx hs' o rs := tkOk_of hp.2.1
    obtain ⟨b, rfl⟩ := Int.eq_ofNat_of_zero_le (show 0 ≤ b by have := hsd.1; unfold HdOk at this; omega)
    obtain ⟨nx, rfl⟩ := Int.eq_ofNat_of_zero_le (show 0 ≤ nx by have := htk.1; unfold TkHd at this; omega)
    cases up with
    | false =>
      unfold tickE
      simp only [V, if_true, Bool.false_eq_true, if_false]
      exact implEt_down num life peer since owes b xs nx hs' o rs g ho so ci ch cs w hm hr.send hr.take hn1 hn2 V
    | true =>
      have T : tickE ⟨num, true, life, peer, since, owes, (b : Int), xs, (nx : Int), hs', o, rs⟩ = (0, ⟨num, true, life, peer, beatS since owes, beatO since owes, (b : Int), tkn (min 8 xs.length) xs, (nx : Int), hs', o, rs⟩, beatP num life peer since owes b xs nx hs') := by
        unfold tickE beatP beatS beatO
        simp only [V, if_true, Int.toNat_natCast]
        split <;> rfl
      rw [T]
      exact implEt_up num life peer since owes b xs nx hs' o rs g ho so ci ch cs w hm hr.send hr.take hn1 hn2 V
end Go.Proofs.YtfjedpnagnnobaaGreat.mk

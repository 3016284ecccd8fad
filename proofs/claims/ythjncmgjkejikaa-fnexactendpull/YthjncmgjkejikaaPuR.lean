/-
  PULLING A MESSAGE in an actor: (*intake).pull.
-/
import Derived.Test.YthjncmgjkejikaaPuA
import Derived.Test.YthjncmgjkejikaaRgE0q
import Derived.Test.YthjncmgjkejikaaRgEr
namespace Go.Proofs.Ythjncmgjkejikaa.mq.r
open Go.RowKit mk
set_option linter.unusedVariables false

set_option maxHeartbeats 2000000 in
theorem pull_any (base : Nat) (R : Loc) (nx : Nat) (xs : List Hd) (o : ByteArray) (rs : List ByteArray) (ds : List Value) (v : Value) (w : World) (h : mq.It5 base R nx xs o rs ds v w) (hbs : base ≤ w.heap.size) :
    Calls Try.prog 37 #[.pointer (some ⟨R, 242, none⟩)] w fun x w' => (∃ ds' v', x = .returned (.tuple #[.string (pullS rs), .bool (pullB rs)]) ∧ It5 base R (pullT nx xs o rs).1 (pullT nx xs o rs).2.1 (pullT nx xs o rs).2.2.1 (pullT nx xs o rs).2.2.2 ds' v' w') ∧ Below base w w' := by
  have hlt := h.ring.lt
  have t19 := (h.ring.cellAt 19 261 (by omega) (by omega)).trans h.hold.ready
  have f19 := h.ring.frozenAt 19 261 (by omega)
  have hneR := Tn.ne h.ring h.row
  by_cases h0 : rs.length = 0
  · obtain ⟨ao, cap, rfl, -, -, -⟩ := rs_of_owns h.row
    rw [show pullT nx xs o rs = (nx, xs, o, rs) by simp [pullT, h0], show pullS rs = ⟨#[]⟩ by simp [pullS, List.eq_nil_of_length_eq_zero h0], show pullB rs = false by simp [pullB, h0]]
    have I0 : Hid (It5 base R nx xs o rs ds (.slice ao rs.length cap) w) := ⟨h.ring, h.hold, .of_owns h.row, h.win, h.small, h.opn, h.many, h.le⟩
    obtain rfl := List.eq_nil_of_length_eq_zero h0
    simp only [List.length_nil] at t19
    clear h h0
    go_enter Try.func37, Try.ntmps37
    go_wp2
    go_ret2
    exact ⟨⟨ds, _, rfl, I0.out⟩, Below.refl _ _⟩
  · have hp : 0 < rs.length := by omega
    obtain ⟨g, cap, rfl, hbg, hg⟩ := h.row.form hp
    rw [show pullT nx xs o rs = tin xs nx o (rs.drop 1) by simp [pullT, h0], show pullS rs = rs[0] by simp [pullS, List.getElem?_eq_getElem hp], show pullB rs = true by simp [pullB, h0]]
    have hcap : rs.length ≤ cap := by obtain ⟨_, _, e, q, -, -⟩ := rs_of_owns h.row; cases e; exact q
    have c0 : w.cell? ⟨g, 0, none⟩ = some (.string rs[0]) := (h.row.cellAt 0 (by omega)).trans (ss_at rs 0 hp)
    have hgR : ¬ g = R.blk := fun e => hneR (by rw [← e]; rfl)
    have hgR2 : ¬ R.blk = g := fun e => hgR e.symm
    have OT : Orw base (.slice (some ⟨g, 0, none⟩) (rs.length - 1 + 1) cap) (rs.length - 1 + 1) (.string rs[0] :: ss (rs.drop 1)) w := by
      have q := Orw.of_owns h.row
      rw [show rs.length - 1 + 1 = rs.length by omega]
      have e : (Value.string rs[0] :: ss (rs.drop 1)) = ss rs := by
        cases rs with
        | nil => simp at hp
        | cons x ys => rfl
      rw [e]
      exact q
    obtain ⟨m, zs, p, ts, hT⟩ : ∃ m zs p ts, tin xs nx o (rs.drop 1) = (m, zs, p, ts) := ⟨_, _, _, _, rfl⟩
    rw [hT]
    have HTI : Hid (∀ (ds : List Value) (v : Value) (u : World), It5 base R nx xs o (rs.drop 1) ds v u → base ≤ u.heap.size → Calls Try.prog 69 #[.pointer (some ⟨R, 242, none⟩)] u fun x w' => (∃ u' ds' v', x = .returned u' ∧ It5 base R m zs p ts ds' v' w') ∧ Below base u w') := fun ds v u h hb => by have := takeIn_any base R nx xs o (rs.drop 1) ds v u h hb; rw [hT] at this; exact this
    generalize rs[0] = s at c0 OT ⊢
    have h1l : (1 : Int) ≤ (rs.length : Int) := by omega
    have hne0 : ¬ ((rs.length : Int) = 0) := by omega
    have hcl : (rs.length : Int) ≤ (cap : Int) := by omega
    clear hT
    rcases Nat.lt_or_ge 1 cap with h1 | h1
    · have h1c : (1 : Int) < (cap : Int) := by omega
      have J0 : Hid (It5 base R nx xs o (rs.drop 1) (ds.set 19 (.slice (some ⟨g, 1, none⟩) (rs.length - 1) (cap - 1))) (.slice (some ⟨g, 1, none⟩) (rs.length - 1) (cap - 1)) (w.setCell ⟨R, 261, none⟩ (.slice (some ⟨g, 1, none⟩) (rs.length - 1) (cap - 1)))) := ⟨h.ring.putAt 19 261 (by omega) (by omega) _, h.hold.setReady _, by rw [List.length_drop]; exact OT.tail.other (Ne.symm hneR) _, h.win, h.small, h.opn, by rw [List.length_drop]; have := h.many; omega, h.le⟩
      have B1 : Hid (Below base w (w.setCell ⟨R, 261, none⟩ (.slice (some ⟨g, 1, none⟩) (rs.length - 1) (cap - 1)))) := (Below.refl _ _).setCell (p := ⟨R, 261, none⟩) hlt.1 _
      clear h
      go_enter Try.func37, Try.ntmps37
      go_wp2_with (go_at_call 69; refine (HTI.out _ _ _ J0.out (by simpa using hbs)).mono ?_; rintro e w4 ⟨⟨u4, ds4, v4, rfl, hI4⟩, hb4⟩)
      go_ret2
      exact ⟨⟨ds4, v4, rfl, hI4⟩, B1.out.trans hb4⟩
    · obtain rfl : cap = 1 := by omega
      have h1c : Hid (rs.length = 1) := (by omega : rs.length = 1)
      have hd : rs.drop 1 = [] := List.drop_eq_nil_of_le (by omega)
      have J0 : Hid (It5 base R nx xs o (rs.drop 1) (ds.set 19 (.slice (some ⟨g, 0, none⟩) 0 0)) (.slice (some ⟨g, 0, none⟩) 0 0) (w.setCell ⟨R, 261, none⟩ (.slice (some ⟨g, 0, none⟩) 0 0))) := ⟨h.ring.putAt 19 261 (by omega) (by omega) _, h.hold.setReady _, (by have q := OT; rw [hd, h1c.out] at q; rw [hd]; exact (Orw.last q).other (Ne.symm hneR) _), h.win, h.small, h.opn, by rw [List.length_drop]; have := h.many; omega, h.le⟩
      have B1 : Hid (Below base w (w.setCell ⟨R, 261, none⟩ (.slice (some ⟨g, 0, none⟩) 0 0))) := (Below.refl _ _).setCell (p := ⟨R, 261, none⟩) hlt.1 _
      clear h
      go_enter Try.func37, Try.ntmps37
      go_wp2_with (go_at_call 69; refine (HTI.out _ _ _ J0.out (by simpa using hbs)).mono ?_; rintro e w4 ⟨⟨u4, ds4, v4, rfl, hI4⟩, hb4⟩)
      go_ret2
      exact ⟨⟨ds4, v4, rfl, hI4⟩, B1.out.trans hb4⟩
end Go.Proofs.Ythjncmgjkejikaa.mq.r

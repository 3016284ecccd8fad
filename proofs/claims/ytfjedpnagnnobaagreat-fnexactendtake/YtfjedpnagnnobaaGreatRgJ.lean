/-
  TAKING A PART: hold, whole; impl.TakePart.
-/
import Derived.Test.YtfjedpnagnnobaaGreatRgE
import Derived.Test.YtfjedpnagnnobaaGreatRgF
import Derived.Test.YtfjedpnagnnobaaGreatRgH
import Derived.Test.YtfjedpnagnnobaaGreatRgI
namespace Go.Proofs.YtfjedpnagnnobaaGreat.mk
open Go.RowKit
set_option linter.unusedVariables false

def Puts (nx : Nat) (xs : List Hd) (q : Int) (s : ByteArray) : Prop := NearIn (nx : Int) q ∧ s.size ≤ 20 ∧ ∀ y ∈ xs, y.seq ≠ q
open Classical in
noncomputable def heldBy (nx : Nat) (xs : List Hd) (q : Int) (s : ByteArray) (l : Bool) : List Hd := if Puts nx xs q s then ins ⟨q, s, l⟩ xs else xs
theorem heldBy_no {nx : Nat} {xs : List Hd} {q : Int} {s : ByteArray} {l : Bool} (h : ¬ Puts nx xs q s) : heldBy nx xs q s l = xs := by unfold heldBy; rw [if_neg h]
theorem heldBy_yes {nx : Nat} {xs : List Hd} {q : Int} {s : ByteArray} {l : Bool} (h : Puts nx xs q s) : heldBy nx xs q s l = ins ⟨q, s, l⟩ xs := by unfold heldBy; rw [if_pos h]
theorem hold_any (base R nx : Nat) (xs : List Hd) (o : ByteArray) (rs : List ByteArray) (ds : List Value) (v : Value) (q : Int) (s : ByteArray) (l : Bool) (w : World) (h : It5 base R nx xs o rs ds v w) (hs : s.size ≤ 1048576) :
    Calls Tryz.prog 94 #[.pointer (some ⟨R, 0, none⟩), .int .i64 q, .agg #[.string s, .bool l]] w fun x w' => (∃ u ds', x = .returned u ∧ It5 base R nx (heldBy nx xs q s l) o rs ds' v w') ∧ w.grownBy w' (some R) := by
  have hle := h.le
  by_cases hn : NearIn (nx : Int) q
  · by_cases h20 : 20 < s.size
    · rw [heldBy_no (fun hp => by have := hp.2.1; omega)]
      refine (hold_long base R q (nx : Int) ds s l w h.ring h.hold.next (by omega) (by omega) hs hn h20).mono ?_
      rintro x w' ⟨⟨u, rfl⟩, hb⟩
      exact ⟨⟨u, ds, rfl, h.keep hb⟩, grow_below _ hb⟩
    · obtain ⟨m, rfl⟩ : ∃ m : Nat, q = (m : Int) := ⟨q.toNat, by have := hn.1; omega⟩
      have hr : Rng nx ⟨(m : Int), s, l⟩ := by
        have h1 := hn.1
        have h2 := hn.2.1
        unfold Rng
        dsimp only
        omega
      by_cases hx : ∀ y ∈ xs, y.seq ≠ (m : Int)
      · have hin := has_no h.win hr hx
        simp only [Int.toNat_natCast] at hin
        rw [heldBy_yes ⟨hn, by omega, hx⟩]
        refine (hold_yes base R (bitsOf xs) m (nx : Int) ds s l w h.ring (bitsOf_lt _) h.hold.next h.hold.bits h.hold.ty (by omega) (by omega) hn.1 hn.2.1 hn.2.2 (by omega) hin).mono ?_
        rintro x w' ⟨⟨u, rfl⟩, hr', hg⟩
        have hH := h.hold.ins h.win hr hx
        simp only [Int.toNat_natCast] at hH
        refine ⟨⟨u, _, rfl, ⟨hr', hH, h.row.kept hg (.inr (Ne.symm (h.ring.ne h.row))), h.win.ins hr hx, fun i hi => ?_, h.opn, h.many, h.le⟩⟩, hg⟩
        rcases (mem_ins _ _ _).1 (List.getElem_mem hi) with e | e
        · rw [e]
          exact ⟨hn.2.2, by dsimp only; omega⟩
        · obtain ⟨k, hk, he⟩ := List.getElem_of_mem e
          rw [← he]
          exact h.small k hk
      · have hin : inB (bitsOf xs) (m % 8) = true := by
          have := has_yes (x := ⟨(m : Int), s, l⟩) (xs := xs) (Classical.byContradiction fun hc => hx (fun y hy e => hc ⟨y, hy, e⟩))
          simpa using this
        rw [heldBy_no (fun hp => hx hp.2.2)]
        refine (hold_has base R (bitsOf xs) m (nx : Int) ds s l w h.ring (bitsOf_lt _) h.hold.next h.hold.bits h.hold.ty (by omega) (by omega) hn (by omega) hin).mono ?_
        rintro x w' ⟨⟨u, rfl⟩, hb⟩
        exact ⟨⟨u, ds, rfl, h.keep hb⟩, grow_below _ hb⟩
  · rw [heldBy_no (fun hp => hn hp.1)]
    refine (hold_far base R q (nx : Int) ds s l w h.ring h.hold.next (by omega) (by omega) hs hn).mono ?_
    rintro x w' ⟨⟨u, rfl⟩, hb⟩
    exact ⟨⟨u, ds, rfl, h.keep hb⟩, grow_below _ hb⟩
theorem It5.of {base R nx : Nat} {xs : List Hd} {o : ByteArray} {rs : List ByteArray} {ds : List Value} {v : Value} {w : World} (hv : TkOk (nx : Int) xs o rs) (h1 : Tn base R ds w) (h2 : HoldT (nx : Int) xs o v ds) (h3 : w.ownsRow base 9 1 v rs.length (ss rs)) : It5 base R nx xs o rs ds v w := by
  have hd := hv.1
  unfold TkHd at hd
  exact ⟨h1, h2, h3, HsOk.win hv.2.2, fun i hi => ⟨(hv.2.2 i hi).2.2.1, (hv.2.2 i hi).2.2.2.1⟩, hd.2.2.1, hd.2.2.2, by omega⟩
open Classical in
noncomputable def partOf (nx : Int) (xs : List Hd) (o : ByteArray) (rs : List ByteArray) (q : Int) (s : ByteArray) (l : Bool) : Nat × List Hd × ByteArray × List ByteArray := if tkOk nx xs o rs = true then tin (heldBy nx.toNat xs q s l) nx.toNat o rs else (0, [], ⟨#[]⟩, [])
/-- an answer that is a Take, new from w on -/
def TakePost (w : World) (T : Nat × List Hd × ByteArray × List ByteArray) (e : Ending) (w' : World) : Prop :=
  (∃ hv v, e = .returned (.agg #[.int .i64 ((T.1 : Nat) : Int), hv, .string T.2.2.1, v]) ∧ w'.ownsRow w.heap.size 95 3 hv T.2.1.length (hs T.2.1) ∧ w'.ownsRow w.heap.size 9 1 v T.2.2.2.length (ss T.2.2.2)) ∧ Below w.heap.size w w'
theorem partOf_no {nx : Int} {xs : List Hd} {o : ByteArray} {rs : List ByteArray} {q : Int} {s : ByteArray} {l : Bool} (h : tkOk nx xs o rs = false) : partOf nx xs o rs q s l = (0, [], ⟨#[]⟩, []) := by unfold partOf; rw [if_neg (by simp [h])]
theorem partOf_yes {nx : Nat} {xs : List Hd} {o : ByteArray} {rs : List ByteArray} {q : Int} {s : ByteArray} {l : Bool} (h : tkOk (nx : Int) xs o rs = true) : partOf (nx : Int) xs o rs q s l = tin (heldBy nx xs q s l) nx o rs := by unfold partOf; rw [if_pos h, Int.toNat_natCast]
theorem three_below (w : World) (a b c : Obj) : Below w.heap.size w (((w.alloc a).alloc b).alloc c) := (((Below.refl _ _).alloc (Nat.le_refl _) _).alloc (by simp) _).alloc (by simp; omega) _
theorem res_cells {u : World} {B : Nat} {t : TypeId} {a b c d : Value} (h : u.heap[B]? = some (.cells #[a, b, c, d] t (0, 0))) : (u.cell? ⟨B, 0, none⟩ = some a ∧ u.cell? ⟨B, 1, none⟩ = some b ∧ u.cell? ⟨B, 2, none⟩ = some c ∧ u.cell? ⟨B, 3, none⟩ = some d) ∧ u.frozen? ⟨B, 0, none⟩ = false ∧ u.frozen? ⟨B, 1, none⟩ = false ∧ u.frozen? ⟨B, 2, none⟩ = false ∧ u.frozen? ⟨B, 3, none⟩ = false := by
  simp [World.cell?, World.frozen?, h]
end Go.Proofs.YtfjedpnagnnobaaGreat.mk

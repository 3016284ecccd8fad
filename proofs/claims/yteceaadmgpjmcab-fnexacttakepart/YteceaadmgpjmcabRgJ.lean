/-
  TAKING A PART: hold, whole; impl.TakePart.
-/
import Derived.Test.YteceaadmgpjmcabRgE
import Derived.Test.YteceaadmgpjmcabRgF
import Derived.Test.YteceaadmgpjmcabRgH
import Derived.Test.YteceaadmgpjmcabRgJ0
namespace Go.Proofs.Yteceaadmgpjmcab.mk
open Go.RowKit
set_option linter.unusedVariables false

theorem hold_any (base R nx : Nat) (xs : List Hd) (o : ByteArray) (rs : List ByteArray) (ds : List Value) (v : Value) (q : Int) (s : ByteArray) (l : Bool) (w : World) (h : It5 base R nx xs o rs ds v w) (hs : s.size ≤ 1048576) :
    Calls Try.prog 23 #[.pointer (some ⟨R, 0, none⟩), .int .i64 q, .agg #[.string s, .bool l]] w fun x w' => (∃ u ds', x = .returned u ∧ It5 base R nx (heldBy nx xs q s l) o rs ds' v w') ∧ w.grownBy w' (some R) := by
  have hle := h.le
  by_cases hn : NearIn (nx : Int) q
  · by_cases h20 : 20 < s.size
    · rw [heldBy_no (fun hp => by have := hp.2.1; omega)]
      refine (hold_long base R q (nx : Int) ds s l w h.ring h.hold.next (by omega) (by omega) hs hn h20).mono ?_
      rintro x w' ⟨⟨u, rfl⟩, hb⟩
      exact ⟨⟨u, ds, rfl, h.keep hb⟩, grow_below _ hb⟩
    · obtain ⟨m, rfl⟩ : ∃ m : Nat, q = (m : Int) := ⟨q.toNat, by have := hn.1; omega⟩
      have hr : Rng nx ⟨(m : Int), s, l⟩ := by
        have h1 := hn.1
        have h2 := hn.2.1
        unfold Rng
        dsimp only
        omega
      by_cases hx : ∀ y ∈ xs, y.seq ≠ (m : Int)
      · have hin := has_no h.win hr hx
        simp only [Int.toNat_natCast] at hin
        rw [heldBy_yes ⟨hn, by omega, hx⟩]
        refine (hold_yes base R (bitsOf xs) m (nx : Int) ds s l w h.ring (bitsOf_lt _) h.hold.next h.hold.bits h.hold.ty (by omega) (by omega) hn.1 hn.2.1 hn.2.2 (by omega) hin).mono ?_
        rintro x w' ⟨⟨u, rfl⟩, hr', hg⟩
        have hH := h.hold.ins h.win hr hx
        simp only [Int.toNat_natCast] at hH
        refine ⟨⟨u, _, rfl, ⟨hr', hH, h.row.kept hg (.inr (Ne.symm (h.ring.ne h.row))), h.win.ins hr hx, fun i hi => ?_, h.opn, h.many, h.le⟩⟩, hg⟩
        rcases (mem_ins _ _ _).1 (List.getElem_mem hi) with e | e
        · rw [e]
          exact ⟨hn.2.2, by dsimp only; omega⟩
        · obtain ⟨k, hk, he⟩ := List.getElem_of_mem e
          rw [← he]
          exact h.small k hk
      · have hin : inB (bitsOf xs) (m % 8) = true := by
          have := has_yes (x := ⟨(m : Int), s, l⟩) (xs := xs) (Classical.byContradiction fun hc => hx (fun y hy e => hc ⟨y, hy, e⟩))
          simpa using this
        rw [heldBy_no (fun hp => hx hp.2.2)]
        refine (hold_has base R (bitsOf xs) m (nx : Int) ds s l w h.ring (bitsOf_lt _) h.hold.next h.hold.bits h.hold.ty (by omega) (by omega) hn (by omega) hin).mono ?_
        rintro x w' ⟨⟨u, rfl⟩, hb⟩
        exact ⟨⟨u, ds, rfl, h.keep hb⟩, grow_below _ hb⟩
  · rw [heldBy_no (fun hp => hn hp.1)]
    refine (hold_far base R q (nx : Int) ds s l w h.ring h.hold.next (by omega) (by omega) hs hn).mono ?_
    rintro x w' ⟨⟨u, rfl⟩, hb⟩
    exact ⟨⟨u, ds, rfl, h.keep hb⟩, grow_below _ hb⟩
theorem It5.of {base R nx : Nat} {xs : List Hd} {o : ByteArray} {rs : List ByteArray} {ds : List Value} {v : Value} {w : World} (hv : TkOk (nx : Int) xs o rs) (h1 : Tn base R ds w) (h2 : HoldT (nx : Int) xs o v ds) (h3 : w.ownsRow base 9 1 v rs.length (ss rs)) : It5 base R nx xs o rs ds v w := by
  have hd := hv.1
  unfold TkHd at hd
  exact ⟨h1, h2, h3, HsOk.win hv.2.2, fun i hi => ⟨(hv.2.2 i hi).2.2.1, (hv.2.2 i hi).2.2.2.1⟩, hd.2.2.1, hd.2.2.2, by omega⟩
set_option maxHeartbeats 1000000 in
theorem implPart_no (nx : Int) (ao so : Option Addr) (ca cs : Nat) (xs : List Hd) (o : ByteArray) (rs : List ByteArray) (q : Int) (s : ByteArray) (l : Bool) (w : World) (hn : xs.length ≤ 1048576) (ht : ∀ i (h : i < xs.length), xs[i].text.size ≤ 1048576) (ho : o.size ≤ 1048576) (hk : rs.length ≤ 1048576) (hz : ∀ i (h : i < rs.length), rs[i].size ≤ 1048576) (hsz : s.size ≤ 1048576) (hr : Rt w ao so xs rs) (hv : tkOk nx xs o rs = false) :
    Calls Try.prog 9 #[.agg #[.int .i64 nx, .slice ao xs.length ca, .string o, .slice so rs.length cs], .int .i64 q, .agg #[.string s, .bool l]] w fun e w' => TakePost w (partOf nx xs o rs q s l) e w' := by
  have HC : Hid (∀ u : World, Rt u ao so xs rs → Calls Try.prog 21 #[.agg #[.int .i64 nx, .slice ao xs.length ca, .string o, .slice so rs.length cs]] u fun e w' => e = .returned (.bool false) ∧ Below u.heap.size u w') := fun u h => by have := implValidTake_any nx ao so ca cs xs o rs u hn ht ho hk hz h; rw [hv] at this; exact this
  have B0 : Hid (Below w.heap.size w (((w.alloc (.cells #[.int .i64 nx, .slice ao xs.length ca, .string o, .slice so rs.length cs] 32)).alloc (.cells #[.string s, .bool l] 35)).alloc (.cells #[.int .i64 0, .slice none 0 0, .string ⟨#[]⟩, .slice none 0 0] 32))) := three_below w _ _ _
  have R0 : Hid (Rt (((w.alloc (.cells #[.int .i64 nx, .slice ao xs.length ca, .string o, .slice so rs.length cs] 32)).alloc (.cells #[.string s, .bool l] 35)).alloc (.cells #[.int .i64 0, .slice none 0 0, .string ⟨#[]⟩, .slice none 0 0] 32)) ao so xs rs) := hr.keep B0.out
  have X0 : Hid ((((w.alloc (.cells #[.int .i64 nx, .slice ao xs.length ca, .string o, .slice so rs.length cs] 32)).alloc (.cells #[.string s, .bool l] 35)).alloc (.cells #[.int .i64 0, .slice none 0 0, .string ⟨#[]⟩, .slice none 0 0] 32)).heap[w.heap.size + 1 + 1]? = some (.cells #[.int .i64 0, .slice none 0 0, .string ⟨#[]⟩, .slice none 0 0] 32 (0, 0))) := (by have := heap_alloc_new ((w.alloc (.cells #[.int .i64 nx, .slice ao xs.length ca, .string o, .slice so rs.length cs] 32)).alloc (.cells #[.string s, .bool l] 35)) (.cells #[.int .i64 0, .slice none 0 0, .string ⟨#[]⟩, .slice none 0 0] 32); simpa using this : (((w.alloc (.cells #[.int .i64 nx, .slice ao xs.length ca, .string o, .slice so rs.length cs] 32)).alloc (.cells #[.string s, .bool l] 35)).alloc (.cells #[.int .i64 0, .slice none 0 0, .string ⟨#[]⟩, .slice none 0 0] 32)).heap[w.heap.size + 1 + 1]? = some (.cells #[.int .i64 0, .slice none 0 0, .string ⟨#[]⟩, .slice none 0 0] 32 (0, 0)))
  have T0 : Hid (partOf nx xs o rs q s l = (0, [], ⟨#[]⟩, [])) := partOf_no hv
  clear ht hz hr hv
  go_enter Try.func9, Try.ntmps9
  go_wp2_with (go_at_call 21; refine (HC.out _ R0.out).mono ?_; rintro e w1 ⟨rfl, hb1⟩; (obtain ⟨⟨y0, y1, y2, y3⟩, z0, z1, z2, z3⟩ := res_cells (hp_keep X0.out hb1)))
  have B1 := kb B0.out hb1 (Nat.le_refl _)
  refine bodyPost_ret (v := .agg #[.int .i64 0, .slice none 0 0, .string ⟨#[]⟩, .slice none 0 0]) (by simp [results, Try.results9, go_sem, y0, y1, y2, y3]) rfl ?_
  unfold TakePost
  rw [T0.out]
  exact ⟨⟨_, _, rfl, World.ownsRow_nil _ _ _ _, World.ownsRow_nil _ _ _ _⟩, (((B1.setCell (p := ⟨w.heap.size + 1 + 1, 0, none⟩) (by simp; omega) _).setCell (p := ⟨w.heap.size + 1 + 1, 1, none⟩) (by simp; omega) _).setCell (p := ⟨w.heap.size + 1 + 1, 2, none⟩) (by simp; omega) _).setCell (p := ⟨w.heap.size + 1 + 1, 3, none⟩) (by simp; omega) _⟩
end Go.Proofs.Yteceaadmgpjmcab.mk

import Derived.Test.YthjncmgjkejikaaGreatRgEq
import Derived.Test.YthjncmgjkejikaaGreatRgHq
import Derived.Test.YthjncmgjkejikaaGreatRgJ0
import Derived.Test.YthjncmgjkejikaaGreatEkA
import Derived.MapKept
import Derived.Carry
/-
  TAKING A PART in an actor: hold, whole.
-/
namespace Go.Proofs.YthjncmgjkejikaaGreat.mq
open Go.RowKit mk
set_option linter.unusedVariables false

theorem hold_any (base : Nat) (R : Loc) (nx : Nat) (xs : List Hd) (o : ByteArray) (rs : List ByteArray) (ds : List Value) (v : Value) (q : Int) (s : ByteArray) (l : Bool) (w : World) (h : It5 base R nx xs o rs ds v w) (hs : s.size ≤ 1048576) :
    Calls Tryz.prog 94 #[.pointer (some ⟨R, 242, none⟩), .int .i64 q, .agg #[.string s, .bool l]] w fun x w' => (∃ u ds', x = .returned u ∧ It5 base R nx (heldBy nx xs q s l) o rs ds' v w') ∧ w.grownBy w' (some R) := by
  have hle := h.le
  by_cases hn : NearIn (nx : Int) q
  · by_cases h20 : 20 < s.size
    · rw [heldBy_no (fun hp => by have := hp.2.1; omega)]
      refine (hold_long base R q (nx : Int) ds s l w h.ring h.hold.next (by omega) (by omega) hs hn h20).mono ?_
      rintro x w' ⟨⟨u, rfl⟩, hb⟩
      exact ⟨⟨u, ds, rfl, h.keep hb⟩, grow_below _ hb⟩
    · obtain ⟨m, rfl⟩ : ∃ m : Nat, q = (m : Int) := ⟨q.toNat, by have := hn.1; omega⟩
      have hr : Rng nx ⟨(m : Int), s, l⟩ := by
        have h1 := hn.1
        have h2 := hn.2.1
        unfold Rng
        dsimp only
        omega
      by_cases hx : ∀ y ∈ xs, y.seq ≠ (m : Int)
      · have hin := has_no h.win hr hx
        simp only [Int.toNat_natCast] at hin
        rw [heldBy_yes ⟨hn, by omega, hx⟩]
        refine (hold_yes base R (bitsOf xs) m (nx : Int) ds s l w h.ring (bitsOf_lt _) h.hold.next h.hold.bits h.hold.ty (by omega) (by omega) hn.1 hn.2.1 hn.2.2 (by omega) hin).mono ?_
        rintro x w' ⟨⟨u, rfl⟩, hr', hg⟩
        have hH := h.hold.ins h.win hr hx
        simp only [Int.toNat_natCast] at hH
        refine ⟨⟨u, _, rfl, ⟨hr', hH, h.row.kept hg (.inr (Ne.symm (h.ring.ne h.row))), h.win.ins hr hx, fun i hi => ?_, h.opn, h.many, h.le⟩⟩, hg⟩
        rcases (mem_ins _ _ _).1 (List.getElem_mem hi) with e | e
        · rw [e]
          exact ⟨hn.2.2, by dsimp only; omega⟩
        · obtain ⟨k, hk, he⟩ := List.getElem_of_mem e
          rw [← he]
          exact h.small k hk
      · have hin : inB (bitsOf xs) (m % 8) = true := by
          have := has_yes (x := ⟨(m : Int), s, l⟩) (xs := xs) (Classical.byContradiction fun hc => hx (fun y hy e => hc ⟨y, hy, e⟩))
          simpa using this
        rw [heldBy_no (fun hp => hx hp.2.2)]
        refine (hold_has base R (bitsOf xs) m (nx : Int) ds s l w h.ring (bitsOf_lt _) h.hold.next h.hold.bits h.hold.ty (by omega) (by omega) hn (by omega) hin).mono ?_
        rintro x w' ⟨⟨u, rfl⟩, hb⟩
        exact ⟨⟨u, ds, rfl, h.keep hb⟩, grow_below _ hb⟩
  · rw [heldBy_no (fun hp => hn hp.1)]
    refine (hold_far base R q (nx : Int) ds s l w h.ring h.hold.next (by omega) (by omega) hs hn).mono ?_
    rintro x w' ⟨⟨u, rfl⟩, hb⟩
    exact ⟨⟨u, ds, rfl, h.keep hb⟩, grow_below _ hb⟩
end Go.Proofs.YthjncmgjkejikaaGreat.mq
/-
  AN ACTOR that takes a packet: hearWord, beginPair.
-/
namespace Go.Proofs.YthjncmgjkejikaaGreat.mk
open Go.RowKit
set_option linter.unusedVariables false

set_option maxHeartbeats 2000000 in
theorem hearWord_any (base A : Nat) (num : Int) (up : Bool) (life peer since : Int) (owes : Bool) (b : Nat) (xs : List It) (nx : Nat) (hs : List Hd) (o : ByteArray) (rs : List ByteArray) (sf : List Value) (k f m y nxt msk sq : Int) (l : Bool) (p : ByteArray) (w : World) (h : Actr base A num up life peer since owes b xs nx hs o rs sf w) (hb : b ≤ 1000000) (hn : xs.length ≤ 60) (hv : ∀ i (h : i < xs.length), -1 ≤ xs[i].since ∧ xs[i].since ≤ 3) (hbs : base ≤ w.heap.size) :
    Calls Tryz.prog 83 #[.pointer (some ⟨A, 0, none⟩), .agg #[.int .i64 k, .int .i64 f, .int .i64 m, .int .i64 y, .int .i64 nxt, .int .i64 msk, .int .i64 sq, .bool l, .string p]] w fun x w' => (∃ u, x = .returned u) ∧ Actr base A num up life peer since owes (heard b xs nxt msk).1 (heard b xs nxt msk).2 nx hs o rs sf w' ∧ w.grownBy w' (some A) := by
  obtain ⟨cr, ds, v, h1, h2, h3, l1, l2, h4⟩ := h.ex
  have hA := h.lt
  have XB0 : Hid (Bx (w.alloc (.cells #[.int .i64 k, .int .i64 f, .int .i64 m, .int .i64 y, .int .i64 nxt, .int .i64 msk, .int .i64 sq, .bool l, .string p] 54)).drew w.heap.size 54 #[.int .i64 k, .int .i64 f, .int .i64 m, .int .i64 y, .int .i64 nxt, .int .i64 msk, .int .i64 sq, .bool l, .string p]) := (Bx.new w 54 _).keep (Below.refl _ _).drew
  have WB0 : Hid (Below w.heap.size w (w.alloc (.cells #[.int .i64 k, .int .i64 f, .int .i64 m, .int .i64 y, .int .i64 nxt, .int .i64 msk, .int .i64 sq, .bool l, .string p] 54)).drew) := ((Below.refl _ _).alloc (Nat.le_refl _) _).drew
  have HH : Hid (∀ u : World, Below w.heap.size w u → Calls Tryz.prog 107 #[.pointer (some ⟨A, 0, none⟩), .int .i64 nxt, .int .i64 msk] u fun x w' => (∃ v' cr', x = .returned v' ∧ w'.ownsRow base 114 274 (.slice (some ⟨A, 0, none⟩) 1 1) 1 (cr' ++ (ds ++ (.int .i64 num :: .bool up :: .int .i64 life :: .int .i64 peer :: .int .i64 since :: .bool owes :: sf))) ∧ cr'.length = 242 ∧ Holds (heard b xs nxt msk).1 (heard b xs nxt msk).2 cr') ∧ u.grownBy w' (some A)) := fun u hu => (hear_any base ⟨A, 114, 274, ds ++ (.int .i64 num :: .bool up :: .int .i64 life :: .int .i64 peer :: .int .i64 since :: .bool owes :: sf)⟩ b cr xs nxt msk u hb hn hv ⟨l1, ⟨by show (114 : TypeId) ≠ 3; decide, by show (114 : TypeId) ≠ 9; decide⟩, owns_keep h1 hu⟩ h2).mono fun x w' hp => by
    obtain ⟨⟨v', cr', e, hR, hH⟩, hg⟩ := hp
    exact ⟨⟨v', cr', e, hR.row, hR.length, hH⟩, hg⟩
  have H1 : Hid (w.ownsRow base 114 274 (.slice (some ⟨A, 0, none⟩) 1 1) 1 (cr ++ (ds ++ (.int .i64 num :: .bool up :: .int .i64 life :: .int .i64 peer :: .int .i64 since :: .bool owes :: sf)))) := h1
  have H4 : Hid (w.ownsRow base 9 1 v rs.length (ss rs)) := h4
  clear h hv h1 h2 h4
  go_enter Tryz.func83, Tryz.ntmps83
  go_wp2
  refine wp_region_held_drew (S := (fun w' => Bx w' w.heap.size 54 #[.int .i64 k, .int .i64 f, .int .i64 m, .int .i64 y, .int .i64 nxt, .int .i64 msk, .int .i64 sq, .bool l, .string p])) (by kernel_rfl) ?_ (fun hHeld => ?_)
  · exact XB0.out
  refine tkF 0 (some 4) ?_
  refine tkF 1 (some 5) ?_
  refine tkF 2 (some 6) ?_
  refine tkF 3 (some 7) ?_
  refine tkE 4 (some 8) ?_ ?_ ?_
  rotate_left
  · (intro w hSw; (have r4 := hSw.cell 4); simp at r4; (have r5 := hSw.cell 5); simp at r5; go_simp <;> with_reducible rfl)
  refine tkF 5 (some 9) ?_
  refine tkE 6 (some 10) ?_ ?_ ?_
  rotate_left
  · (intro w hSw; (have r4 := hSw.cell 4); simp at r4; (have r5 := hSw.cell 5); simp at r5; go_simp <;> with_reducible rfl)
  refine wpAnyH_ready (rs := [7]) (by kernel_rfl) (by simp) ?_
  refine AllReadyH.cons rfl (fun K hK => ?_) AllReadyH.nil
  go_simp
  refine (HH.out _ WB0.out).mono ?_
  rintro e w2 ⟨⟨v2, cr2, rfl, hR2, l3, hH2⟩, hg⟩
  (have hX := XB0.out)
  go_wp2_with fail
  refine hK.out _ _ ?_ (fun hHeld => ?_)
  · exact hX.kept hg (by simp; omega)
  clear hK K
  try simp only [Act.put, List.setIfInBounds_toArray, List.set_cons_zero, List.set_cons_succ]
  refine wpAnyH_done (by kernel_rfl) ?_ _
  go_wp2
  go_end0
  exact ⟨⟨_, rfl⟩, ⟨cr2, ds, v, hR2, hH2, h3, l3, l2, (owns_keep H4.out WB0.out).kept hg (.inr (ne_block H4.out H1.out (by decide)))⟩, (grow_below _ WB0.out).trans hg⟩
theorem zi_ty : Ty zi := by
  intro j hj
  refine ⟨⟨#[]⟩, false, ?_⟩
  rcases (show j = 0 ∨ j = 1 ∨ j = 2 ∨ j = 3 ∨ j = 4 ∨ j = 5 ∨ j = 6 ∨ j = 7 by omega) with rfl | rfl | rfl | rfl | rfl | rfl | rfl | rfl <;> exact ⟨by kernel_rfl, by kernel_rfl⟩
set_option maxHeartbeats 2000000 in
theorem beginPair_any (base A : Nat) (num : Int) (up : Bool) (life peer since : Int) (owes : Bool) (b : Nat) (xs : List It) (nx : Nat) (hs : List Hd) (o : ByteArray) (rs : List ByteArray) (sf : List Value) (m : Int) (w : World) (h : Actr base A num up life peer since owes b xs nx hs o rs sf w) (hbs : base ≤ w.heap.size) :
    Calls Tryz.prog 82 #[.pointer (some ⟨A, 0, none⟩), .int .i64 m] w fun x w' => (∃ u, x = .returned u) ∧ Actr base A num up life m since true 0 [] 0 [] ⟨#[]⟩ [] sf w' ∧ w.grownBy w' (some A) := by
  obtain ⟨cr, ds, v, h1, h2, h3, l1, l2, h4⟩ := h.ex
  have hA := h.lt
  have hl : (cr ++ (ds ++ (.int .i64 num :: .bool up :: .int .i64 life :: .int .i64 peer :: .int .i64 since :: .bool owes :: sf))).length = 274 := by have := h1.1; omega
  have TH1 : Hid (w.there A 0 zr.toArray.size) := row_there h1 0 _ (by rw [hl]; simp [zr_len])
  have R1 : Hid ((w.setCells A 0 zr).ownsRow base 114 274 (.slice (some ⟨A, 0, none⟩) 1 1) 1 (zr ++ (ds ++ (.int .i64 num :: .bool up :: .int .i64 life :: .int .i64 peer :: .int .i64 since :: .bool owes :: sf)))) := (row_setCells zr [] cr _ h1 (by rw [l1, zr_len]) : _)
  have TH2 : Hid ((w.setCells A 0 zr).there A 242 zi.toArray.size) := row_there R1.out 242 _ (by have := R1.out.1; simp [zi_len] at this ⊢; omega)
  have R2 : Hid (((w.setCells A 0 zr).setCells A 242 zi).ownsRow base 114 274 (.slice (some ⟨A, 0, none⟩) 1 1) 1 (zr ++ (zi ++ (.int .i64 num :: .bool up :: .int .i64 life :: .int .i64 peer :: .int .i64 since :: .bool owes :: sf)))) := (by have := row_setCells zi zr ds _ R1.out (by rw [l2, zi_len]); rw [zr_len] at this; exact this : _)
  have G2 : Hid (w.grownBy ((w.setCells A 0 zr).setCells A 242 zi) (some A)) := (grow_setCells A zr 0 w).trans (grow_setCells A zi 242 _)
  have A2 : Hid (Actr base A num up life peer since owes 0 [] 0 [] ⟨#[]⟩ [] sf ((w.setCells A 0 zr).setCells A 242 zi)) := ⟨zr, zi, .slice none 0 0, R2.out, ⟨zr_len, by kernel_rfl, by kernel_rfl, fun i h => absurd h (by simp)⟩, ⟨zi_len, by kernel_rfl, by kernel_rfl, zi_ty, fun i h => absurd h (by simp), by kernel_rfl, by kernel_rfl⟩, zr_len, zi_len, World.ownsRow_nil _ _ _ _⟩
  clear h h1 h2 h3 h4 hl R1 R2
  go_enter Tryz.func82, Tryz.ntmps82
  go_wp2_with (first
    | (refine wpList_zero rfl 103 rfl _ built_ring ?_)
    | (refine wpList_zero rfl 110 rfl _ built_intake ?_)
    | (refine wpList_store_mid rfl 103 _ _ rfl A 0 zr.toArray rfl rfl TH1.out size_ring one_ring ?_)
    | (refine wpList_store_mid rfl 110 _ _ rfl A 242 zi.toArray rfl rfl TH2.out size_intake one_intake ?_; (have A3 := A2.out); (have G3 := G2.out); generalize World.setCells (World.setCells w A 0 zr) A 242 zi = W3 at *; (obtain ⟨-, -, -, d3, d5, f3, f5⟩ := A3.cells))
    | fail)
  go_end0
  exact ⟨⟨_, rfl⟩, (A3.peered m).owe, (G3.trans (grow_set _ ⟨A, 265, none⟩ (.int .i64 m))).trans (grow_set _ ⟨A, 267, none⟩ (.bool true))⟩
end Go.Proofs.YthjncmgjkejikaaGreat.mk
/-
  AN ACTOR that takes a packet: takeData.
-/
namespace Go.Proofs.YthjncmgjkejikaaGreat.mk
open Go.RowKit
set_option linter.unusedVariables false

set_option maxHeartbeats 2000000 in
theorem takeData_any (base A : Nat) (num : Int) (up : Bool) (life peer since : Int) (owes : Bool) (b : Nat) (xs : List It) (nx : Nat) (hs : List Hd) (o : ByteArray) (rs : List ByteArray) (sf : List Value) (k f m y nxt msk sq : Int) (l : Bool) (p : ByteArray) (w : World) (h : Actr base A num up life peer since owes b xs nx hs o rs sf w) (ht : Tw nx hs o rs) (hps : p.size ≤ 1048576) (hbs : base ≤ w.heap.size) :
    Calls Tryz.prog 84 #[.pointer (some ⟨A, 0, none⟩), .agg #[.int .i64 k, .int .i64 f, .int .i64 m, .int .i64 y, .int .i64 nxt, .int .i64 msk, .int .i64 sq, .bool l, .string p]] w fun x w' => (∃ u, x = .returned u) ∧ Actr base A num up life peer since true b xs (tin (heldBy nx hs sq p l) nx o rs).1 (tin (heldBy nx hs sq p l) nx o rs).2.1 (tin (heldBy nx hs sq p l) nx o rs).2.2.1 (tin (heldBy nx hs sq p l) nx o rs).2.2.2 sf w' ∧ Tw (tin (heldBy nx hs sq p l) nx o rs).1 (tin (heldBy nx hs sq p l) nx o rs).2.1 (tin (heldBy nx hs sq p l) nx o rs).2.2.1 (tin (heldBy nx hs sq p l) nx o rs).2.2.2 ∧ Below base w w' := by
  obtain ⟨cr, ds, v, h1, h2, h3, l1, l2, h4⟩ := h.ex
  have hA := h.lt
  have XB0 : Hid (Bx (w.alloc (.cells #[.int .i64 k, .int .i64 f, .int .i64 m, .int .i64 y, .int .i64 nxt, .int .i64 msk, .int .i64 sq, .bool l, .string p] 54)).drew w.heap.size 54 #[.int .i64 k, .int .i64 f, .int .i64 m, .int .i64 y, .int .i64 nxt, .int .i64 msk, .int .i64 sq, .bool l, .string p]) := (Bx.new w 54 _).keep (Below.refl _ _).drew
  have WB0 : Hid (Below w.heap.size w (w.alloc (.cells #[.int .i64 k, .int .i64 f, .int .i64 m, .int .i64 y, .int .i64 nxt, .int .i64 msk, .int .i64 sq, .bool l, .string p] 54)).drew) := ((Below.refl _ _).alloc (Nat.le_refl _) _).drew
  obtain ⟨ys, hys⟩ : ∃ ys, ys = heldBy nx hs sq p l := ⟨_, rfl⟩
  rw [← hys]
  obtain ⟨n2, zs, o2, ts, hT⟩ : ∃ n2 zs o2 ts, tin ys nx o rs = (n2, zs, o2, ts) := ⟨_, _, _, _, rfl⟩
  rw [hT]
  have HHO : Hid (∀ u : World, Below w.heap.size w u → Calls Tryz.prog 94 #[.pointer (some ⟨A, 242, none⟩), .int .i64 sq, .agg #[.string p, .bool l]] u fun x w' => (∃ u' ds', x = .returned u' ∧ mq.It5 base ⟨A, 114, 274, cr, .int .i64 num :: .bool up :: .int .i64 life :: .int .i64 peer :: .int .i64 since :: .bool owes :: sf⟩ nx ys o rs ds' v w') ∧ u.grownBy w' (some A)) := fun u hu => by
    rw [hys]
    exact mq.hold_any base ⟨A, 114, 274, cr, .int .i64 num :: .bool up :: .int .i64 life :: .int .i64 peer :: .int .i64 since :: .bool owes :: sf⟩ nx hs o rs ds v sq p l u ⟨⟨l2, l1, ⟨by show (114 : TypeId) ≠ 9; decide, by show (114 : TypeId) ≠ 95; decide⟩, owns_keep h1 hu⟩, h3, owns_keep h4 hu, ht.win, ht.small, ht.opn, ht.many, ht.le⟩ hps
  have HTI : Hid (∀ (ds : List Value) (u : World), mq.It5 base ⟨A, 114, 274, cr, .int .i64 num :: .bool up :: .int .i64 life :: .int .i64 peer :: .int .i64 since :: .bool owes :: sf⟩ nx ys o rs ds v u → base ≤ u.heap.size → Calls Tryz.prog 108 #[.pointer (some ⟨A, 242, none⟩)] u fun x w' => (∃ u' ds' v', x = .returned u' ∧ mq.It5 base ⟨A, 114, 274, cr, .int .i64 num :: .bool up :: .int .i64 life :: .int .i64 peer :: .int .i64 since :: .bool owes :: sf⟩ n2 zs o2 ts ds' v' w') ∧ Below base u w') := fun ds u hI hu => by
    have := mq.takeIn_any base ⟨A, 114, 274, cr, .int .i64 num :: .bool up :: .int .i64 life :: .int .i64 peer :: .int .i64 since :: .bool owes :: sf⟩ nx ys o rs ds v u hI hu
    rw [hT] at this
    exact this
  have H2 : Hid (Holds b xs cr) := h2
  clear h h1 h2 h3 h4 ht hys hT
  go_enter Tryz.func84, Tryz.ntmps84
  go_wp2
  refine wp_region_held_drew (S := (fun w' => Bx w' w.heap.size 54 #[.int .i64 k, .int .i64 f, .int .i64 m, .int .i64 y, .int .i64 nxt, .int .i64 msk, .int .i64 sq, .bool l, .string p])) (by kernel_rfl) ?_ (fun hHeld => ?_)
  · exact XB0.out
  refine tkF 0 (some 4) ?_
  refine tkF 1 (some 5) ?_
  refine tkF 2 (some 6) ?_
  refine tkF 3 (some 7) ?_
  refine tkE 4 (some 8) ?_ ?_ ?_
  rotate_left
  · (intro w hSw; (have r6 := hSw.cell 6); simp at r6; (have r7 := hSw.cell 7); simp at r7; (have r8 := hSw.cell 8); simp at r8; go_simp <;> with_reducible rfl)
  refine tkF 5 (some 9) ?_
  refine tkE 6 (some 10) ?_ ?_ ?_
  rotate_left
  · (intro w hSw; (have r6 := hSw.cell 6); simp at r6; (have r7 := hSw.cell 7); simp at r7; (have r8 := hSw.cell 8); simp at r8; go_simp <;> with_reducible rfl)
  refine tkF 7 (some 11) ?_
  refine tkE 8 (some 12) ?_ ?_ ?_
  rotate_left
  · (intro w hSw; (have r6 := hSw.cell 6); simp at r6; (have r7 := hSw.cell 7); simp at r7; (have r8 := hSw.cell 8); simp at r8; go_simp <;> with_reducible rfl)
  refine tkF 9 (some 13) ?_
  refine wpAnyH_ready (rs := [10]) (by kernel_rfl) (by simp) ?_
  refine AllReadyH.cons rfl (fun K hK => ?_) AllReadyH.nil
  go_simp
  refine (HHO.out _ WB0.out).mono ?_
  rintro e w2 ⟨⟨u2, ds2, rfl, hI2⟩, hg⟩
  (have hX := XB0.out)
  go_wp2_with fail
  refine hK.out _ _ ?_ (fun hHeld => ?_)
  · exact hX.kept hg (by simp; omega)
  clear hK K
  try simp only [Act.put, List.setIfInBounds_toArray, List.set_cons_zero, List.set_cons_succ]
  refine wpAnyH_done (by kernel_rfl) ?_ _
  have B2 := (WB0.out.mono hbs).grown hg (Nat.le_trans hbs WB0.out.size) (fun j hj => by injection hj with hj; omega)
  go_wp2_with (first
    | (go_at_call 108; refine (HTI.out ds2 _ hI2 (Nat.le_trans hbs B2.size)).mono ?_; rintro e w3 ⟨⟨u3, ds3, v3, rfl, hI3⟩, hb3⟩; (have A3 : Actr base A num up life peer since owes b xs n2 zs o2 ts sf w3 := ⟨cr, ds3, v3, hI3.ring.row, H2.out, hI3.hold, l1, hI3.ring.length, hI3.row⟩); (obtain ⟨-, -, -, -, d5, -, f5⟩ := A3.cells))
    | fail)
  go_end0
  exact ⟨⟨_, rfl⟩, A3.owe, ⟨hI3.win, hI3.small, hI3.opn, hI3.many, hI3.le⟩, (B2.trans hb3).setCell (p := ⟨A, 267, none⟩) hA.1 _⟩
end Go.Proofs.YthjncmgjkejikaaGreat.mk
/-
  A MAP of two functions, laid and read.
-/
namespace Go.Proofs.YthjncmgjkejikaaGreat.mk
open Go.RowKit
set_option linter.unusedVariables false

theorem run_mapPut {P : Program} {w : World} {mty kt et : TypeId} {r clock : Nat} {es : Array MapEntry} (n : Int) (val : Value) (hm : P.underlying mty = some (.map kt et)) (hk : P.underlying kt = some (.int .i64)) (hb : w.heap[r]? = some (.map es clock)) (hf : Instr.findNow (.int .i64) (.int .i64 n) es.toList 0 = some none) :
    (Instr.mapUpdate mty (.map (some r)) (.int .i64 n) val).run P w = .ok () { w with heap := w.heap.setIfInBounds r (.map (es.push { key := .int .i64 n, val := val, born := clock }) (clock + 1)) } := by
  have hc : (Instr.checkKey false 10000 kt (.int .i64 n)).run P w = .ok () w := MapKept.run_checkKey (k := .int .i64 n) hk (by simp [MapKept.IsKey]) false 9999
  simp [Instr.mapUpdate, run_underlying hm, MapKept.run_getObj_map hb, hc, MapKept.run_findKey hk hf, MapKept.run_setObj_map _ hb, Result.andThen]
theorem run_mapGet {P : Program} {w : World} {mty kt et : TypeId} {r clock : Nat} {es : Array MapEntry} (n : Int) (i : Nat) (val : Value) (hm : P.underlying mty = some (.map kt et)) (hk : P.underlying kt = some (.int .i64)) (hb : w.heap[r]? = some (.map es clock)) (hf : Instr.findNow (.int .i64) (.int .i64 n) es.toList 0 = some (some (i, val))) :
    (Instr.lookup mty (.map (some r)) (.int .i64 n) false).run P w = .ok val w := by
  have hc : (Instr.checkKey es.isEmpty 10000 kt (.int .i64 n)).run P w = .ok () w := MapKept.run_checkKey (k := .int .i64 n) hk (by simp [MapKept.IsKey]) _ 9999
  simp [Instr.lookup, run_underlying hm, MapKept.run_getObj_map hb, hc, MapKept.run_findKey hk hf, Result.andThen]
theorem deeds_laid (w : World) (F G : Value) : ∃ M1 M2 : World, (Instr.mapUpdate 131 (.map (some w.heap.size)) (.int .i64 1) F).run Tryz.prog (w.alloc (.map #[] 0)) = .ok () M1 ∧ (Instr.mapUpdate 131 (.map (some w.heap.size)) (.int .i64 2) G).run Tryz.prog M1 = .ok () M2 ∧ (Instr.lookup 131 (.map (some w.heap.size)) (.int .i64 1) false).run Tryz.prog M2 = .ok F M2 ∧ (Instr.lookup 131 (.map (some w.heap.size)) (.int .i64 2) false).run Tryz.prog M2 = .ok G M2 ∧ Below w.heap.size w M2 := by
  have h0 : (w.alloc (.map #[] 0)).heap[w.heap.size]? = some (.map #[] 0) := heap_alloc_new w _
  have e1 := run_mapPut (P := Tryz.prog) (w := w.alloc (.map #[] 0)) 1 F Tryz.underlying131 Tryz.underlying3 h0 rfl
  obtain ⟨M1, hM1⟩ : ∃ M1 : World, M1 = { (w.alloc (.map #[] 0)) with heap := (w.alloc (.map #[] 0)).heap.setIfInBounds w.heap.size (.map (#[].push { key := .int .i64 1, val := F, born := 0 }) (0 + 1)) } := ⟨_, rfl⟩
  have b1 : Below w.heap.size w M1 := by
    rw [hM1]
    refine ⟨rfl, rfl, rfl, by simp, fun k hk => ?_⟩
    have h1 : (w.alloc (.map #[] 0)).heap[k]? = w.heap[k]? := ((Below.refl w.heap.size w).alloc (Nat.le_refl _) (.map #[] 0)).block k hk
    simp only [Array.getElem?_setIfInBounds]
    rw [if_neg (by omega)]
    exact h1
  have h1 : M1.heap[w.heap.size]? = some (.map (#[].push { key := .int .i64 1, val := F, born := 0 }) (0 + 1)) := by
    rw [hM1]
    have : w.heap.size < (w.alloc (.map #[] 0)).heap.size := by simp
    simp only [Array.getElem?_setIfInBounds]
    rw [if_pos trivial, if_pos this]
  have e2 := run_mapPut (P := Tryz.prog) (w := M1) 2 G Tryz.underlying131 Tryz.underlying3 h1 rfl
  obtain ⟨M2, hM2⟩ : ∃ M2 : World, M2 = { M1 with heap := M1.heap.setIfInBounds w.heap.size (.map ((#[].push { key := .int .i64 1, val := F, born := 0 }).push { key := .int .i64 2, val := G, born := 0 + 1 }) (0 + 1 + 1)) } := ⟨_, rfl⟩
  have b2 : Below w.heap.size w M2 := by
    rw [hM2]
    refine ⟨b1.os, b1.tape, b1.output, by simpa using b1.size, fun k hk => ?_⟩
    simp only [Array.getElem?_setIfInBounds]
    rw [if_neg (by omega)]
    exact b1.block k hk
  have h2 : M2.heap[w.heap.size]? = some (.map ((#[].push { key := .int .i64 1, val := F, born := 0 }).push { key := .int .i64 2, val := G, born := 0 + 1 }) (0 + 1 + 1)) := by
    rw [hM2]
    have : w.heap.size < M1.heap.size := (Array.getElem?_eq_some_iff.1 h1).1
    simp only [Array.getElem?_setIfInBounds]
    rw [if_pos trivial, if_pos this]
  refine ⟨M1, M2, by rw [hM1]; exact e1, by rw [hM2]; exact e2, run_mapGet 1 0 F Tryz.underlying131 Tryz.underlying3 h2 rfl, run_mapGet 2 1 G Tryz.underlying131 Tryz.underlying3 h2 rfl, b2⟩
end Go.Proofs.YthjncmgjkejikaaGreat.mk
/-
  AN ACTOR that takes a packet: receive.
-/
namespace Go.Proofs.YthjncmgjkejikaaGreat.mk
open Go.RowKit
set_option linter.unusedVariables false

theorem Bx.cells9e {u : World} {B : Nat} {t : TypeId} {c0 c1 c2 c3 c4 c5 c6 c7 c8 : Value} (h : Bx u B t #[c0, c1, c2, c3, c4, c5, c6, c7, c8]) : u.cell? ⟨B, 0, none⟩ = some c0 ∧ u.cell? ⟨B, 1, none⟩ = some c1 ∧ u.cell? ⟨B, 2, none⟩ = some c2 ∧ u.cell? ⟨B, 3, none⟩ = some c3 ∧ u.cell? ⟨B, 4, none⟩ = some c4 ∧ u.cell? ⟨B, 5, none⟩ = some c5 ∧ u.cell? ⟨B, 6, none⟩ = some c6 ∧ u.cell? ⟨B, 7, none⟩ = some c7 ∧ u.cell? ⟨B, 8, none⟩ = some c8 :=
  ⟨h.cell 0, h.cell 1, h.cell 2, h.cell 3, h.cell 4, h.cell 5, h.cell 6, h.cell 7, h.cell 8⟩
theorem tw_zero : Tw 0 [] ⟨#[]⟩ [] := ⟨⟨fun i h => absurd h (by simp), fun i j hi => absurd hi (by simp)⟩, fun i h => absurd h (by simp), by decide, by decide, by decide⟩
set_option maxHeartbeats 2000000 in
theorem recv_no (base A : Nat) (num : Int) (up : Bool) (life peer since : Int) (owes : Bool) (b : Nat) (xs : List It) (nx : Nat) (hs : List Hd) (o : ByteArray) (rs : List ByteArray) (sf : List Value) (k f m y nxt msk sq : Int) (l : Bool) (p : ByteArray) (w : World) (h : Actr base A num up life peer since owes b xs nx hs o rs sf w) (hh : heedsP num up peer k f m y nxt msk sq l p = false) (hbs : base ≤ w.heap.size) :
    Calls Tryz.prog 41 #[.pointer (some ⟨A, 0, none⟩), .agg #[.int .i64 k, .int .i64 f, .int .i64 m, .int .i64 y, .int .i64 nxt, .int .i64 msk, .int .i64 sq, .bool l, .string p]] w fun x w' => (∃ u, x = .returned u) ∧ Actr base A num up life peer since owes b xs nx hs o rs sf w' ∧ Below base w w' := by
  have WB0 : Hid (Below w.heap.size w (w.alloc (.cells #[.int .i64 k, .int .i64 f, .int .i64 m, .int .i64 y, .int .i64 nxt, .int .i64 msk, .int .i64 sq, .bool l, .string p] 54))) := (Below.refl _ _).alloc (Nat.le_refl _) _
  have HE : Hid (∀ u : World, Actr base A num up life peer since owes b xs nx hs o rs sf u → Calls Tryz.prog 81 #[.pointer (some ⟨A, 0, none⟩), .agg #[.int .i64 k, .int .i64 f, .int .i64 m, .int .i64 y, .int .i64 nxt, .int .i64 msk, .int .i64 sq, .bool l, .string p]] u fun x w' => x = .returned (.bool false) ∧ Below u.heap.size u w') := fun u hu => by
    have := heeds_any A k f m y nxt msk sq l p num up peer u hu.cells.1 hu.cells.2.1 hu.cells.2.2.2.1
    rw [hh] at this
    exact this
  have HA : Hid (Actr base A num up life peer since owes b xs nx hs o rs sf w) := h
  clear h hh
  go_enter Tryz.func41, Tryz.ntmps41
  go_wp2_with (first
    | (go_at_call 81; refine (HE.out _ (HA.out.keep WB0.out)).mono ?_; rintro x w1 ⟨rfl, hb1⟩)
    | fail)
  exact bodyPost_ret (v := .tuple #[]) (by simp [results, Tryz.results41, go_sem]) rfl ⟨⟨_, rfl⟩, (HA.out.keep WB0.out).keep hb1, (kb WB0.out hb1 (Nat.le_refl _)).mono hbs⟩
set_option maxHeartbeats 2000000 in
theorem recv_SO (base A : Nat) (num : Int) (up : Bool) (life peer since : Int) (owes : Bool) (b : Nat) (xs : List It) (nx : Nat) (hs : List Hd) (o : ByteArray) (rs : List ByteArray) (sf : List Value) (k f y nxt msk sq : Int) (l : Bool) (p : ByteArray) (w : World) (h : Actr base A num up life peer since owes b xs nx hs o rs sf w) (hh : heedsP num up peer k f peer y nxt msk sq l p = true)  (hy : y ≠ life) (hbs : base ≤ w.heap.size) :
    Calls Tryz.prog 41 #[.pointer (some ⟨A, 0, none⟩), .agg #[.int .i64 k, .int .i64 f, .int .i64 peer, .int .i64 y, .int .i64 nxt, .int .i64 msk, .int .i64 sq, .bool l, .string p]] w fun x w' => (∃ u, x = .returned u) ∧ Actr base A num up life peer since true b xs nx hs o rs sf w' ∧ Below base w w' := by
  have hA := h.lt
  have XB0 : Hid (Bx (w.alloc (.cells #[.int .i64 k, .int .i64 f, .int .i64 peer, .int .i64 y, .int .i64 nxt, .int .i64 msk, .int .i64 sq, .bool l, .string p] 54)) w.heap.size 54 #[.int .i64 k, .int .i64 f, .int .i64 peer, .int .i64 y, .int .i64 nxt, .int .i64 msk, .int .i64 sq, .bool l, .string p]) := Bx.new w 54 _
  have WB0 : Hid (Below w.heap.size w (w.alloc (.cells #[.int .i64 k, .int .i64 f, .int .i64 peer, .int .i64 y, .int .i64 nxt, .int .i64 msk, .int .i64 sq, .bool l, .string p] 54))) := (Below.refl _ _).alloc (Nat.le_refl _) _
  have HE : Hid (∀ u : World, Actr base A num up life peer since owes b xs nx hs o rs sf u → Calls Tryz.prog 81 #[.pointer (some ⟨A, 0, none⟩), .agg #[.int .i64 k, .int .i64 f, .int .i64 peer, .int .i64 y, .int .i64 nxt, .int .i64 msk, .int .i64 sq, .bool l, .string p]] u fun x w' => x = .returned (.bool true) ∧ Below u.heap.size u w') := fun u hu => by
    have := heeds_any A k f peer y nxt msk sq l p num up peer u hu.cells.1 hu.cells.2.1 hu.cells.2.2.2.1
    rw [hh] at this
    exact this
  have HA : Hid (Actr base A num up life peer since owes b xs nx hs o rs sf w) := h
  clear h hh
  have hy1 : (y != life) = true := by simpa using hy
  have hy2 : decide (y = life) = false := by simpa using hy
  go_enter Tryz.func41, Tryz.ntmps41
  go_wp2_with (first
    | (go_at_call 81; refine (HE.out _ (HA.out.keep WB0.out)).mono ?_; rintro x w1 ⟨rfl, hb1⟩; (have A1 := (HA.out.keep WB0.out).keep hb1); (have X1 := XB0.out.keep hb1); (have s1 := hb1.size); (obtain ⟨d0, d1, d2, d3, d5, f3, f5⟩ := A1.cells); (obtain ⟨p0, p1, p2, p3, p4, p5, p6, p7, p8⟩ := X1.cells9e))
    | fail)
  refine wp_region_held_drew (S := (fun w' => Below w1.heap.size w1 w')) (by kernel_rfl) ?_ (fun hHeld => ?_)
  · exact (Below.refl _ _).drew
  refine tkF 0 (some 9) ?_
  refine tkE 1 (some 10) ?_ ?_ ?_
  rotate_left
  · (intro w hSw; (have hp2 := cell_keep p2 hSw); (have hd3 := cell_keep d3 hSw); go_simp <;> with_reducible rfl)
  refine tkF 2 (some 11) ?_
  refine tkF 3 (some 12) ?_
  refine tkF 4 (some 13) ?_
  refine tkF 5 (some 14) ?_
  refine tkE 6 (some 15) ?_ ?_ ?_
  rotate_left
  · (intro w hSw; (have hp2 := cell_keep p2 hSw); (have hd3 := cell_keep d3 hSw); go_simp <;> with_reducible rfl)
  refine takeD (i := 7) (d := some 16) (v := .bool false) rfl rfl (by kernel_rfl) (by kernel_rfl) (by kernel_rfl) (fun _ _ _ h => h) (Or.inl ⟨by rfl, (by intro w hSw; first | (go_simp; done) | (go_simp; first | rfl | simp))⟩) (by assumption) ?_
  simp only [Act.put, List.setIfInBounds_toArray, List.set_cons_zero, List.set_cons_succ]
  refine wpAnyH_done (by kernel_rfl) ?_ _
  have A1d := A1.keep hHeld
  have X1d := X1.keep hHeld
  have B1 : Below base w w1.drew := (kb (kb WB0.out hb1 (Nat.le_refl _)) hHeld (Nat.le_refl _)).mono hbs
  have S1 : w.heap.size < w1.drew.heap.size := X1d.lt
  clear d0 d1 d2 d3 d5 f3 f5 p0 p1 p2 p3 p4 p5 p6 p7 p8
  clear A1 X1 hHeld s1 hb1
  generalize w1.drew = w1d at *
  rename World => w2
  have A2 := A1d
  have X2 := X1d
  have B2 := B1
  have S2 := S1
  clear A1d X1d B1 S1
  (obtain ⟨d0, d1, d2, d3, d5, f3, f5⟩ := A2.cells)
  (obtain ⟨p0, p1, p2, p3, p4, p5, p6, p7, p8⟩ := X2.cells9e)
  go_wp2
  refine wp_region_held_drew (S := (fun w' => Below w2.heap.size w2 w')) (by kernel_rfl) ?_ (fun hHeld => ?_)
  · exact (Below.refl _ _).drew
  refine tkF 0 (some 21) ?_
  refine tkE 1 (some 22) ?_ ?_ ?_
  rotate_left
  · (intro w hSw; (have hp3 := cell_keep p3 hSw); (have hd2 := cell_keep d2 hSw); go_simp <;> with_reducible rfl)
  refine tkF 2 (some 23) ?_
  refine tkF 3 (some 24) ?_
  refine tkF 4 (some 25) ?_
  refine tkF 5 (some 26) ?_
  refine tkE 6 (some 27) ?_ ?_ ?_
  rotate_left
  · (intro w hSw; (have hp3 := cell_keep p3 hSw); (have hd2 := cell_keep d2 hSw); go_simp <;> with_reducible rfl)
  refine takeD (i := 7) (d := some 28) (v := .bool true) rfl rfl (by kernel_rfl) (by kernel_rfl) (by kernel_rfl) (fun _ _ _ h => h) (Or.inl ⟨by rfl, (by intro w hSw; first | (go_simp; done) | (go_simp; first | rfl | simp [hy1, hy2, hy] | (simp; omega)))⟩) (by assumption) ?_
  simp only [Act.put, List.setIfInBounds_toArray, List.set_cons_zero, List.set_cons_succ]
  refine wpAnyH_done (by kernel_rfl) ?_ _
  have A3 := A2.keep hHeld
  have X3 := X2.keep hHeld
  have B3 : Below base w w2.drew := B2.trans (hHeld.mono (Nat.le_trans hbs (Nat.le_of_lt S2)))
  clear d0 d1 d2 d3 d5 f3 f5 p0 p1 p2 p3 p4 p5 p6 p7 p8
  clear A2 X2 hHeld
  have S3 : w.heap.size < w2.drew.heap.size := X3.lt
  generalize w2.drew = w3 at *
  (obtain ⟨d0, d1, d2, d3, d5, f3, f5⟩ := A3.cells)
  (obtain ⟨p0, p1, p2, p3, p4, p5, p6, p7, p8⟩ := X3.cells9e)
  go_wp2
  exact bodyPost_ret (v := .tuple #[]) (by simp [results, Tryz.results41, go_sem]) rfl ⟨⟨_, rfl⟩, A3.owe, B3.setCell (p := ⟨A, 267, none⟩) hA.1 _⟩
set_option maxHeartbeats 2000000 in
theorem recv_SW (base A : Nat) (num : Int) (up : Bool) (life peer since : Int) (owes : Bool) (b : Nat) (xs : List It) (nx : Nat) (hs : List Hd) (o : ByteArray) (rs : List ByteArray) (sf : List Value) (f nxt msk sq : Int) (l : Bool) (p : ByteArray) (w : World) (h : Actr base A num up life peer since owes b xs nx hs o rs sf w) (hh : heedsP num up peer 1 f peer life nxt msk sq l p = true)   (hb : b ≤ 1000000) (hn : xs.length ≤ 60) (hv : ∀ i (h : i < xs.length), -1 ≤ xs[i].since ∧ xs[i].since ≤ 3) (hbs : base ≤ w.heap.size) :
    Calls Tryz.prog 41 #[.pointer (some ⟨A, 0, none⟩), .agg #[.int .i64 1, .int .i64 f, .int .i64 peer, .int .i64 life, .int .i64 nxt, .int .i64 msk, .int .i64 sq, .bool l, .string p]] w fun x w' => (∃ u, x = .returned u) ∧ Actr base A num up life peer since owes (heard b xs nxt msk).1 (heard b xs nxt msk).2 nx hs o rs sf w' ∧ Below base w w' := by
  have hA := h.lt
  have XB0 : Hid (Bx (w.alloc (.cells #[.int .i64 1, .int .i64 f, .int .i64 peer, .int .i64 life, .int .i64 nxt, .int .i64 msk, .int .i64 sq, .bool l, .string p] 54)) w.heap.size 54 #[.int .i64 1, .int .i64 f, .int .i64 peer, .int .i64 life, .int .i64 nxt, .int .i64 msk, .int .i64 sq, .bool l, .string p]) := Bx.new w 54 _
  have WB0 : Hid (Below w.heap.size w (w.alloc (.cells #[.int .i64 1, .int .i64 f, .int .i64 peer, .int .i64 life, .int .i64 nxt, .int .i64 msk, .int .i64 sq, .bool l, .string p] 54))) := (Below.refl _ _).alloc (Nat.le_refl _) _
  have HE : Hid (∀ u : World, Actr base A num up life peer since owes b xs nx hs o rs sf u → Calls Tryz.prog 81 #[.pointer (some ⟨A, 0, none⟩), .agg #[.int .i64 1, .int .i64 f, .int .i64 peer, .int .i64 life, .int .i64 nxt, .int .i64 msk, .int .i64 sq, .bool l, .string p]] u fun x w' => x = .returned (.bool true) ∧ Below u.heap.size u w') := fun u hu => by
    have := heeds_any A 1 f peer life nxt msk sq l p num up peer u hu.cells.1 hu.cells.2.1 hu.cells.2.2.2.1
    rw [hh] at this
    exact this
  have HD : Hid (∀ u : World, Actr base A num up life peer since owes b xs nx hs o rs sf u → base ≤ u.heap.size → Calls Tryz.prog 83 #[.pointer (some ⟨A, 0, none⟩), .agg #[.int .i64 1, .int .i64 f, .int .i64 peer, .int .i64 life, .int .i64 nxt, .int .i64 msk, .int .i64 sq, .bool l, .string p]] u fun x w' => (∃ u, x = .returned u) ∧ Actr base A num up life peer since owes (heard b xs nxt msk).1 (heard b xs nxt msk).2 nx hs o rs sf w' ∧ u.grownBy w' (some A)) := fun u hu hbs => hearWord_any base A num up life peer since owes b xs nx hs o rs sf 1 f peer life nxt msk sq l p u hu hb hn hv hbs
  have HA : Hid (Actr base A num up life peer since owes b xs nx hs o rs sf w) := h
  clear h hh hv
  go_enter Tryz.func41, Tryz.ntmps41
  go_wp2_with (first
    | (go_at_call 81; refine (HE.out _ (HA.out.keep WB0.out)).mono ?_; rintro x w1 ⟨rfl, hb1⟩; (have A1 := (HA.out.keep WB0.out).keep hb1); (have X1 := XB0.out.keep hb1); (have s1 := hb1.size); (obtain ⟨d0, d1, d2, d3, d5, f3, f5⟩ := A1.cells); (obtain ⟨p0, p1, p2, p3, p4, p5, p6, p7, p8⟩ := X1.cells9e))
    | fail)
  refine wp_region_held_drew (S := (fun w' => Below w1.heap.size w1 w')) (by kernel_rfl) ?_ (fun hHeld => ?_)
  · exact (Below.refl _ _).drew
  refine tkF 0 (some 9) ?_
  refine tkE 1 (some 10) ?_ ?_ ?_
  rotate_left
  · (intro w hSw; (have hp2 := cell_keep p2 hSw); (have hd3 := cell_keep d3 hSw); go_simp <;> with_reducible rfl)
  refine tkF 2 (some 11) ?_
  refine tkF 3 (some 12) ?_
  refine tkF 4 (some 13) ?_
  refine tkF 5 (some 14) ?_
  refine tkE 6 (some 15) ?_ ?_ ?_
  rotate_left
  · (intro w hSw; (have hp2 := cell_keep p2 hSw); (have hd3 := cell_keep d3 hSw); go_simp <;> with_reducible rfl)
  refine takeD (i := 7) (d := some 16) (v := .bool false) rfl rfl (by kernel_rfl) (by kernel_rfl) (by kernel_rfl) (fun _ _ _ h => h) (Or.inl ⟨by rfl, (by intro w hSw; first | (go_simp; done) | (go_simp; first | rfl | simp))⟩) (by assumption) ?_
  simp only [Act.put, List.setIfInBounds_toArray, List.set_cons_zero, List.set_cons_succ]
  refine wpAnyH_done (by kernel_rfl) ?_ _
  have A1d := A1.keep hHeld
  have X1d := X1.keep hHeld
  have B1 : Below base w w1.drew := (kb (kb WB0.out hb1 (Nat.le_refl _)) hHeld (Nat.le_refl _)).mono hbs
  have S1 : w.heap.size < w1.drew.heap.size := X1d.lt
  clear d0 d1 d2 d3 d5 f3 f5 p0 p1 p2 p3 p4 p5 p6 p7 p8
  clear A1 X1 hHeld s1 hb1
  generalize w1.drew = w1d at *
  rename World => w2
  have A2 := A1d
  have X2 := X1d
  have B2 := B1
  have S2 := S1
  clear A1d X1d B1 S1
  (obtain ⟨d0, d1, d2, d3, d5, f3, f5⟩ := A2.cells)
  (obtain ⟨p0, p1, p2, p3, p4, p5, p6, p7, p8⟩ := X2.cells9e)
  go_wp2
  refine wp_region_held_drew (S := (fun w' => Below w2.heap.size w2 w')) (by kernel_rfl) ?_ (fun hHeld => ?_)
  · exact (Below.refl _ _).drew
  refine tkF 0 (some 21) ?_
  refine tkE 1 (some 22) ?_ ?_ ?_
  rotate_left
  · (intro w hSw; (have hp3 := cell_keep p3 hSw); (have hd2 := cell_keep d2 hSw); go_simp <;> with_reducible rfl)
  refine tkF 2 (some 23) ?_
  refine tkF 3 (some 24) ?_
  refine tkF 4 (some 25) ?_
  refine tkF 5 (some 26) ?_
  refine tkE 6 (some 27) ?_ ?_ ?_
  rotate_left
  · (intro w hSw; (have hp3 := cell_keep p3 hSw); (have hd2 := cell_keep d2 hSw); go_simp <;> with_reducible rfl)
  refine takeD (i := 7) (d := some 28) (v := .bool false) rfl rfl (by kernel_rfl) (by kernel_rfl) (by kernel_rfl) (fun _ _ _ h => h) (Or.inl ⟨by rfl, (by intro w hSw; first | (go_simp; done) | (go_simp; first | rfl | simp))⟩) (by assumption) ?_
  simp only [Act.put, List.setIfInBounds_toArray, List.set_cons_zero, List.set_cons_succ]
  refine wpAnyH_done (by kernel_rfl) ?_ _
  have A3 := A2.keep hHeld
  have X3 := X2.keep hHeld
  have B3 : Below base w w2.drew := B2.trans (hHeld.mono (Nat.le_trans hbs (Nat.le_of_lt S2)))
  clear d0 d1 d2 d3 d5 f3 f5 p0 p1 p2 p3 p4 p5 p6 p7 p8
  clear A2 X2 hHeld
  have S3 : w.heap.size < w2.drew.heap.size := X3.lt
  generalize w2.drew = w3 at *
  (obtain ⟨d0, d1, d2, d3, d5, f3, f5⟩ := A3.cells)
  (obtain ⟨p0, p1, p2, p3, p4, p5, p6, p7, p8⟩ := X3.cells9e)
  have hmm := @run_makeMap Tryz.prog
  obtain ⟨M1, M2, e1, e2, e3, e4, bM⟩ := deeds_laid w3 (.func (.func 83) #[] #[]) (.func (.func 84) #[] #[])
  have A4 := A3.keep bM
  have X4 := X3.keep bM
  have B4 : Below base w M2 := B3.trans (bM.mono (Nat.le_trans hbs (Nat.le_of_lt S3)))
  clear d0 d1 d2 d3 d5 f3 f5 p0 p1 p2 p3 p4 p5 p6 p7 p8
  clear A3 X3 bM
  have S4 : w.heap.size < M2.heap.size := X4.lt
  (obtain ⟨d0, d1, d2, d3, d5, f3, f5⟩ := A4.cells)
  (obtain ⟨p0, p1, p2, p3, p4, p5, p6, p7, p8⟩ := X4.cells9e)
  go_wp2_with (first
    | (go_at_call 83; refine (HD.out _ A4 (by omega)).mono ?_; rintro x w4 ⟨⟨u4, rfl⟩, A5, g4⟩)
    | fail)
  go_end0
  exact ⟨⟨_, rfl⟩, A5, B4.grown g4 (Nat.le_trans hbs B4.size) (fun q hq => by injection hq with hq; omega)⟩
set_option maxHeartbeats 2000000 in
theorem recv_SD (base A : Nat) (num : Int) (up : Bool) (life peer since : Int) (owes : Bool) (b : Nat) (xs : List It) (nx : Nat) (hs : List Hd) (o : ByteArray) (rs : List ByteArray) (sf : List Value) (f nxt msk sq : Int) (l : Bool) (p : ByteArray) (w : World) (h : Actr base A num up life peer since owes b xs nx hs o rs sf w) (hh : heedsP num up peer 2 f peer life nxt msk sq l p = true)   (ht : Tw nx hs o rs) (hps : p.size ≤ 1048576) (hbs : base ≤ w.heap.size) :
    Calls Tryz.prog 41 #[.pointer (some ⟨A, 0, none⟩), .agg #[.int .i64 2, .int .i64 f, .int .i64 peer, .int .i64 life, .int .i64 nxt, .int .i64 msk, .int .i64 sq, .bool l, .string p]] w fun x w' => (∃ u, x = .returned u) ∧ Actr base A num up life peer since true b xs (tin (heldBy nx hs sq p l) nx o rs).1 (tin (heldBy nx hs sq p l) nx o rs).2.1 (tin (heldBy nx hs sq p l) nx o rs).2.2.1 (tin (heldBy nx hs sq p l) nx o rs).2.2.2 sf w' ∧ Tw (tin (heldBy nx hs sq p l) nx o rs).1 (tin (heldBy nx hs sq p l) nx o rs).2.1 (tin (heldBy nx hs sq p l) nx o rs).2.2.1 (tin (heldBy nx hs sq p l) nx o rs).2.2.2 ∧ Below base w w' := by
  have hA := h.lt
  have XB0 : Hid (Bx (w.alloc (.cells #[.int .i64 2, .int .i64 f, .int .i64 peer, .int .i64 life, .int .i64 nxt, .int .i64 msk, .int .i64 sq, .bool l, .string p] 54)) w.heap.size 54 #[.int .i64 2, .int .i64 f, .int .i64 peer, .int .i64 life, .int .i64 nxt, .int .i64 msk, .int .i64 sq, .bool l, .string p]) := Bx.new w 54 _
  have WB0 : Hid (Below w.heap.size w (w.alloc (.cells #[.int .i64 2, .int .i64 f, .int .i64 peer, .int .i64 life, .int .i64 nxt, .int .i64 msk, .int .i64 sq, .bool l, .string p] 54))) := (Below.refl _ _).alloc (Nat.le_refl _) _
  have HE : Hid (∀ u : World, Actr base A num up life peer since owes b xs nx hs o rs sf u → Calls Tryz.prog 81 #[.pointer (some ⟨A, 0, none⟩), .agg #[.int .i64 2, .int .i64 f, .int .i64 peer, .int .i64 life, .int .i64 nxt, .int .i64 msk, .int .i64 sq, .bool l, .string p]] u fun x w' => x = .returned (.bool true) ∧ Below u.heap.size u w') := fun u hu => by
    have := heeds_any A 2 f peer life nxt msk sq l p num up peer u hu.cells.1 hu.cells.2.1 hu.cells.2.2.2.1
    rw [hh] at this
    exact this
  have HD : Hid (∀ u : World, Actr base A num up life peer since owes b xs nx hs o rs sf u → base ≤ u.heap.size → Calls Tryz.prog 84 #[.pointer (some ⟨A, 0, none⟩), .agg #[.int .i64 2, .int .i64 f, .int .i64 peer, .int .i64 life, .int .i64 nxt, .int .i64 msk, .int .i64 sq, .bool l, .string p]] u fun x w' => (∃ u, x = .returned u) ∧ Actr base A num up life peer since true b xs (tin (heldBy nx hs sq p l) nx o rs).1 (tin (heldBy nx hs sq p l) nx o rs).2.1 (tin (heldBy nx hs sq p l) nx o rs).2.2.1 (tin (heldBy nx hs sq p l) nx o rs).2.2.2 sf w' ∧ Tw (tin (heldBy nx hs sq p l) nx o rs).1 (tin (heldBy nx hs sq p l) nx o rs).2.1 (tin (heldBy nx hs sq p l) nx o rs).2.2.1 (tin (heldBy nx hs sq p l) nx o rs).2.2.2 ∧ Below base u w') := fun u hu hbs => takeData_any base A num up life peer since owes b xs nx hs o rs sf 2 f peer life nxt msk sq l p u hu ht hps hbs
  have HA : Hid (Actr base A num up life peer since owes b xs nx hs o rs sf w) := h
  clear h hh ht
  go_enter Tryz.func41, Tryz.ntmps41
  go_wp2_with (first
    | (go_at_call 81; refine (HE.out _ (HA.out.keep WB0.out)).mono ?_; rintro x w1 ⟨rfl, hb1⟩; (have A1 := (HA.out.keep WB0.out).keep hb1); (have X1 := XB0.out.keep hb1); (have s1 := hb1.size); (obtain ⟨d0, d1, d2, d3, d5, f3, f5⟩ := A1.cells); (obtain ⟨p0, p1, p2, p3, p4, p5, p6, p7, p8⟩ := X1.cells9e))
    | fail)
  refine wp_region_held_drew (S := (fun w' => Below w1.heap.size w1 w')) (by kernel_rfl) ?_ (fun hHeld => ?_)
  · exact (Below.refl _ _).drew
  refine tkF 0 (some 9) ?_
  refine tkE 1 (some 10) ?_ ?_ ?_
  rotate_left
  · (intro w hSw; (have hp2 := cell_keep p2 hSw); (have hd3 := cell_keep d3 hSw); go_simp <;> with_reducible rfl)
  refine tkF 2 (some 11) ?_
  refine tkF 3 (some 12) ?_
  refine tkF 4 (some 13) ?_
  refine tkF 5 (some 14) ?_
  refine tkE 6 (some 15) ?_ ?_ ?_
  rotate_left
  · (intro w hSw; (have hp2 := cell_keep p2 hSw); (have hd3 := cell_keep d3 hSw); go_simp <;> with_reducible rfl)
  refine takeD (i := 7) (d := some 16) (v := .bool false) rfl rfl (by kernel_rfl) (by kernel_rfl) (by kernel_rfl) (fun _ _ _ h => h) (Or.inl ⟨by rfl, (by intro w hSw; first | (go_simp; done) | (go_simp; first | rfl | simp))⟩) (by assumption) ?_
  simp only [Act.put, List.setIfInBounds_toArray, List.set_cons_zero, List.set_cons_succ]
  refine wpAnyH_done (by kernel_rfl) ?_ _
  have A1d := A1.keep hHeld
  have X1d := X1.keep hHeld
  have B1 : Below base w w1.drew := (kb (kb WB0.out hb1 (Nat.le_refl _)) hHeld (Nat.le_refl _)).mono hbs
  have S1 : w.heap.size < w1.drew.heap.size := X1d.lt
  clear d0 d1 d2 d3 d5 f3 f5 p0 p1 p2 p3 p4 p5 p6 p7 p8
  clear A1 X1 hHeld s1 hb1
  generalize w1.drew = w1d at *
  rename World => w2
  have A2 := A1d
  have X2 := X1d
  have B2 := B1
  have S2 := S1
  clear A1d X1d B1 S1
  (obtain ⟨d0, d1, d2, d3, d5, f3, f5⟩ := A2.cells)
  (obtain ⟨p0, p1, p2, p3, p4, p5, p6, p7, p8⟩ := X2.cells9e)
  go_wp2
  refine wp_region_held_drew (S := (fun w' => Below w2.heap.size w2 w')) (by kernel_rfl) ?_ (fun hHeld => ?_)
  · exact (Below.refl _ _).drew
  refine tkF 0 (some 21) ?_
  refine tkE 1 (some 22) ?_ ?_ ?_
  rotate_left
  · (intro w hSw; (have hp3 := cell_keep p3 hSw); (have hd2 := cell_keep d2 hSw); go_simp <;> with_reducible rfl)
  refine tkF 2 (some 23) ?_
  refine tkF 3 (some 24) ?_
  refine tkF 4 (some 25) ?_
  refine tkF 5 (some 26) ?_
  refine tkE 6 (some 27) ?_ ?_ ?_
  rotate_left
  · (intro w hSw; (have hp3 := cell_keep p3 hSw); (have hd2 := cell_keep d2 hSw); go_simp <;> with_reducible rfl)
  refine takeD (i := 7) (d := some 28) (v := .bool false) rfl rfl (by kernel_rfl) (by kernel_rfl) (by kernel_rfl) (fun _ _ _ h => h) (Or.inl ⟨by rfl, (by intro w hSw; first | (go_simp; done) | (go_simp; first | rfl | simp))⟩) (by assumption) ?_
  simp only [Act.put, List.setIfInBounds_toArray, List.set_cons_zero, List.set_cons_succ]
  refine wpAnyH_done (by kernel_rfl) ?_ _
  have A3 := A2.keep hHeld
  have X3 := X2.keep hHeld
  have B3 : Below base w w2.drew := B2.trans (hHeld.mono (Nat.le_trans hbs (Nat.le_of_lt S2)))
  clear d0 d1 d2 d3 d5 f3 f5 p0 p1 p2 p3 p4 p5 p6 p7 p8
  clear A2 X2 hHeld
  have S3 : w.heap.size < w2.drew.heap.size := X3.lt
  generalize w2.drew = w3 at *
  (obtain ⟨d0, d1, d2, d3, d5, f3, f5⟩ := A3.cells)
  (obtain ⟨p0, p1, p2, p3, p4, p5, p6, p7, p8⟩ := X3.cells9e)
  have hmm := @run_makeMap Tryz.prog
  obtain ⟨M1, M2, e1, e2, e3, e4, bM⟩ := deeds_laid w3 (.func (.func 83) #[] #[]) (.func (.func 84) #[] #[])
  have A4 := A3.keep bM
  have X4 := X3.keep bM
  have B4 : Below base w M2 := B3.trans (bM.mono (Nat.le_trans hbs (Nat.le_of_lt S3)))
  clear d0 d1 d2 d3 d5 f3 f5 p0 p1 p2 p3 p4 p5 p6 p7 p8
  clear A3 X3 bM
  have S4 : w.heap.size < M2.heap.size := X4.lt
  (obtain ⟨d0, d1, d2, d3, d5, f3, f5⟩ := A4.cells)
  (obtain ⟨p0, p1, p2, p3, p4, p5, p6, p7, p8⟩ := X4.cells9e)
  go_wp2_with (first
    | (go_at_call 84; refine (HD.out _ A4 (by omega)).mono ?_; rintro x w4 ⟨⟨u4, rfl⟩, A5, T5, g4⟩)
    | fail)
  go_end0
  exact ⟨⟨_, rfl⟩, A5, T5, B4.trans g4⟩
set_option maxHeartbeats 2000000 in
theorem recv_NO (base A : Nat) (num : Int) (up : Bool) (life peer since : Int) (owes : Bool) (b : Nat) (xs : List It) (nx : Nat) (hs : List Hd) (o : ByteArray) (rs : List ByteArray) (sf : List Value) (k f m y nxt msk sq : Int) (l : Bool) (p : ByteArray) (w : World) (h : Actr base A num up life peer since owes b xs nx hs o rs sf w) (hh : heedsP num up peer k f m y nxt msk sq l p = true) (hm : peer < m) (hy : y ≠ life) (hbs : base ≤ w.heap.size) :
    Calls Tryz.prog 41 #[.pointer (some ⟨A, 0, none⟩), .agg #[.int .i64 k, .int .i64 f, .int .i64 m, .int .i64 y, .int .i64 nxt, .int .i64 msk, .int .i64 sq, .bool l, .string p]] w fun x w' => (∃ u, x = .returned u) ∧ Actr base A num up life m since true 0 [] 0 [] ⟨#[]⟩ [] sf w' ∧ Below base w w' := by
  have hA := h.lt
  have XB0 : Hid (Bx (w.alloc (.cells #[.int .i64 k, .int .i64 f, .int .i64 m, .int .i64 y, .int .i64 nxt, .int .i64 msk, .int .i64 sq, .bool l, .string p] 54)) w.heap.size 54 #[.int .i64 k, .int .i64 f, .int .i64 m, .int .i64 y, .int .i64 nxt, .int .i64 msk, .int .i64 sq, .bool l, .string p]) := Bx.new w 54 _
  have WB0 : Hid (Below w.heap.size w (w.alloc (.cells #[.int .i64 k, .int .i64 f, .int .i64 m, .int .i64 y, .int .i64 nxt, .int .i64 msk, .int .i64 sq, .bool l, .string p] 54))) := (Below.refl _ _).alloc (Nat.le_refl _) _
  have HE : Hid (∀ u : World, Actr base A num up life peer since owes b xs nx hs o rs sf u → Calls Tryz.prog 81 #[.pointer (some ⟨A, 0, none⟩), .agg #[.int .i64 k, .int .i64 f, .int .i64 m, .int .i64 y, .int .i64 nxt, .int .i64 msk, .int .i64 sq, .bool l, .string p]] u fun x w' => x = .returned (.bool true) ∧ Below u.heap.size u w') := fun u hu => by
    have := heeds_any A k f m y nxt msk sq l p num up peer u hu.cells.1 hu.cells.2.1 hu.cells.2.2.2.1
    rw [hh] at this
    exact this
  have HB : Hid (∀ u : World, Actr base A num up life peer since owes b xs nx hs o rs sf u → base ≤ u.heap.size → Calls Tryz.prog 82 #[.pointer (some ⟨A, 0, none⟩), .int .i64 m] u fun x w' => (∃ u, x = .returned u) ∧ Actr base A num up life m since true 0 [] 0 [] ⟨#[]⟩ [] sf w' ∧ u.grownBy w' (some A)) := fun u hu hbs => beginPair_any base A num up life peer since owes b xs nx hs o rs sf m u hu hbs
  have HA : Hid (Actr base A num up life peer since owes b xs nx hs o rs sf w) := h
  clear h hh
  have hy1 : (y != life) = true := by simpa using hy
  have hy2 : decide (y = life) = false := by simpa using hy
  go_enter Tryz.func41, Tryz.ntmps41
  go_wp2_with (first
    | (go_at_call 81; refine (HE.out _ (HA.out.keep WB0.out)).mono ?_; rintro x w1 ⟨rfl, hb1⟩; (have A1 := (HA.out.keep WB0.out).keep hb1); (have X1 := XB0.out.keep hb1); (have s1 := hb1.size); (obtain ⟨d0, d1, d2, d3, d5, f3, f5⟩ := A1.cells); (obtain ⟨p0, p1, p2, p3, p4, p5, p6, p7, p8⟩ := X1.cells9e))
    | fail)
  refine wp_region_held_drew (S := (fun w' => Below w1.heap.size w1 w')) (by kernel_rfl) ?_ (fun hHeld => ?_)
  · exact (Below.refl _ _).drew
  refine tkF 0 (some 9) ?_
  refine tkE 1 (some 10) ?_ ?_ ?_
  rotate_left
  · (intro w hSw; (have hp2 := cell_keep p2 hSw); (have hd3 := cell_keep d3 hSw); go_simp <;> with_reducible rfl)
  refine tkF 2 (some 11) ?_
  refine tkF 3 (some 12) ?_
  refine tkF 4 (some 13) ?_
  refine tkF 5 (some 14) ?_
  refine tkE 6 (some 15) ?_ ?_ ?_
  rotate_left
  · (intro w hSw; (have hp2 := cell_keep p2 hSw); (have hd3 := cell_keep d3 hSw); go_simp <;> with_reducible rfl)
  refine takeD (i := 7) (d := some 16) (v := .bool true) rfl rfl (by kernel_rfl) (by kernel_rfl) (by kernel_rfl) (fun _ _ _ h => h) (Or.inl ⟨by rfl, (by intro w hSw; first | (go_simp; done) | (go_simp; first | rfl | simp [hm] | (simp; omega)))⟩) (by assumption) ?_
  simp only [Act.put, List.setIfInBounds_toArray, List.set_cons_zero, List.set_cons_succ]
  refine wpAnyH_done (by kernel_rfl) ?_ _
  have A1d := A1.keep hHeld
  have X1d := X1.keep hHeld
  have B1 : Below base w w1.drew := (kb (kb WB0.out hb1 (Nat.le_refl _)) hHeld (Nat.le_refl _)).mono hbs
  have S1 : w.heap.size < w1.drew.heap.size := X1d.lt
  clear d0 d1 d2 d3 d5 f3 f5 p0 p1 p2 p3 p4 p5 p6 p7 p8
  clear A1 X1 hHeld s1 hb1
  generalize w1.drew = w1d at *
  obtain ⟨p0, p1, p2, p3, p4, p5, p6, p7, p8⟩ := X1d.cells9e
  go_wp2_with (first
    | (go_at_call 82; refine (HB.out _ A1d (by omega)).mono ?_; rintro x w2 ⟨⟨u2, rfl⟩, A2, g2⟩; (obtain ⟨q0, q1, q2, q3, q4, q5, q6, q7, q8⟩ := X1d.cells9e); clear q0 q1 q2 q3 q4 q5 q6 q7 q8; clear p0 p1 p2 p3 p4 p5 p6 p7 p8; (have X2 := X1d.kept g2 (by simp; omega)); (have s2 := g2.size); (obtain ⟨d0, d1, d2, d3, d5, f3, f5⟩ := A2.cells); (obtain ⟨p0, p1, p2, p3, p4, p5, p6, p7, p8⟩ := X2.cells9e))
    | fail)
  have B2 := B1.grown g2 (Nat.le_trans hbs B1.size) (fun q hq => by injection hq with hq; omega)
  have S2 : w.heap.size < w2.heap.size := X2.lt
  clear A1d X1d
  refine wp_region_held_drew (S := (fun w' => Below w2.heap.size w2 w')) (by kernel_rfl) ?_ (fun hHeld => ?_)
  · exact (Below.refl _ _).drew
  refine tkF 0 (some 21) ?_
  refine tkE 1 (some 22) ?_ ?_ ?_
  rotate_left
  · (intro w hSw; (have hp3 := cell_keep p3 hSw); (have hd2 := cell_keep d2 hSw); go_simp <;> with_reducible rfl)
  refine tkF 2 (some 23) ?_
  refine tkF 3 (some 24) ?_
  refine tkF 4 (some 25) ?_
  refine tkF 5 (some 26) ?_
  refine tkE 6 (some 27) ?_ ?_ ?_
  rotate_left
  · (intro w hSw; (have hp3 := cell_keep p3 hSw); (have hd2 := cell_keep d2 hSw); go_simp <;> with_reducible rfl)
  refine takeD (i := 7) (d := some 28) (v := .bool true) rfl rfl (by kernel_rfl) (by kernel_rfl) (by kernel_rfl) (fun _ _ _ h => h) (Or.inl ⟨by rfl, (by intro w hSw; first | (go_simp; done) | (go_simp; first | rfl | simp [hy1, hy2, hy] | (simp; omega)))⟩) (by assumption) ?_
  simp only [Act.put, List.setIfInBounds_toArray, List.set_cons_zero, List.set_cons_succ]
  refine wpAnyH_done (by kernel_rfl) ?_ _
  have A3 := A2.keep hHeld
  have X3 := X2.keep hHeld
  have B3 : Below base w w2.drew := B2.trans (hHeld.mono (Nat.le_trans hbs (Nat.le_of_lt S2)))
  clear d0 d1 d2 d3 d5 f3 f5 p0 p1 p2 p3 p4 p5 p6 p7 p8
  clear A2 X2 hHeld
  have S3 : w.heap.size < w2.drew.heap.size := X3.lt
  generalize w2.drew = w3 at *
  (obtain ⟨d0, d1, d2, d3, d5, f3, f5⟩ := A3.cells)
  (obtain ⟨p0, p1, p2, p3, p4, p5, p6, p7, p8⟩ := X3.cells9e)
  go_wp2
  exact bodyPost_ret (v := .tuple #[]) (by simp [results, Tryz.results41, go_sem]) rfl ⟨⟨_, rfl⟩, A3.owe, B3.setCell (p := ⟨A, 267, none⟩) hA.1 _⟩
set_option maxHeartbeats 2000000 in
theorem recv_NW (base A : Nat) (num : Int) (up : Bool) (life peer since : Int) (owes : Bool) (b : Nat) (xs : List It) (nx : Nat) (hs : List Hd) (o : ByteArray) (rs : List ByteArray) (sf : List Value) (f m nxt msk sq : Int) (l : Bool) (p : ByteArray) (w : World) (h : Actr base A num up life peer since owes b xs nx hs o rs sf w) (hh : heedsP num up peer 1 f m life nxt msk sq l p = true) (hm : peer < m)  (hbs : base ≤ w.heap.size) :
    Calls Tryz.prog 41 #[.pointer (some ⟨A, 0, none⟩), .agg #[.int .i64 1, .int .i64 f, .int .i64 m, .int .i64 life, .int .i64 nxt, .int .i64 msk, .int .i64 sq, .bool l, .string p]] w fun x w' => (∃ u, x = .returned u) ∧ Actr base A num up life m since true (heard 0 [] nxt msk).1 (heard 0 [] nxt msk).2 0 [] ⟨#[]⟩ [] sf w' ∧ Below base w w' := by
  have hA := h.lt
  have XB0 : Hid (Bx (w.alloc (.cells #[.int .i64 1, .int .i64 f, .int .i64 m, .int .i64 life, .int .i64 nxt, .int .i64 msk, .int .i64 sq, .bool l, .string p] 54)) w.heap.size 54 #[.int .i64 1, .int .i64 f, .int .i64 m, .int .i64 life, .int .i64 nxt, .int .i64 msk, .int .i64 sq, .bool l, .string p]) := Bx.new w 54 _
  have WB0 : Hid (Below w.heap.size w (w.alloc (.cells #[.int .i64 1, .int .i64 f, .int .i64 m, .int .i64 life, .int .i64 nxt, .int .i64 msk, .int .i64 sq, .bool l, .string p] 54))) := (Below.refl _ _).alloc (Nat.le_refl _) _
  have HE : Hid (∀ u : World, Actr base A num up life peer since owes b xs nx hs o rs sf u → Calls Tryz.prog 81 #[.pointer (some ⟨A, 0, none⟩), .agg #[.int .i64 1, .int .i64 f, .int .i64 m, .int .i64 life, .int .i64 nxt, .int .i64 msk, .int .i64 sq, .bool l, .string p]] u fun x w' => x = .returned (.bool true) ∧ Below u.heap.size u w') := fun u hu => by
    have := heeds_any A 1 f m life nxt msk sq l p num up peer u hu.cells.1 hu.cells.2.1 hu.cells.2.2.2.1
    rw [hh] at this
    exact this
  have HB : Hid (∀ u : World, Actr base A num up life peer since owes b xs nx hs o rs sf u → base ≤ u.heap.size → Calls Tryz.prog 82 #[.pointer (some ⟨A, 0, none⟩), .int .i64 m] u fun x w' => (∃ u, x = .returned u) ∧ Actr base A num up life m since true 0 [] 0 [] ⟨#[]⟩ [] sf w' ∧ u.grownBy w' (some A)) := fun u hu hbs => beginPair_any base A num up life peer since owes b xs nx hs o rs sf m u hu hbs
  have HD : Hid (∀ u : World, Actr base A num up life m since true 0 [] 0 [] ⟨#[]⟩ [] sf u → base ≤ u.heap.size → Calls Tryz.prog 83 #[.pointer (some ⟨A, 0, none⟩), .agg #[.int .i64 1, .int .i64 f, .int .i64 m, .int .i64 life, .int .i64 nxt, .int .i64 msk, .int .i64 sq, .bool l, .string p]] u fun x w' => (∃ u, x = .returned u) ∧ Actr base A num up life m since true (heard 0 [] nxt msk).1 (heard 0 [] nxt msk).2 0 [] ⟨#[]⟩ [] sf w' ∧ u.grownBy w' (some A)) := fun u hu hbs => hearWord_any base A num up life m since true 0 [] 0 [] ⟨#[]⟩ [] sf 1 f m life nxt msk sq l p u hu (by omega) (by simp) (fun i h => absurd h (by simp)) hbs
  have HA : Hid (Actr base A num up life peer since owes b xs nx hs o rs sf w) := h
  clear h hh
  go_enter Tryz.func41, Tryz.ntmps41
  go_wp2_with (first
    | (go_at_call 81; refine (HE.out _ (HA.out.keep WB0.out)).mono ?_; rintro x w1 ⟨rfl, hb1⟩; (have A1 := (HA.out.keep WB0.out).keep hb1); (have X1 := XB0.out.keep hb1); (have s1 := hb1.size); (obtain ⟨d0, d1, d2, d3, d5, f3, f5⟩ := A1.cells); (obtain ⟨p0, p1, p2, p3, p4, p5, p6, p7, p8⟩ := X1.cells9e))
    | fail)
  refine wp_region_held_drew (S := (fun w' => Below w1.heap.size w1 w')) (by kernel_rfl) ?_ (fun hHeld => ?_)
  · exact (Below.refl _ _).drew
  refine tkF 0 (some 9) ?_
  refine tkE 1 (some 10) ?_ ?_ ?_
  rotate_left
  · (intro w hSw; (have hp2 := cell_keep p2 hSw); (have hd3 := cell_keep d3 hSw); go_simp <;> with_reducible rfl)
  refine tkF 2 (some 11) ?_
  refine tkF 3 (some 12) ?_
  refine tkF 4 (some 13) ?_
  refine tkF 5 (some 14) ?_
  refine tkE 6 (some 15) ?_ ?_ ?_
  rotate_left
  · (intro w hSw; (have hp2 := cell_keep p2 hSw); (have hd3 := cell_keep d3 hSw); go_simp <;> with_reducible rfl)
  refine takeD (i := 7) (d := some 16) (v := .bool true) rfl rfl (by kernel_rfl) (by kernel_rfl) (by kernel_rfl) (fun _ _ _ h => h) (Or.inl ⟨by rfl, (by intro w hSw; first | (go_simp; done) | (go_simp; first | rfl | simp [hm] | (simp; omega)))⟩) (by assumption) ?_
  simp only [Act.put, List.setIfInBounds_toArray, List.set_cons_zero, List.set_cons_succ]
  refine wpAnyH_done (by kernel_rfl) ?_ _
  have A1d := A1.keep hHeld
  have X1d := X1.keep hHeld
  have B1 : Below base w w1.drew := (kb (kb WB0.out hb1 (Nat.le_refl _)) hHeld (Nat.le_refl _)).mono hbs
  have S1 : w.heap.size < w1.drew.heap.size := X1d.lt
  clear d0 d1 d2 d3 d5 f3 f5 p0 p1 p2 p3 p4 p5 p6 p7 p8
  clear A1 X1 hHeld s1 hb1
  generalize w1.drew = w1d at *
  obtain ⟨p0, p1, p2, p3, p4, p5, p6, p7, p8⟩ := X1d.cells9e
  go_wp2_with (first
    | (go_at_call 82; refine (HB.out _ A1d (by omega)).mono ?_; rintro x w2 ⟨⟨u2, rfl⟩, A2, g2⟩; (obtain ⟨q0, q1, q2, q3, q4, q5, q6, q7, q8⟩ := X1d.cells9e); clear q0 q1 q2 q3 q4 q5 q6 q7 q8; clear p0 p1 p2 p3 p4 p5 p6 p7 p8; (have X2 := X1d.kept g2 (by simp; omega)); (have s2 := g2.size); (obtain ⟨d0, d1, d2, d3, d5, f3, f5⟩ := A2.cells); (obtain ⟨p0, p1, p2, p3, p4, p5, p6, p7, p8⟩ := X2.cells9e))
    | fail)
  have B2 := B1.grown g2 (Nat.le_trans hbs B1.size) (fun q hq => by injection hq with hq; omega)
  have S2 : w.heap.size < w2.heap.size := X2.lt
  clear A1d X1d
  refine wp_region_held_drew (S := (fun w' => Below w2.heap.size w2 w')) (by kernel_rfl) ?_ (fun hHeld => ?_)
  · exact (Below.refl _ _).drew
  refine tkF 0 (some 21) ?_
  refine tkE 1 (some 22) ?_ ?_ ?_
  rotate_left
  · (intro w hSw; (have hp3 := cell_keep p3 hSw); (have hd2 := cell_keep d2 hSw); go_simp <;> with_reducible rfl)
  refine tkF 2 (some 23) ?_
  refine tkF 3 (some 24) ?_
  refine tkF 4 (some 25) ?_
  refine tkF 5 (some 26) ?_
  refine tkE 6 (some 27) ?_ ?_ ?_
  rotate_left
  · (intro w hSw; (have hp3 := cell_keep p3 hSw); (have hd2 := cell_keep d2 hSw); go_simp <;> with_reducible rfl)
  refine takeD (i := 7) (d := some 28) (v := .bool false) rfl rfl (by kernel_rfl) (by kernel_rfl) (by kernel_rfl) (fun _ _ _ h => h) (Or.inl ⟨by rfl, (by intro w hSw; first | (go_simp; done) | (go_simp; first | rfl | simp))⟩) (by assumption) ?_
  simp only [Act.put, List.setIfInBounds_toArray, List.set_cons_zero, List.set_cons_succ]
  refine wpAnyH_done (by kernel_rfl) ?_ _
  have A3 := A2.keep hHeld
  have X3 := X2.keep hHeld
  have B3 : Below base w w2.drew := B2.trans (hHeld.mono (Nat.le_trans hbs (Nat.le_of_lt S2)))
  clear d0 d1 d2 d3 d5 f3 f5 p0 p1 p2 p3 p4 p5 p6 p7 p8
  clear A2 X2 hHeld
  have S3 : w.heap.size < w2.drew.heap.size := X3.lt
  generalize w2.drew = w3 at *
  (obtain ⟨d0, d1, d2, d3, d5, f3, f5⟩ := A3.cells)
  (obtain ⟨p0, p1, p2, p3, p4, p5, p6, p7, p8⟩ := X3.cells9e)
  have hmm := @run_makeMap Tryz.prog
  obtain ⟨M1, M2, e1, e2, e3, e4, bM⟩ := deeds_laid w3 (.func (.func 83) #[] #[]) (.func (.func 84) #[] #[])
  have A4 := A3.keep bM
  have X4 := X3.keep bM
  have B4 : Below base w M2 := B3.trans (bM.mono (Nat.le_trans hbs (Nat.le_of_lt S3)))
  clear d0 d1 d2 d3 d5 f3 f5 p0 p1 p2 p3 p4 p5 p6 p7 p8
  clear A3 X3 bM
  have S4 : w.heap.size < M2.heap.size := X4.lt
  (obtain ⟨d0, d1, d2, d3, d5, f3, f5⟩ := A4.cells)
  (obtain ⟨p0, p1, p2, p3, p4, p5, p6, p7, p8⟩ := X4.cells9e)
  go_wp2_with (first
    | (go_at_call 83; refine (HD.out _ A4 (by omega)).mono ?_; rintro x w4 ⟨⟨u4, rfl⟩, A5, g4⟩)
    | fail)
  go_end0
  exact ⟨⟨_, rfl⟩, A5, B4.grown g4 (Nat.le_trans hbs B4.size) (fun q hq => by injection hq with hq; omega)⟩
set_option maxHeartbeats 2000000 in
theorem recv_ND (base A : Nat) (num : Int) (up : Bool) (life peer since : Int) (owes : Bool) (b : Nat) (xs : List It) (nx : Nat) (hs : List Hd) (o : ByteArray) (rs : List ByteArray) (sf : List Value) (f m nxt msk sq : Int) (l : Bool) (p : ByteArray) (w : World) (h : Actr base A num up life peer since owes b xs nx hs o rs sf w) (hh : heedsP num up peer 2 f m life nxt msk sq l p = true) (hm : peer < m)  (hps : p.size ≤ 1048576) (hbs : base ≤ w.heap.size) :
    Calls Tryz.prog 41 #[.pointer (some ⟨A, 0, none⟩), .agg #[.int .i64 2, .int .i64 f, .int .i64 m, .int .i64 life, .int .i64 nxt, .int .i64 msk, .int .i64 sq, .bool l, .string p]] w fun x w' => (∃ u, x = .returned u) ∧ Actr base A num up life m since true 0 [] (tin (heldBy 0 [] sq p l) 0 ⟨#[]⟩ []).1 (tin (heldBy 0 [] sq p l) 0 ⟨#[]⟩ []).2.1 (tin (heldBy 0 [] sq p l) 0 ⟨#[]⟩ []).2.2.1 (tin (heldBy 0 [] sq p l) 0 ⟨#[]⟩ []).2.2.2 sf w' ∧ Tw (tin (heldBy 0 [] sq p l) 0 ⟨#[]⟩ []).1 (tin (heldBy 0 [] sq p l) 0 ⟨#[]⟩ []).2.1 (tin (heldBy 0 [] sq p l) 0 ⟨#[]⟩ []).2.2.1 (tin (heldBy 0 [] sq p l) 0 ⟨#[]⟩ []).2.2.2 ∧ Below base w w' := by
  have hA := h.lt
  have XB0 : Hid (Bx (w.alloc (.cells #[.int .i64 2, .int .i64 f, .int .i64 m, .int .i64 life, .int .i64 nxt, .int .i64 msk, .int .i64 sq, .bool l, .string p] 54)) w.heap.size 54 #[.int .i64 2, .int .i64 f, .int .i64 m, .int .i64 life, .int .i64 nxt, .int .i64 msk, .int .i64 sq, .bool l, .string p]) := Bx.new w 54 _
  have WB0 : Hid (Below w.heap.size w (w.alloc (.cells #[.int .i64 2, .int .i64 f, .int .i64 m, .int .i64 life, .int .i64 nxt, .int .i64 msk, .int .i64 sq, .bool l, .string p] 54))) := (Below.refl _ _).alloc (Nat.le_refl _) _
  have HE : Hid (∀ u : World, Actr base A num up life peer since owes b xs nx hs o rs sf u → Calls Tryz.prog 81 #[.pointer (some ⟨A, 0, none⟩), .agg #[.int .i64 2, .int .i64 f, .int .i64 m, .int .i64 life, .int .i64 nxt, .int .i64 msk, .int .i64 sq, .bool l, .string p]] u fun x w' => x = .returned (.bool true) ∧ Below u.heap.size u w') := fun u hu => by
    have := heeds_any A 2 f m life nxt msk sq l p num up peer u hu.cells.1 hu.cells.2.1 hu.cells.2.2.2.1
    rw [hh] at this
    exact this
  have HB : Hid (∀ u : World, Actr base A num up life peer since owes b xs nx hs o rs sf u → base ≤ u.heap.size → Calls Tryz.prog 82 #[.pointer (some ⟨A, 0, none⟩), .int .i64 m] u fun x w' => (∃ u, x = .returned u) ∧ Actr base A num up life m since true 0 [] 0 [] ⟨#[]⟩ [] sf w' ∧ u.grownBy w' (some A)) := fun u hu hbs => beginPair_any base A num up life peer since owes b xs nx hs o rs sf m u hu hbs
  have HD : Hid (∀ u : World, Actr base A num up life m since true 0 [] 0 [] ⟨#[]⟩ [] sf u → base ≤ u.heap.size → Calls Tryz.prog 84 #[.pointer (some ⟨A, 0, none⟩), .agg #[.int .i64 2, .int .i64 f, .int .i64 m, .int .i64 life, .int .i64 nxt, .int .i64 msk, .int .i64 sq, .bool l, .string p]] u fun x w' => (∃ u, x = .returned u) ∧ Actr base A num up life m since true 0 [] (tin (heldBy 0 [] sq p l) 0 ⟨#[]⟩ []).1 (tin (heldBy 0 [] sq p l) 0 ⟨#[]⟩ []).2.1 (tin (heldBy 0 [] sq p l) 0 ⟨#[]⟩ []).2.2.1 (tin (heldBy 0 [] sq p l) 0 ⟨#[]⟩ []).2.2.2 sf w' ∧ Tw (tin (heldBy 0 [] sq p l) 0 ⟨#[]⟩ []).1 (tin (heldBy 0 [] sq p l) 0 ⟨#[]⟩ []).2.1 (tin (heldBy 0 [] sq p l) 0 ⟨#[]⟩ []).2.2.1 (tin (heldBy 0 [] sq p l) 0 ⟨#[]⟩ []).2.2.2 ∧ Below base u w') := fun u hu hbs => takeData_any base A num up life m since true 0 [] 0 [] ⟨#[]⟩ [] sf 2 f m life nxt msk sq l p u hu tw_zero hps hbs
  have HA : Hid (Actr base A num up life peer since owes b xs nx hs o rs sf w) := h
  clear h hh
  go_enter Tryz.func41, Tryz.ntmps41
  go_wp2_with (first
    | (go_at_call 81; refine (HE.out _ (HA.out.keep WB0.out)).mono ?_; rintro x w1 ⟨rfl, hb1⟩; (have A1 := (HA.out.keep WB0.out).keep hb1); (have X1 := XB0.out.keep hb1); (have s1 := hb1.size); (obtain ⟨d0, d1, d2, d3, d5, f3, f5⟩ := A1.cells); (obtain ⟨p0, p1, p2, p3, p4, p5, p6, p7, p8⟩ := X1.cells9e))
    | fail)
  refine wp_region_held_drew (S := (fun w' => Below w1.heap.size w1 w')) (by kernel_rfl) ?_ (fun hHeld => ?_)
  · exact (Below.refl _ _).drew
  refine tkF 0 (some 9) ?_
  refine tkE 1 (some 10) ?_ ?_ ?_
  rotate_left
  · (intro w hSw; (have hp2 := cell_keep p2 hSw); (have hd3 := cell_keep d3 hSw); go_simp <;> with_reducible rfl)
  refine tkF 2 (some 11) ?_
  refine tkF 3 (some 12) ?_
  refine tkF 4 (some 13) ?_
  refine tkF 5 (some 14) ?_
  refine tkE 6 (some 15) ?_ ?_ ?_
  rotate_left
  · (intro w hSw; (have hp2 := cell_keep p2 hSw); (have hd3 := cell_keep d3 hSw); go_simp <;> with_reducible rfl)
  refine takeD (i := 7) (d := some 16) (v := .bool true) rfl rfl (by kernel_rfl) (by kernel_rfl) (by kernel_rfl) (fun _ _ _ h => h) (Or.inl ⟨by rfl, (by intro w hSw; first | (go_simp; done) | (go_simp; first | rfl | simp [hm] | (simp; omega)))⟩) (by assumption) ?_
  simp only [Act.put, List.setIfInBounds_toArray, List.set_cons_zero, List.set_cons_succ]
  refine wpAnyH_done (by kernel_rfl) ?_ _
  have A1d := A1.keep hHeld
  have X1d := X1.keep hHeld
  have B1 : Below base w w1.drew := (kb (kb WB0.out hb1 (Nat.le_refl _)) hHeld (Nat.le_refl _)).mono hbs
  have S1 : w.heap.size < w1.drew.heap.size := X1d.lt
  clear d0 d1 d2 d3 d5 f3 f5 p0 p1 p2 p3 p4 p5 p6 p7 p8
  clear A1 X1 hHeld s1 hb1
  generalize w1.drew = w1d at *
  obtain ⟨p0, p1, p2, p3, p4, p5, p6, p7, p8⟩ := X1d.cells9e
  go_wp2_with (first
    | (go_at_call 82; refine (HB.out _ A1d (by omega)).mono ?_; rintro x w2 ⟨⟨u2, rfl⟩, A2, g2⟩; (obtain ⟨q0, q1, q2, q3, q4, q5, q6, q7, q8⟩ := X1d.cells9e); clear q0 q1 q2 q3 q4 q5 q6 q7 q8; clear p0 p1 p2 p3 p4 p5 p6 p7 p8; (have X2 := X1d.kept g2 (by simp; omega)); (have s2 := g2.size); (obtain ⟨d0, d1, d2, d3, d5, f3, f5⟩ := A2.cells); (obtain ⟨p0, p1, p2, p3, p4, p5, p6, p7, p8⟩ := X2.cells9e))
    | fail)
  have B2 := B1.grown g2 (Nat.le_trans hbs B1.size) (fun q hq => by injection hq with hq; omega)
  have S2 : w.heap.size < w2.heap.size := X2.lt
  clear A1d X1d
  refine wp_region_held_drew (S := (fun w' => Below w2.heap.size w2 w')) (by kernel_rfl) ?_ (fun hHeld => ?_)
  · exact (Below.refl _ _).drew
  refine tkF 0 (some 21) ?_
  refine tkE 1 (some 22) ?_ ?_ ?_
  rotate_left
  · (intro w hSw; (have hp3 := cell_keep p3 hSw); (have hd2 := cell_keep d2 hSw); go_simp <;> with_reducible rfl)
  refine tkF 2 (some 23) ?_
  refine tkF 3 (some 24) ?_
  refine tkF 4 (some 25) ?_
  refine tkF 5 (some 26) ?_
  refine tkE 6 (some 27) ?_ ?_ ?_
  rotate_left
  · (intro w hSw; (have hp3 := cell_keep p3 hSw); (have hd2 := cell_keep d2 hSw); go_simp <;> with_reducible rfl)
  refine takeD (i := 7) (d := some 28) (v := .bool false) rfl rfl (by kernel_rfl) (by kernel_rfl) (by kernel_rfl) (fun _ _ _ h => h) (Or.inl ⟨by rfl, (by intro w hSw; first | (go_simp; done) | (go_simp; first | rfl | simp))⟩) (by assumption) ?_
  simp only [Act.put, List.setIfInBounds_toArray, List.set_cons_zero, List.set_cons_succ]
  refine wpAnyH_done (by kernel_rfl) ?_ _
  have A3 := A2.keep hHeld
  have X3 := X2.keep hHeld
  have B3 : Below base w w2.drew := B2.trans (hHeld.mono (Nat.le_trans hbs (Nat.le_of_lt S2)))
  clear d0 d1 d2 d3 d5 f3 f5 p0 p1 p2 p3 p4 p5 p6 p7 p8
  clear A2 X2 hHeld
  have S3 : w.heap.size < w2.drew.heap.size := X3.lt
  generalize w2.drew = w3 at *
  (obtain ⟨d0, d1, d2, d3, d5, f3, f5⟩ := A3.cells)
  (obtain ⟨p0, p1, p2, p3, p4, p5, p6, p7, p8⟩ := X3.cells9e)
  have hmm := @run_makeMap Tryz.prog
  obtain ⟨M1, M2, e1, e2, e3, e4, bM⟩ := deeds_laid w3 (.func (.func 83) #[] #[]) (.func (.func 84) #[] #[])
  have A4 := A3.keep bM
  have X4 := X3.keep bM
  have B4 : Below base w M2 := B3.trans (bM.mono (Nat.le_trans hbs (Nat.le_of_lt S3)))
  clear d0 d1 d2 d3 d5 f3 f5 p0 p1 p2 p3 p4 p5 p6 p7 p8
  clear A3 X3 bM
  have S4 : w.heap.size < M2.heap.size := X4.lt
  (obtain ⟨d0, d1, d2, d3, d5, f3, f5⟩ := A4.cells)
  (obtain ⟨p0, p1, p2, p3, p4, p5, p6, p7, p8⟩ := X4.cells9e)
  go_wp2_with (first
    | (go_at_call 84; refine (HD.out _ A4 (by omega)).mono ?_; rintro x w4 ⟨⟨u4, rfl⟩, A5, T5, g4⟩)
    | fail)
  go_end0
  exact ⟨⟨_, rfl⟩, A5, T5, B4.trans g4⟩
end Go.Proofs.YthjncmgjkejikaaGreat.mk
/-
  A PACKET at an end: impl.EndTake.
-/
namespace Go.Proofs.YthjncmgjkejikaaGreat.mk
open Go.RowKit
set_option linter.unusedVariables false

theorem Bx.under {u u' : World} {B b : Nat} {t : TypeId} {cs : Array Value} (h : Bx u B t cs) (hb : Below b u u') (hB : B < b) : Bx u' B t cs := (hb.block B hB).trans h
set_option maxRecDepth 100000 in
set_option maxHeartbeats 2000000 in
theorem implEk_no (num : Int) (up : Bool) (life peer since : Int) (owes : Bool) (b : Int) (xs : List It) (nx : Int) (hs : List Hd) (o : ByteArray) (rs : List ByteArray) (g : Nat) (ho so : Option Addr) (ci ch cs : Nat) (k f m y nxt msk sq : Int) (l : Bool) (p : ByteArray) (w : World) (hm : Se 1048576 (⟨num, up, life, peer, since, owes, b, xs, nx, hs, o, rs⟩ : En)) (hr : Rs w (some ⟨g, 0, none⟩) xs.length (is xs)) (hr2 : Rt w ho so hs rs) (hn1 : ho = none → hs.length = 0 ∧ ch = 0) (hn2 : so = none → rs.length = 0 ∧ cs = 0) (hV : enOk num up life peer since owes b xs nx hs o rs = false) :
    Calls Tryz.prog 17 #[.agg #[.int .i64 num, .bool up, .int .i64 life, .int .i64 peer, .int .i64 since, .bool owes, .int .i64 b, .slice (some ⟨g, 0, none⟩) xs.length ci, .int .i64 nx, .slice ho hs.length ch, .string o, .slice so rs.length cs], .agg #[.int .i64 k, .int .i64 f, .int .i64 m, .int .i64 y, .int .i64 nxt, .int .i64 msk, .int .i64 sq, .bool l, .string p]] w fun x w' => ActPost 1 zeroE ⟨#[]⟩ w x w' := by
  have HV : Hid (∀ u : World, Rs u (some ⟨g, 0, none⟩) xs.length (is xs) ∧ Rt u ho so hs rs → Calls Tryz.prog 26 #[.agg #[.int .i64 num, .bool up, .int .i64 life, .int .i64 peer, .int .i64 since, .bool owes, .int .i64 b, .slice (some ⟨g, 0, none⟩) xs.length ci, .int .i64 nx, .slice ho hs.length ch, .string o, .slice so rs.length cs]] u fun x w' => x = .returned (.bool false) ∧ Below u.heap.size u w') := fun u h => by have := implValidEnd_any num up life peer since owes b xs nx hs o rs (some ⟨g, 0, none⟩) ho so ci ch cs u hm.n hm.t hm.tk.n hm.tk.t hm.tk.o hm.tk.k hm.tk.r h.1 h.2; rw [hV] at this; exact this
  have B0 : Hid (Below w.heap.size w (((w.alloc (.cells #[.int .i64 num, .bool up, .int .i64 life, .int .i64 peer, .int .i64 since, .bool owes, .int .i64 b, .slice (some ⟨g, 0, none⟩) xs.length ci, .int .i64 nx, .slice ho hs.length ch, .string o, .slice so rs.length cs] 39)).alloc (.cells #[.int .i64 k, .int .i64 f, .int .i64 m, .int .i64 y, .int .i64 nxt, .int .i64 msk, .int .i64 sq, .bool l, .string p] 54)).alloc (.cells #[.int .i64 0, .int .i64 0, .bool false, .int .i64 0, .int .i64 0, .int .i64 0, .bool false, .int .i64 0, .slice none 0 0, .int .i64 0, .slice none 0 0, .string ⟨#[]⟩, .slice none 0 0, .slice none 0 0, .string ⟨#[]⟩] 42))) := three_below w _ _ _
  have R0 : Hid (Rs (((w.alloc (.cells #[.int .i64 num, .bool up, .int .i64 life, .int .i64 peer, .int .i64 since, .bool owes, .int .i64 b, .slice (some ⟨g, 0, none⟩) xs.length ci, .int .i64 nx, .slice ho hs.length ch, .string o, .slice so rs.length cs] 39)).alloc (.cells #[.int .i64 k, .int .i64 f, .int .i64 m, .int .i64 y, .int .i64 nxt, .int .i64 msk, .int .i64 sq, .bool l, .string p] 54)).alloc (.cells #[.int .i64 0, .int .i64 0, .bool false, .int .i64 0, .int .i64 0, .int .i64 0, .bool false, .int .i64 0, .slice none 0 0, .int .i64 0, .slice none 0 0, .string ⟨#[]⟩, .slice none 0 0, .slice none 0 0, .string ⟨#[]⟩] 42)) (some ⟨g, 0, none⟩) xs.length (is xs) ∧ Rt (((w.alloc (.cells #[.int .i64 num, .bool up, .int .i64 life, .int .i64 peer, .int .i64 since, .bool owes, .int .i64 b, .slice (some ⟨g, 0, none⟩) xs.length ci, .int .i64 nx, .slice ho hs.length ch, .string o, .slice so rs.length cs] 39)).alloc (.cells #[.int .i64 k, .int .i64 f, .int .i64 m, .int .i64 y, .int .i64 nxt, .int .i64 msk, .int .i64 sq, .bool l, .string p] 54)).alloc (.cells #[.int .i64 0, .int .i64 0, .bool false, .int .i64 0, .int .i64 0, .int .i64 0, .bool false, .int .i64 0, .slice none 0 0, .int .i64 0, .slice none 0 0, .string ⟨#[]⟩, .slice none 0 0, .slice none 0 0, .string ⟨#[]⟩] 42)) ho so hs rs) := ⟨hr.keep B0.out, hr2.keep B0.out⟩
  have X0 : Hid (Ex (((w.alloc (.cells #[.int .i64 num, .bool up, .int .i64 life, .int .i64 peer, .int .i64 since, .bool owes, .int .i64 b, .slice (some ⟨g, 0, none⟩) xs.length ci, .int .i64 nx, .slice ho hs.length ch, .string o, .slice so rs.length cs] 39)).alloc (.cells #[.int .i64 k, .int .i64 f, .int .i64 m, .int .i64 y, .int .i64 nxt, .int .i64 msk, .int .i64 sq, .bool l, .string p] 54)).alloc (.cells #[.int .i64 0, .int .i64 0, .bool false, .int .i64 0, .int .i64 0, .int .i64 0, .bool false, .int .i64 0, .slice none 0 0, .int .i64 0, .slice none 0 0, .string ⟨#[]⟩, .slice none 0 0, .slice none 0 0, .string ⟨#[]⟩] 42)) w.heap.size #[.int .i64 num, .bool up, .int .i64 life, .int .i64 peer, .int .i64 since, .bool owes, .int .i64 b, .slice (some ⟨g, 0, none⟩) xs.length ci, .int .i64 nx, .slice ho hs.length ch, .string o, .slice so rs.length cs]) := ((Ex.new w _ _).alloc _).alloc _
  have P0 : Hid (Bx (((w.alloc (.cells #[.int .i64 num, .bool up, .int .i64 life, .int .i64 peer, .int .i64 since, .bool owes, .int .i64 b, .slice (some ⟨g, 0, none⟩) xs.length ci, .int .i64 nx, .slice ho hs.length ch, .string o, .slice so rs.length cs] 39)).alloc (.cells #[.int .i64 k, .int .i64 f, .int .i64 m, .int .i64 y, .int .i64 nxt, .int .i64 msk, .int .i64 sq, .bool l, .string p] 54)).alloc (.cells #[.int .i64 0, .int .i64 0, .bool false, .int .i64 0, .int .i64 0, .int .i64 0, .bool false, .int .i64 0, .slice none 0 0, .int .i64 0, .slice none 0 0, .string ⟨#[]⟩, .slice none 0 0, .slice none 0 0, .string ⟨#[]⟩] 42)) (w.heap.size + 1) 54 #[.int .i64 k, .int .i64 f, .int .i64 m, .int .i64 y, .int .i64 nxt, .int .i64 msk, .int .i64 sq, .bool l, .string p]) := (by have := (Bx.new (w.alloc (.cells #[.int .i64 num, .bool up, .int .i64 life, .int .i64 peer, .int .i64 since, .bool owes, .int .i64 b, .slice (some ⟨g, 0, none⟩) xs.length ci, .int .i64 nx, .slice ho hs.length ch, .string o, .slice so rs.length cs] 39)) 54 #[.int .i64 k, .int .i64 f, .int .i64 m, .int .i64 y, .int .i64 nxt, .int .i64 msk, .int .i64 sq, .bool l, .string p]).alloc (.cells #[.int .i64 0, .int .i64 0, .bool false, .int .i64 0, .int .i64 0, .int .i64 0, .bool false, .int .i64 0, .slice none 0 0, .int .i64 0, .slice none 0 0, .string ⟨#[]⟩, .slice none 0 0, .slice none 0 0, .string ⟨#[]⟩] 42); rw [World.size_alloc] at this; exact this : Bx (((w.alloc (.cells #[.int .i64 num, .bool up, .int .i64 life, .int .i64 peer, .int .i64 since, .bool owes, .int .i64 b, .slice (some ⟨g, 0, none⟩) xs.length ci, .int .i64 nx, .slice ho hs.length ch, .string o, .slice so rs.length cs] 39)).alloc (.cells #[.int .i64 k, .int .i64 f, .int .i64 m, .int .i64 y, .int .i64 nxt, .int .i64 msk, .int .i64 sq, .bool l, .string p] 54)).alloc (.cells #[.int .i64 0, .int .i64 0, .bool false, .int .i64 0, .int .i64 0, .int .i64 0, .bool false, .int .i64 0, .slice none 0 0, .int .i64 0, .slice none 0 0, .string ⟨#[]⟩, .slice none 0 0, .slice none 0 0, .string ⟨#[]⟩] 42)) (w.heap.size + 1) 54 #[.int .i64 k, .int .i64 f, .int .i64 m, .int .i64 y, .int .i64 nxt, .int .i64 msk, .int .i64 sq, .bool l, .string p])
  have Z0 : Hid (Bx (((w.alloc (.cells #[.int .i64 num, .bool up, .int .i64 life, .int .i64 peer, .int .i64 since, .bool owes, .int .i64 b, .slice (some ⟨g, 0, none⟩) xs.length ci, .int .i64 nx, .slice ho hs.length ch, .string o, .slice so rs.length cs] 39)).alloc (.cells #[.int .i64 k, .int .i64 f, .int .i64 m, .int .i64 y, .int .i64 nxt, .int .i64 msk, .int .i64 sq, .bool l, .string p] 54)).alloc (.cells #[.int .i64 0, .int .i64 0, .bool false, .int .i64 0, .int .i64 0, .int .i64 0, .bool false, .int .i64 0, .slice none 0 0, .int .i64 0, .slice none 0 0, .string ⟨#[]⟩, .slice none 0 0, .slice none 0 0, .string ⟨#[]⟩] 42)) (w.heap.size + 1 + 1) 42 #[.int .i64 0, .int .i64 0, .bool false, .int .i64 0, .int .i64 0, .int .i64 0, .bool false, .int .i64 0, .slice none 0 0, .int .i64 0, .slice none 0 0, .string ⟨#[]⟩, .slice none 0 0, .slice none 0 0, .string ⟨#[]⟩]) := (by have := Bx.new ((w.alloc (.cells #[.int .i64 num, .bool up, .int .i64 life, .int .i64 peer, .int .i64 since, .bool owes, .int .i64 b, .slice (some ⟨g, 0, none⟩) xs.length ci, .int .i64 nx, .slice ho hs.length ch, .string o, .slice so rs.length cs] 39)).alloc (.cells #[.int .i64 k, .int .i64 f, .int .i64 m, .int .i64 y, .int .i64 nxt, .int .i64 msk, .int .i64 sq, .bool l, .string p] 54)) 42 #[.int .i64 0, .int .i64 0, .bool false, .int .i64 0, .int .i64 0, .int .i64 0, .bool false, .int .i64 0, .slice none 0 0, .int .i64 0, .slice none 0 0, .string ⟨#[]⟩, .slice none 0 0, .slice none 0 0, .string ⟨#[]⟩]; rw [World.size_alloc, World.size_alloc] at this; exact this : Bx (((w.alloc (.cells #[.int .i64 num, .bool up, .int .i64 life, .int .i64 peer, .int .i64 since, .bool owes, .int .i64 b, .slice (some ⟨g, 0, none⟩) xs.length ci, .int .i64 nx, .slice ho hs.length ch, .string o, .slice so rs.length cs] 39)).alloc (.cells #[.int .i64 k, .int .i64 f, .int .i64 m, .int .i64 y, .int .i64 nxt, .int .i64 msk, .int .i64 sq, .bool l, .string p] 54)).alloc (.cells #[.int .i64 0, .int .i64 0, .bool false, .int .i64 0, .int .i64 0, .int .i64 0, .bool false, .int .i64 0, .slice none 0 0, .int .i64 0, .slice none 0 0, .string ⟨#[]⟩, .slice none 0 0, .slice none 0 0, .string ⟨#[]⟩] 42)) (w.heap.size + 1 + 1) 42 #[.int .i64 0, .int .i64 0, .bool false, .int .i64 0, .int .i64 0, .int .i64 0, .bool false, .int .i64 0, .slice none 0 0, .int .i64 0, .slice none 0 0, .string ⟨#[]⟩, .slice none 0 0, .slice none 0 0, .string ⟨#[]⟩])
  clear hm hr hr2 hn1 hn2 hV
  unfold ActPost zeroE
  go_enter Tryz.func17, Tryz.ntmps17
  go_wp2_with (first | (go_at_call 26; refine (HV.out _ R0.out).mono ?_; rintro x w1 ⟨rfl, hb1⟩; (have Z1 := Z0.out.keep hb1); (have X1 := X0.out.keep hb1); (have P1 := P0.out.keep hb1); (obtain ⟨d0, d1, d2, d3, d4, d5, d6, d7, d8, d9, d10, d11⟩ := X1.cells); (obtain ⟨e0, e1, e2, e3, e4, e5, e6, e7, e8⟩ := P1.cells9e); (have y0 := (Z1).cell 0); (have y1 := (Z1).cell 1); (have y2 := (Z1).cell 2); (have y3 := (Z1).cell 3); (have y4 := (Z1).cell 4); (have y5 := (Z1).cell 5); (have y6 := (Z1).cell 6); (have y7 := (Z1).cell 7); (have y8 := (Z1).cell 8); (have y9 := (Z1).cell 9); (have y10 := (Z1).cell 10); (have y11 := (Z1).cell 11); (have y12 := (Z1).cell 12); (have y13 := (Z1).cell 13); (have y14 := (Z1).cell 14); simp at y0 y1 y2 y3 y4 y5 y6 y7 y8 y9 y10 y11 y12 y13 y14; (have u0 := (Z1).frozen 0); (have u1 := (Z1).frozen 1); (have u2 := (Z1).frozen 2); (have u3 := (Z1).frozen 3); (have u4 := (Z1).frozen 4); (have u5 := (Z1).frozen 5); (have u6 := (Z1).frozen 6); (have u7 := (Z1).frozen 7); (have u8 := (Z1).frozen 8); (have u9 := (Z1).frozen 9); (have u10 := (Z1).frozen 10); (have u11 := (Z1).frozen 11); (have u12 := (Z1).frozen 12); (have u13 := (Z1).frozen 13); (have u14 := (Z1).frozen 14)) | fail)
  have B1 := kb B0.out hb1 (Nat.le_refl _)
  exact bodyPost_ret (v := .agg #[.int .i64 1, .int .i64 0, .bool false, .int .i64 0, .int .i64 0, .int .i64 0, .bool false, .int .i64 0, .slice none 0 0, .int .i64 0, .slice none 0 0, .string ⟨#[]⟩, .slice none 0 0, .slice none 0 0, .string ⟨#[]⟩]) (by simp [results, Tryz.results17, go_sem, y0, y1, y2, y3, y4, y5, y6, y7, y8, y9, y10, y11, y12, y13, y14]) rfl ⟨⟨none, 0, none, 0, none, 0, rfl, World.ownsRow_nil _ _ _ _, World.ownsRow_nil _ _ _ _, World.ownsRow_nil _ _ _ _⟩, below15 B1 (w.heap.size + 1 + 1) (by omega) _ _ _ _ _ _ _ _ _ _ _ _ _ _ _⟩
set_option maxRecDepth 100000 in
set_option maxHeartbeats 2000000 in
theorem implEk_go (num : Int) (up : Bool) (life peer since : Int) (owes : Bool) (b : Nat) (xs : List It) (nx : Nat) (hs : List Hd) (o : ByteArray) (rs : List ByteArray) (pe : Int) (ow : Bool) (b2 : Nat) (xs2 : List It) (nx2 : Nat) (hs2 : List Hd) (o2 : ByteArray) (rs2 : List ByteArray) (g : Nat) (ho so : Option Addr) (ci ch cs : Nat) (k f m y nxt msk sq : Int) (l : Bool) (p : ByteArray) (w : World) (hm : Se 1048576 (⟨num, up, life, peer, since, owes, (b : Int), xs, (nx : Int), hs, o, rs⟩ : En)) (hr : Rs w (some ⟨g, 0, none⟩) xs.length (is xs)) (hr2 : Rt w ho so hs rs) (hn1 : ho = none → hs.length = 0 ∧ ch = 0) (hn2 : so = none → rs.length = 0 ∧ cs = 0) (hV : enOk num up life peer since owes (b : Int) xs (nx : Int) hs o rs = true)
    (hRC : ∀ (base A : Nat) (u : World), Actr base A num up life peer since owes b xs nx hs o rs [.int .i64 (b : Int), .slice (some ⟨g, 0, none⟩) xs.length ci, .int .i64 (nx : Int), .slice ho hs.length ch, .string o, .slice so rs.length cs] u → base ≤ u.heap.size → Calls Tryz.prog 41 #[.pointer (some ⟨A, 0, none⟩), .agg #[.int .i64 k, .int .i64 f, .int .i64 m, .int .i64 y, .int .i64 nxt, .int .i64 msk, .int .i64 sq, .bool l, .string p]] u fun x w' => (∃ u, x = .returned u) ∧ Actr base A num up life pe since ow b2 xs2 nx2 hs2 o2 rs2 [.int .i64 (b : Int), .slice (some ⟨g, 0, none⟩) xs.length ci, .int .i64 (nx : Int), .slice ho hs.length ch, .string o, .slice so rs.length cs] w' ∧ Tw nx2 hs2 o2 rs2 ∧ Below base u w') (hb2 : b2 ≤ 1000000) (hl2 : xs2.length ≤ 60) :
    Calls Tryz.prog 17 #[.agg #[.int .i64 num, .bool up, .int .i64 life, .int .i64 peer, .int .i64 since, .bool owes, .int .i64 (b : Int), .slice (some ⟨g, 0, none⟩) xs.length ci, .int .i64 (nx : Int), .slice ho hs.length ch, .string o, .slice so rs.length cs], .agg #[.int .i64 k, .int .i64 f, .int .i64 m, .int .i64 y, .int .i64 nxt, .int .i64 msk, .int .i64 sq, .bool l, .string p]] w fun x w' => (∃ a1 c1 a2 c2 a3 c3, x = .returned (.agg #[.int .i64 0, .int .i64 num, .bool up, .int .i64 life, .int .i64 pe, .int .i64 since, .bool ow, .int .i64 (b2 : Int), .slice a1 xs2.length c1, .int .i64 (nx2 : Int), .slice a2 hs2.length c2, .string o2, .slice a3 rs2.length c3, .slice none 0 0, .string ⟨#[]⟩]) ∧ w'.ownsRow w.heap.size 67 4 (.slice a1 xs2.length c1) xs2.length (is xs2) ∧ w'.ownsRow w.heap.size 95 3 (.slice a2 hs2.length c2) hs2.length (mk.hs hs2) ∧ w'.ownsRow w.heap.size 9 1 (.slice a3 rs2.length c3) rs2.length (ss rs2)) ∧ Below w.heap.size w w' := by
  have hp := enOk_parts (e := (⟨num, up, life, peer, since, owes, (b : Int), xs, (nx : Int), hs, o, rs⟩ : En)) hV
  have hsd : SdOk (b : Int) xs := sdOk_of hp.1
  have htk : TkOk (nx : Int) hs o rs := tkOk_of hp.2.1
  have HV : Hid (∀ u : World, Rs u (some ⟨g, 0, none⟩) xs.length (is xs) ∧ Rt u ho so hs rs → Calls Tryz.prog 26 #[.agg #[.int .i64 num, .bool up, .int .i64 life, .int .i64 peer, .int .i64 since, .bool owes, .int .i64 (b : Int), .slice (some ⟨g, 0, none⟩) xs.length ci, .int .i64 (nx : Int), .slice ho hs.length ch, .string o, .slice so rs.length cs]] u fun x w' => x = .returned (.bool true) ∧ Below u.heap.size u w') := fun u h => by have := implValidEnd_any num up life peer since owes (b : Int) xs (nx : Int) hs o rs (some ⟨g, 0, none⟩) ho so ci ch cs u hm.n hm.t hm.tk.n hm.tk.t hm.tk.o hm.tk.k hm.tk.r h.1 h.2; rw [hV] at this; exact this
  have B0 : Hid (Below w.heap.size w (((w.alloc (.cells #[.int .i64 num, .bool up, .int .i64 life, .int .i64 peer, .int .i64 since, .bool owes, .int .i64 (b : Int), .slice (some ⟨g, 0, none⟩) xs.length ci, .int .i64 (nx : Int), .slice ho hs.length ch, .string o, .slice so rs.length cs] 39)).alloc (.cells #[.int .i64 k, .int .i64 f, .int .i64 m, .int .i64 y, .int .i64 nxt, .int .i64 msk, .int .i64 sq, .bool l, .string p] 54)).alloc (.cells #[.int .i64 0, .int .i64 0, .bool false, .int .i64 0, .int .i64 0, .int .i64 0, .bool false, .int .i64 0, .slice none 0 0, .int .i64 0, .slice none 0 0, .string ⟨#[]⟩, .slice none 0 0, .slice none 0 0, .string ⟨#[]⟩] 42))) := three_below w _ _ _
  have R0 : Hid (Rs (((w.alloc (.cells #[.int .i64 num, .bool up, .int .i64 life, .int .i64 peer, .int .i64 since, .bool owes, .int .i64 (b : Int), .slice (some ⟨g, 0, none⟩) xs.length ci, .int .i64 (nx : Int), .slice ho hs.length ch, .string o, .slice so rs.length cs] 39)).alloc (.cells #[.int .i64 k, .int .i64 f, .int .i64 m, .int .i64 y, .int .i64 nxt, .int .i64 msk, .int .i64 sq, .bool l, .string p] 54)).alloc (.cells #[.int .i64 0, .int .i64 0, .bool false, .int .i64 0, .int .i64 0, .int .i64 0, .bool false, .int .i64 0, .slice none 0 0, .int .i64 0, .slice none 0 0, .string ⟨#[]⟩, .slice none 0 0, .slice none 0 0, .string ⟨#[]⟩] 42)) (some ⟨g, 0, none⟩) xs.length (is xs) ∧ Rt (((w.alloc (.cells #[.int .i64 num, .bool up, .int .i64 life, .int .i64 peer, .int .i64 since, .bool owes, .int .i64 (b : Int), .slice (some ⟨g, 0, none⟩) xs.length ci, .int .i64 (nx : Int), .slice ho hs.length ch, .string o, .slice so rs.length cs] 39)).alloc (.cells #[.int .i64 k, .int .i64 f, .int .i64 m, .int .i64 y, .int .i64 nxt, .int .i64 msk, .int .i64 sq, .bool l, .string p] 54)).alloc (.cells #[.int .i64 0, .int .i64 0, .bool false, .int .i64 0, .int .i64 0, .int .i64 0, .bool false, .int .i64 0, .slice none 0 0, .int .i64 0, .slice none 0 0, .string ⟨#[]⟩, .slice none 0 0, .slice none 0 0, .string ⟨#[]⟩] 42)) ho so hs rs) := ⟨hr.keep B0.out, hr2.keep B0.out⟩
  have X0 : Hid (Ex (((w.alloc (.cells #[.int .i64 num, .bool up, .int .i64 life, .int .i64 peer, .int .i64 since, .bool owes, .int .i64 (b : Int), .slice (some ⟨g, 0, none⟩) xs.length ci, .int .i64 (nx : Int), .slice ho hs.length ch, .string o, .slice so rs.length cs] 39)).alloc (.cells #[.int .i64 k, .int .i64 f, .int .i64 m, .int .i64 y, .int .i64 nxt, .int .i64 msk, .int .i64 sq, .bool l, .string p] 54)).alloc (.cells #[.int .i64 0, .int .i64 0, .bool false, .int .i64 0, .int .i64 0, .int .i64 0, .bool false, .int .i64 0, .slice none 0 0, .int .i64 0, .slice none 0 0, .string ⟨#[]⟩, .slice none 0 0, .slice none 0 0, .string ⟨#[]⟩] 42)) w.heap.size #[.int .i64 num, .bool up, .int .i64 life, .int .i64 peer, .int .i64 since, .bool owes, .int .i64 (b : Int), .slice (some ⟨g, 0, none⟩) xs.length ci, .int .i64 (nx : Int), .slice ho hs.length ch, .string o, .slice so rs.length cs]) := ((Ex.new w _ _).alloc _).alloc _
  have P0 : Hid (Bx (((w.alloc (.cells #[.int .i64 num, .bool up, .int .i64 life, .int .i64 peer, .int .i64 since, .bool owes, .int .i64 (b : Int), .slice (some ⟨g, 0, none⟩) xs.length ci, .int .i64 (nx : Int), .slice ho hs.length ch, .string o, .slice so rs.length cs] 39)).alloc (.cells #[.int .i64 k, .int .i64 f, .int .i64 m, .int .i64 y, .int .i64 nxt, .int .i64 msk, .int .i64 sq, .bool l, .string p] 54)).alloc (.cells #[.int .i64 0, .int .i64 0, .bool false, .int .i64 0, .int .i64 0, .int .i64 0, .bool false, .int .i64 0, .slice none 0 0, .int .i64 0, .slice none 0 0, .string ⟨#[]⟩, .slice none 0 0, .slice none 0 0, .string ⟨#[]⟩] 42)) (w.heap.size + 1) 54 #[.int .i64 k, .int .i64 f, .int .i64 m, .int .i64 y, .int .i64 nxt, .int .i64 msk, .int .i64 sq, .bool l, .string p]) := (by have := (Bx.new (w.alloc (.cells #[.int .i64 num, .bool up, .int .i64 life, .int .i64 peer, .int .i64 since, .bool owes, .int .i64 (b : Int), .slice (some ⟨g, 0, none⟩) xs.length ci, .int .i64 (nx : Int), .slice ho hs.length ch, .string o, .slice so rs.length cs] 39)) 54 #[.int .i64 k, .int .i64 f, .int .i64 m, .int .i64 y, .int .i64 nxt, .int .i64 msk, .int .i64 sq, .bool l, .string p]).alloc (.cells #[.int .i64 0, .int .i64 0, .bool false, .int .i64 0, .int .i64 0, .int .i64 0, .bool false, .int .i64 0, .slice none 0 0, .int .i64 0, .slice none 0 0, .string ⟨#[]⟩, .slice none 0 0, .slice none 0 0, .string ⟨#[]⟩] 42); rw [World.size_alloc] at this; exact this : Bx (((w.alloc (.cells #[.int .i64 num, .bool up, .int .i64 life, .int .i64 peer, .int .i64 since, .bool owes, .int .i64 (b : Int), .slice (some ⟨g, 0, none⟩) xs.length ci, .int .i64 (nx : Int), .slice ho hs.length ch, .string o, .slice so rs.length cs] 39)).alloc (.cells #[.int .i64 k, .int .i64 f, .int .i64 m, .int .i64 y, .int .i64 nxt, .int .i64 msk, .int .i64 sq, .bool l, .string p] 54)).alloc (.cells #[.int .i64 0, .int .i64 0, .bool false, .int .i64 0, .int .i64 0, .int .i64 0, .bool false, .int .i64 0, .slice none 0 0, .int .i64 0, .slice none 0 0, .string ⟨#[]⟩, .slice none 0 0, .slice none 0 0, .string ⟨#[]⟩] 42)) (w.heap.size + 1) 54 #[.int .i64 k, .int .i64 f, .int .i64 m, .int .i64 y, .int .i64 nxt, .int .i64 msk, .int .i64 sq, .bool l, .string p])
  have Z0 : Hid (Bx (((w.alloc (.cells #[.int .i64 num, .bool up, .int .i64 life, .int .i64 peer, .int .i64 since, .bool owes, .int .i64 (b : Int), .slice (some ⟨g, 0, none⟩) xs.length ci, .int .i64 (nx : Int), .slice ho hs.length ch, .string o, .slice so rs.length cs] 39)).alloc (.cells #[.int .i64 k, .int .i64 f, .int .i64 m, .int .i64 y, .int .i64 nxt, .int .i64 msk, .int .i64 sq, .bool l, .string p] 54)).alloc (.cells #[.int .i64 0, .int .i64 0, .bool false, .int .i64 0, .int .i64 0, .int .i64 0, .bool false, .int .i64 0, .slice none 0 0, .int .i64 0, .slice none 0 0, .string ⟨#[]⟩, .slice none 0 0, .slice none 0 0, .string ⟨#[]⟩] 42)) (w.heap.size + 1 + 1) 42 #[.int .i64 0, .int .i64 0, .bool false, .int .i64 0, .int .i64 0, .int .i64 0, .bool false, .int .i64 0, .slice none 0 0, .int .i64 0, .slice none 0 0, .string ⟨#[]⟩, .slice none 0 0, .slice none 0 0, .string ⟨#[]⟩]) := (by have := Bx.new ((w.alloc (.cells #[.int .i64 num, .bool up, .int .i64 life, .int .i64 peer, .int .i64 since, .bool owes, .int .i64 (b : Int), .slice (some ⟨g, 0, none⟩) xs.length ci, .int .i64 (nx : Int), .slice ho hs.length ch, .string o, .slice so rs.length cs] 39)).alloc (.cells #[.int .i64 k, .int .i64 f, .int .i64 m, .int .i64 y, .int .i64 nxt, .int .i64 msk, .int .i64 sq, .bool l, .string p] 54)) 42 #[.int .i64 0, .int .i64 0, .bool false, .int .i64 0, .int .i64 0, .int .i64 0, .bool false, .int .i64 0, .slice none 0 0, .int .i64 0, .slice none 0 0, .string ⟨#[]⟩, .slice none 0 0, .slice none 0 0, .string ⟨#[]⟩]; rw [World.size_alloc, World.size_alloc] at this; exact this : Bx (((w.alloc (.cells #[.int .i64 num, .bool up, .int .i64 life, .int .i64 peer, .int .i64 since, .bool owes, .int .i64 (b : Int), .slice (some ⟨g, 0, none⟩) xs.length ci, .int .i64 (nx : Int), .slice ho hs.length ch, .string o, .slice so rs.length cs] 39)).alloc (.cells #[.int .i64 k, .int .i64 f, .int .i64 m, .int .i64 y, .int .i64 nxt, .int .i64 msk, .int .i64 sq, .bool l, .string p] 54)).alloc (.cells #[.int .i64 0, .int .i64 0, .bool false, .int .i64 0, .int .i64 0, .int .i64 0, .bool false, .int .i64 0, .slice none 0 0, .int .i64 0, .slice none 0 0, .string ⟨#[]⟩, .slice none 0 0, .slice none 0 0, .string ⟨#[]⟩] 42)) (w.heap.size + 1 + 1) 42 #[.int .i64 0, .int .i64 0, .bool false, .int .i64 0, .int .i64 0, .int .i64 0, .bool false, .int .i64 0, .slice none 0 0, .int .i64 0, .slice none 0 0, .string ⟨#[]⟩, .slice none 0 0, .slice none 0 0, .string ⟨#[]⟩])
  have HAC : Hid (∀ u : World, Rs u (some ⟨g, 0, none⟩) xs.length (is xs) ∧ Rt u ho so hs rs → Calls Tryz.prog 27 #[.agg #[.int .i64 num, .bool up, .int .i64 life, .int .i64 peer, .int .i64 since, .bool owes, .int .i64 (b : Int), .slice (some ⟨g, 0, none⟩) xs.length ci, .int .i64 (nx : Int), .slice ho hs.length ch, .string o, .slice so rs.length cs]] u fun x w' => (∃ A, x = .returned (.pointer (some ⟨A, 0, none⟩)) ∧ Actr u.heap.size A num up life peer since owes b xs nx hs o rs [.int .i64 (b : Int), .slice (some ⟨g, 0, none⟩) xs.length ci, .int .i64 (nx : Int), .slice ho hs.length ch, .string o, .slice so rs.length cs] w') ∧ Below u.heap.size u w') := fun u h => (actorOf_any num up life peer since owes b xs nx hs o rs (some ⟨g, 0, none⟩) ho so ci ch cs u hsd htk h.1 h.2).mono fun x w' hp => by
    obtain ⟨⟨A, cr, ds, v, e, q1, q2, q3, q4, q5, q6⟩, hb⟩ := hp
    exact ⟨⟨A, e, ⟨cr, ds, v, q1, q2, q3, q4, q5, q6⟩⟩, hb⟩
  have HRC : Hid (∀ (base A : Nat) (u : World), Actr base A num up life peer since owes b xs nx hs o rs [.int .i64 (b : Int), .slice (some ⟨g, 0, none⟩) xs.length ci, .int .i64 (nx : Int), .slice ho hs.length ch, .string o, .slice so rs.length cs] u → base ≤ u.heap.size → Calls Tryz.prog 41 #[.pointer (some ⟨A, 0, none⟩), .agg #[.int .i64 k, .int .i64 f, .int .i64 m, .int .i64 y, .int .i64 nxt, .int .i64 msk, .int .i64 sq, .bool l, .string p]] u fun x w' => (∃ u, x = .returned u) ∧ Actr base A num up life pe since ow b2 xs2 nx2 hs2 o2 rs2 [.int .i64 (b : Int), .slice (some ⟨g, 0, none⟩) xs.length ci, .int .i64 (nx : Int), .slice ho hs.length ch, .string o, .slice so rs.length cs] w' ∧ Tw nx2 hs2 o2 rs2 ∧ Below base u w') := hRC
  have HAE : Hid (∀ (base A : Nat) (u : World), Actr base A num up life pe since ow b2 xs2 nx2 hs2 o2 rs2 [.int .i64 (b : Int), .slice (some ⟨g, 0, none⟩) xs.length ci, .int .i64 (nx : Int), .slice ho hs.length ch, .string o, .slice so rs.length cs] u → Tw nx2 hs2 o2 rs2 → base ≤ u.heap.size → Calls Tryz.prog 29 #[.pointer (some ⟨A, 0, none⟩)] u fun x w' => (∃ a1 c1 a2 c2 a3 c3, x = .returned (.agg #[.int .i64 num, .bool up, .int .i64 life, .int .i64 pe, .int .i64 since, .bool ow, .int .i64 (b2 : Int), .slice a1 xs2.length c1, .int .i64 (nx2 : Int), .slice a2 hs2.length c2, .string o2, .slice a3 rs2.length c3]) ∧ w'.ownsRow u.heap.size 67 4 (.slice a1 xs2.length c1) xs2.length (is xs2) ∧ w'.ownsRow u.heap.size 95 3 (.slice a2 hs2.length c2) hs2.length (mk.hs hs2) ∧ w'.ownsRow base 9 1 (.slice a3 rs2.length c3) rs2.length (ss rs2)) ∧ Below u.heap.size u w') := fun base A u h ht2 hbs => by
    obtain ⟨cr, ds, v, q1, q2, q3, q4, q5, q6⟩ := h.ex
    refine (asEnd_w base A num up life pe since ow (b : Int) (nx : Int) (some ⟨g, 0, none⟩) ho so xs.length ci hs.length ch rs.length cs o b2 xs2 nx2 hs2 o2 rs2 cr ds v u q1 q2 q3 q4 q5 q6 hb2 hl2 ht2 hbs).mono fun x w' hp => ?_
    obtain ⟨⟨a1, c1, a2, c2, a3, c3, -, e, p1, p2, p3⟩, hb⟩ := hp
    exact ⟨⟨a1, c1, a2, c2, a3, c3, e, p1, p2, p3⟩, hb⟩
  clear hm hr hr2 hn1 hn2 hV hsd htk hp hRC hb2 hl2
  go_enter Tryz.func17, Tryz.ntmps17
  go_wp2_with (first
    | (go_at_call 26; refine (HV.out _ R0.out).mono ?_; rintro x w1 ⟨rfl, hb1⟩; (have Z1 := Z0.out.keep hb1); (have X1 := X0.out.keep hb1); (have P1 := P0.out.keep hb1); (obtain ⟨d0, d1, d2, d3, d4, d5, d6, d7, d8, d9, d10, d11⟩ := X1.cells); (obtain ⟨e0, e1, e2, e3, e4, e5, e6, e7, e8⟩ := P1.cells9e); (have y0 := (Z1).cell 0); (have y1 := (Z1).cell 1); (have y2 := (Z1).cell 2); (have y3 := (Z1).cell 3); (have y4 := (Z1).cell 4); (have y5 := (Z1).cell 5); (have y6 := (Z1).cell 6); (have y7 := (Z1).cell 7); (have y8 := (Z1).cell 8); (have y9 := (Z1).cell 9); (have y10 := (Z1).cell 10); (have y11 := (Z1).cell 11); (have y12 := (Z1).cell 12); (have y13 := (Z1).cell 13); (have y14 := (Z1).cell 14); simp at y0 y1 y2 y3 y4 y5 y6 y7 y8 y9 y10 y11 y12 y13 y14; (have u0 := (Z1).frozen 0); (have u1 := (Z1).frozen 1); (have u2 := (Z1).frozen 2); (have u3 := (Z1).frozen 3); (have u4 := (Z1).frozen 4); (have u5 := (Z1).frozen 5); (have u6 := (Z1).frozen 6); (have u7 := (Z1).frozen 7); (have u8 := (Z1).frozen 8); (have u9 := (Z1).frozen 9); (have u10 := (Z1).frozen 10); (have u11 := (Z1).frozen 11); (have u12 := (Z1).frozen 12); (have u13 := (Z1).frozen 13); (have u14 := (Z1).frozen 14))
    | (go_at_call 27; refine (HAC.out _ ⟨R0.out.1.keep hb1, R0.out.2.keep hb1⟩).mono ?_; rintro x w2 ⟨⟨A, rfl, A2⟩, hb2⟩; (have Z2 := Z1.keep hb2); (have P2 := P1.keep hb2); clear e0 e1 e2 e3 e4 e5 e6 e7 e8; (obtain ⟨e0, e1, e2, e3, e4, e5, e6, e7, e8⟩ := P2.cells9e))
    | (go_at_call 41; refine (HRC.out _ A _ A2 hb2.size).mono ?_; rintro x w3 ⟨⟨rv3, rfl⟩, A3, T3, hb3⟩; (have Z3 := Z2.under hb3 Z1.lt); (have s3 := hb3.size))
    | (go_at_call 29; refine (HAE.out _ A _ A3 T3 (Nat.le_trans hb2.size s3)).mono ?_; rintro x w4 ⟨⟨a1, c1, a2, c2, a3, c3, rfl, p1, p2, p3⟩, hb4⟩; (have Z4 := Z3.keep hb4); clear y0 u0 y1 u1 y2 u2 y3 u3 y4 u4 y5 u5 y6 u6 y7 u7 y8 u8 y9 u9 y10 u10 y11 u11 y12 u12 y13 u13 y14 u14; (have y0 := (Z4).cell 0); (have y1 := (Z4).cell 1); (have y2 := (Z4).cell 2); (have y3 := (Z4).cell 3); (have y4 := (Z4).cell 4); (have y5 := (Z4).cell 5); (have y6 := (Z4).cell 6); (have y7 := (Z4).cell 7); (have y8 := (Z4).cell 8); (have y9 := (Z4).cell 9); (have y10 := (Z4).cell 10); (have y11 := (Z4).cell 11); (have y12 := (Z4).cell 12); (have y13 := (Z4).cell 13); (have y14 := (Z4).cell 14); simp at y0 y1 y2 y3 y4 y5 y6 y7 y8 y9 y10 y11 y12 y13 y14; (have u0 := (Z4).frozen 0); (have u1 := (Z4).frozen 1); (have u2 := (Z4).frozen 2); (have u3 := (Z4).frozen 3); (have u4 := (Z4).frozen 4); (have u5 := (Z4).frozen 5); (have u6 := (Z4).frozen 6); (have u7 := (Z4).frozen 7); (have u8 := (Z4).frozen 8); (have u9 := (Z4).frozen 9); (have u10 := (Z4).frozen 10); (have u11 := (Z4).frozen 11); (have u12 := (Z4).frozen 12); (have u13 := (Z4).frozen 13); (have u14 := (Z4).frozen 14))
    | fail)
  have q1 : w.heap.size + 1 + 1 < w1.heap.size := Z1.lt
  have q2 := hb2.size
  have B2 := kb (kb B0.out hb1 (Nat.le_refl _)) hb2 (Nat.le_refl _)
  have B3 := B2.trans (hb3.mono (by omega))
  have B4 := kb B3 hb4 (Nat.le_refl _)
  clear y0 u0 y1 u1 y2 u2 y3 u3 y4 u4 y5 u5 y6 u6 y7 u7 y8 u8 y9 u9 y10 u10 y11 u11 y12 u12 y13 u13 y14 u14
  have Z5 := bx15 Z4 (.int .i64 0) (.int .i64 num) (.bool up) (.int .i64 life) (.int .i64 pe) (.int .i64 since) (.bool ow) (.int .i64 (b2 : Int)) (.slice a1 xs2.length c1) (.int .i64 (nx2 : Int)) (.slice a2 hs2.length c2) (.string o2) (.slice a3 rs2.length c3) (.slice none 0 0) (.string ⟨#[]⟩)
  have B5 := below15 B4 (w.heap.size + 1 + 1) (by omega) (.int .i64 0) (.int .i64 num) (.bool up) (.int .i64 life) (.int .i64 pe) (.int .i64 since) (.bool ow) (.int .i64 (b2 : Int)) (.slice a1 xs2.length c1) (.int .i64 (nx2 : Int)) (.slice a2 hs2.length c2) (.string o2) (.slice a3 rs2.length c3) (.slice none 0 0) (.string ⟨#[]⟩)
  have r1 := owns_mono3 (own15 p1 (w.heap.size + 1 + 1) (by omega) (.int .i64 0) (.int .i64 num) (.bool up) (.int .i64 life) (.int .i64 pe) (.int .i64 since) (.bool ow) (.int .i64 (b2 : Int)) (.slice a1 xs2.length c1) (.int .i64 (nx2 : Int)) (.slice a2 hs2.length c2) (.string o2) (.slice a3 rs2.length c3) (.slice none 0 0) (.string ⟨#[]⟩)) (show w.heap.size ≤ _ by omega)
  have r2 := owns_mono3 (own15 p2 (w.heap.size + 1 + 1) (by omega) (.int .i64 0) (.int .i64 num) (.bool up) (.int .i64 life) (.int .i64 pe) (.int .i64 since) (.bool ow) (.int .i64 (b2 : Int)) (.slice a1 xs2.length c1) (.int .i64 (nx2 : Int)) (.slice a2 hs2.length c2) (.string o2) (.slice a3 rs2.length c3) (.slice none 0 0) (.string ⟨#[]⟩)) (show w.heap.size ≤ _ by omega)
  have r3 := owns_mono3 (own15 p3 (w.heap.size + 1 + 1) (by omega) (.int .i64 0) (.int .i64 num) (.bool up) (.int .i64 life) (.int .i64 pe) (.int .i64 since) (.bool ow) (.int .i64 (b2 : Int)) (.slice a1 xs2.length c1) (.int .i64 (nx2 : Int)) (.slice a2 hs2.length c2) (.string o2) (.slice a3 rs2.length c3) (.slice none 0 0) (.string ⟨#[]⟩)) (show w.heap.size ≤ _ by omega)
  generalize (((((((((((((((w4.setCell ⟨w.heap.size + 1 + 1, 0, none⟩ (.int .i64 0)).setCell ⟨w.heap.size + 1 + 1, 1, none⟩ (.int .i64 num)).setCell ⟨w.heap.size + 1 + 1, 2, none⟩ (.bool up)).setCell ⟨w.heap.size + 1 + 1, 3, none⟩ (.int .i64 life)).setCell ⟨w.heap.size + 1 + 1, 4, none⟩ (.int .i64 pe)).setCell ⟨w.heap.size + 1 + 1, 5, none⟩ (.int .i64 since)).setCell ⟨w.heap.size + 1 + 1, 6, none⟩ (.bool ow)).setCell ⟨w.heap.size + 1 + 1, 7, none⟩ (.int .i64 (b2 : Int))).setCell ⟨w.heap.size + 1 + 1, 8, none⟩ (.slice a1 xs2.length c1)).setCell ⟨w.heap.size + 1 + 1, 9, none⟩ (.int .i64 (nx2 : Int))).setCell ⟨w.heap.size + 1 + 1, 10, none⟩ (.slice a2 hs2.length c2)).setCell ⟨w.heap.size + 1 + 1, 11, none⟩ (.string o2)).setCell ⟨w.heap.size + 1 + 1, 12, none⟩ (.slice a3 rs2.length c3)).setCell ⟨w.heap.size + 1 + 1, 13, none⟩ (.slice none 0 0)).setCell ⟨w.heap.size + 1 + 1, 14, none⟩ (.string ⟨#[]⟩)) = U at Z5 B5 r1 r2 r3 ⊢
  obtain ⟨k0, k1, k2, k3, k4, k5, k6, k7, k8, k9, k10, k11, k12, k13, k14⟩ := Z5.cells15
  exact bodyPost_ret (v := .agg #[.int .i64 0, .int .i64 num, .bool up, .int .i64 life, .int .i64 pe, .int .i64 since, .bool ow, .int .i64 (b2 : Int), .slice a1 xs2.length c1, .int .i64 (nx2 : Int), .slice a2 hs2.length c2, .string o2, .slice a3 rs2.length c3, .slice none 0 0, .string ⟨#[]⟩]) (by simp [results, Tryz.results17, go_sem, k0, k1, k2, k3, k4, k5, k6, k7, k8, k9, k10, k11, k12, k13, k14]) rfl ⟨⟨a1, c1, a2, c2, a3, c3, rfl, r1, r2, r3⟩, B5⟩
end Go.Proofs.YthjncmgjkejikaaGreat.mk
/-
  A PACKET at an end: impl.EndTake, one contract.
-/
namespace Go.Proofs.YthjncmgjkejikaaGreat.mk
open Go.RowKit
set_option linter.unusedVariables false

theorem zero_ok : sdOk ((0 : Nat) : Int) [] = true := by
  unfold sdOk
  simp only [decide_eq_true_eq]
  exact ⟨by unfold HdOk; simp, fun i h => absurd h (by simp)⟩
theorem zero_tk : tkOk ((0 : Nat) : Int) [] ⟨#[]⟩ [] = true := by
  unfold tkOk
  simp only [decide_eq_true_eq]
  exact ⟨by unfold TkHd; decide, fun i h => absurd h (by simp), fun i h => absurd h (by simp)⟩
set_option maxHeartbeats 2000000 in
theorem implEk_any (e : En) (g : Nat) (ho so : Option Addr) (ci ch cs : Nat) (k f m y nxt msk sq : Int) (l : Bool) (p : ByteArray) (w : World) (hm : Se 1048576 e) (hr : Re w e (some ⟨g, 0, none⟩) ho so) (hn1 : ho = none → e.hs.length = 0 ∧ ch = 0) (hn2 : so = none → e.rs.length = 0 ∧ cs = 0) (hps : p.size ≤ 1048576) :
    Calls Tryz.prog 17 #[.agg #[.int .i64 e.num, .bool e.up, .int .i64 e.life, .int .i64 e.peer, .int .i64 e.since, .bool e.owes, .int .i64 e.b, .slice (some ⟨g, 0, none⟩) e.xs.length ci, .int .i64 e.nx, .slice ho e.hs.length ch, .string e.o, .slice so e.rs.length cs], .agg #[.int .i64 k, .int .i64 f, .int .i64 m, .int .i64 y, .int .i64 nxt, .int .i64 msk, .int .i64 sq, .bool l, .string p]] w fun x w' => ActPost (takeE e k f m y nxt msk sq l p).1 (takeE e k f m y nxt msk sq l p).2 ⟨#[]⟩ w x w' := by
  obtain ⟨num, up, life, peer, since, owes, b, xs, nx, hs', o, rs⟩ := e
  unfold takeE
  cases V : enOk num up life peer since owes b xs nx hs' o rs with
  | false => exact implEk_no num up life peer since owes b xs nx hs' o rs g ho so ci ch cs k f m y nxt msk sq l p w hm hr.send hr.take hn1 hn2 V
  | true =>
    simp only [if_true]
    have hp := enOk_parts (e := ⟨num, up, life, peer, since, owes, b, xs, nx, hs', o, rs⟩) V
    have hsd : SdOk b xs := sdOk_of hp.1
    have htk : TkOk nx hs' o rs := tkOk_of hp.2.1
    obtain ⟨b, rfl⟩ := Int.eq_ofNat_of_zero_le (show 0 ≤ b by have := hsd.1; unfold HdOk at this; omega)
    obtain ⟨nx, rfl⟩ := Int.eq_ofNat_of_zero_le (show 0 ≤ nx by have := htk.1; unfold TkHd at this; omega)
    have hbb : b ≤ 1000000 ∧ xs.length ≤ 60 ∧ b + xs.length ≤ 1000000 := by have := hsd.1; unfold HdOk at this; omega
    cases hh : heedsP num up peer k f m y nxt msk sq l p with
    | false =>
      simp only [Bool.false_eq_true, if_false]
      have := implEk_go num up life peer since owes b xs nx hs' o rs peer owes b xs nx hs' o rs g ho so ci ch cs k f m y nxt msk sq l p w hm hr.send hr.take hn1 hn2 V (fun base A u h hbs => (recv_no base A num up life peer since owes b xs nx hs' o rs _ k f m y nxt msk sq l p u h hh hbs).mono fun x w' q => ⟨q.1, q.2.1, (Tw.of htk), q.2.2⟩) (by omega) (by omega)
      exact this
    | true =>
      simp only [if_true]
      have hle : peer ≤ m := by
        have h2 := hh
        simp only [heedsP, Bool.and_eq_true, decide_eq_true_eq] at h2
        exact h2.2.2.2
      by_cases hm1 : peer < m
      · simp only [if_pos hm1]
        obtain ⟨E0, hE0⟩ : ∃ E0 : En, E0 = ⟨num, up, life, peer, since, owes, (b : Int), xs, (nx : Int), hs', o, rs⟩ := ⟨_, rfl⟩
        rw [← hE0]
        by_cases hy : y = life
        · subst hy
          by_cases hk : k = 1
          · subst hk
            have T : doE (pairE E0 m) 1 y nxt msk sq l p = ⟨num, up, y, m, since, true, ((heard 0 [] nxt msk).1 : Int), (heard 0 [] nxt msk).2, ((0 : Nat) : Int), [], ⟨#[]⟩, []⟩ := by
              have e1 := wordOf_yes (b := 0) (xs := []) zero_ok nxt msk
              have hc : y = (pairE E0 m).life := by subst hE0; rfl
              unfold doE
              rw [if_pos hc, if_pos rfl]
              subst hE0
              show (⟨num, up, y, m, since, true, (wordOf ((0 : Nat) : Int) [] nxt msk).1, (wordOf ((0 : Nat) : Int) [] nxt msk).2, ((0 : Nat) : Int), [], ⟨#[]⟩, []⟩ : En) = _
              rw [e1]
            rw [T]
            have hle := heard_le 0 [] nxt msk
            have := implEk_go num up y peer since owes b xs nx hs' o rs m true (heard 0 [] nxt msk).1 (heard 0 [] nxt msk).2 0 [] ⟨#[]⟩ [] g ho so ci ch cs 1 f m y nxt msk sq l p w hm hr.send hr.take hn1 hn2 V (fun base A u h hbs => (recv_NW base A num up y peer since owes b xs nx hs' o rs _ f m nxt msk sq l p u h hh hm1  hbs).mono fun x w' q => ⟨q.1, q.2.1, tw_zero, q.2.2⟩) (by first | omega | (simp at hle; omega)) (by first | omega | (simp at hle; simp [hle]))
            exact this
          · obtain rfl : k = 2 := by
              apply Classical.byContradiction
              intro h2
              rw [heedsP, tag.pkOk_other hk h2] at hh
              cases hh
            have T : doE (pairE E0 m) 2 y nxt msk sq l p = ⟨num, up, y, m, since, true, ((0 : Nat) : Int), [], ((tin (heldBy 0 [] sq p l) 0 ⟨#[]⟩ []).1 : Int), (tin (heldBy 0 [] sq p l) 0 ⟨#[]⟩ []).2.1, (tin (heldBy 0 [] sq p l) 0 ⟨#[]⟩ []).2.2.1, (tin (heldBy 0 [] sq p l) 0 ⟨#[]⟩ []).2.2.2⟩ := by
              have e1 := partOf_yes (nx := 0) (xs := []) (o := ⟨#[]⟩) (rs := []) (q := sq) (s := p) (l := l) zero_tk
              have hc : y = (pairE E0 m).life := by subst hE0; rfl
              unfold doE
              rw [if_pos hc, if_neg (by decide)]
              subst hE0
              show (⟨num, up, y, m, since, true, ((0 : Nat) : Int), [], ((partOf ((0 : Nat) : Int) [] ⟨#[]⟩ [] sq p l).1 : Int), (partOf ((0 : Nat) : Int) [] ⟨#[]⟩ [] sq p l).2.1, (partOf ((0 : Nat) : Int) [] ⟨#[]⟩ [] sq p l).2.2.1, (partOf ((0 : Nat) : Int) [] ⟨#[]⟩ [] sq p l).2.2.2⟩ : En) = _
              rw [e1]
            rw [T]
            have := implEk_go num up y peer since owes b xs nx hs' o rs m true 0 [] (tin (heldBy 0 [] sq p l) 0 ⟨#[]⟩ []).1 (tin (heldBy 0 [] sq p l) 0 ⟨#[]⟩ []).2.1 (tin (heldBy 0 [] sq p l) 0 ⟨#[]⟩ []).2.2.1 (tin (heldBy 0 [] sq p l) 0 ⟨#[]⟩ []).2.2.2 g ho so ci ch cs 2 f m y nxt msk sq l p w hm hr.send hr.take hn1 hn2 V (fun base A u h hbs => (recv_ND base A num up y peer since owes b xs nx hs' o rs _ f m nxt msk sq l p u h hh hm1 hps hbs).mono fun x w' q => ⟨q.1, q.2.1, q.2.2.1, q.2.2.2⟩) (by omega) (by first | omega | simp)
            exact this
        · skip
          have T : doE (pairE E0 m) k y nxt msk sq l p = ⟨num, up, life, m, since, true, ((0 : Nat) : Int), [], ((0 : Nat) : Int), [], ⟨#[]⟩, []⟩ := by unfold doE; rw [if_neg (by first | exact hy | (rw [hE0]; exact hy))]; subst hE0; rfl
          rw [T]
          have := implEk_go num up life peer since owes b xs nx hs' o rs m true 0 [] 0 [] ⟨#[]⟩ [] g ho so ci ch cs k f m y nxt msk sq l p w hm hr.send hr.take hn1 hn2 V (fun base A u h hbs => (recv_NO base A num up life peer since owes b xs nx hs' o rs _ k f m y nxt msk sq l p u h hh hm1 hy hbs).mono fun x w' q => ⟨q.1, q.2.1, tw_zero, q.2.2⟩) (by omega) (by first | omega | simp)
          exact this
      · simp only [if_neg hm1]
        obtain rfl : m = peer := by omega
        obtain ⟨E0, hE0⟩ : ∃ E0 : En, E0 = ⟨num, up, life, m, since, owes, (b : Int), xs, (nx : Int), hs', o, rs⟩ := ⟨_, rfl⟩
        rw [← hE0]
        by_cases hy : y = life
        · subst hy
          by_cases hk : k = 1
          · subst hk
            have T : doE E0 1 y nxt msk sq l p = ⟨num, up, y, m, since, owes, ((heard b xs nxt msk).1 : Int), (heard b xs nxt msk).2, ((nx : Nat) : Int), hs', o, rs⟩ := by
              have e1 := wordOf_yes (b := b) (xs := xs) hp.1 nxt msk
              have hc : y = E0.life := by subst hE0; rfl
              unfold doE
              rw [if_pos hc, if_pos rfl]
              subst hE0
              show (⟨num, up, y, m, since, owes, (wordOf ((b : Nat) : Int) xs nxt msk).1, (wordOf ((b : Nat) : Int) xs nxt msk).2, ((nx : Nat) : Int), hs', o, rs⟩ : En) = _
              rw [e1]
            rw [T]
            have hle := heard_le b xs nxt msk
            have := implEk_go num up y m since owes b xs nx hs' o rs m owes (heard b xs nxt msk).1 (heard b xs nxt msk).2 nx hs' o rs g ho so ci ch cs 1 f m y nxt msk sq l p w hm hr.send hr.take hn1 hn2 V (fun base A u h hbs => (recv_SW base A num up y m since owes b xs nx hs' o rs _ f nxt msk sq l p u h hh  hbb.1 hbb.2.1 (fun i hi => by have := (hsd.2 i hi); unfold ItOk at this; omega) hbs).mono fun x w' q => ⟨q.1, q.2.1, (Tw.of htk), q.2.2⟩) (by first | omega | (simp at hle; omega)) (by first | omega | (simp at hle; simp [hle]))
            exact this
          · obtain rfl : k = 2 := by
              apply Classical.byContradiction
              intro h2
              rw [heedsP, tag.pkOk_other hk h2] at hh
              cases hh
            have T : doE E0 2 y nxt msk sq l p = ⟨num, up, y, m, since, true, ((b : Nat) : Int), xs, ((tin (heldBy nx hs' sq p l) nx o rs).1 : Int), (tin (heldBy nx hs' sq p l) nx o rs).2.1, (tin (heldBy nx hs' sq p l) nx o rs).2.2.1, (tin (heldBy nx hs' sq p l) nx o rs).2.2.2⟩ := by
              have e1 := partOf_yes (nx := nx) (xs := hs') (o := o) (rs := rs) (q := sq) (s := p) (l := l) hp.2.1
              have hc : y = E0.life := by subst hE0; rfl
              unfold doE
              rw [if_pos hc, if_neg (by decide)]
              subst hE0
              show (⟨num, up, y, m, since, true, ((b : Nat) : Int), xs, ((partOf ((nx : Nat) : Int) hs' o rs sq p l).1 : Int), (partOf ((nx : Nat) : Int) hs' o rs sq p l).2.1, (partOf ((nx : Nat) : Int) hs' o rs sq p l).2.2.1, (partOf ((nx : Nat) : Int) hs' o rs sq p l).2.2.2⟩ : En) = _
              rw [e1]
            rw [T]
            have := implEk_go num up y m since owes b xs nx hs' o rs m true b xs (tin (heldBy nx hs' sq p l) nx o rs).1 (tin (heldBy nx hs' sq p l) nx o rs).2.1 (tin (heldBy nx hs' sq p l) nx o rs).2.2.1 (tin (heldBy nx hs' sq p l) nx o rs).2.2.2 g ho so ci ch cs 2 f m y nxt msk sq l p w hm hr.send hr.take hn1 hn2 V (fun base A u h hbs => (recv_SD base A num up y m since owes b xs nx hs' o rs _ f nxt msk sq l p u h hh  (Tw.of htk) hps hbs).mono fun x w' q => ⟨q.1, q.2.1, q.2.2.1, q.2.2.2⟩) (by omega) (by first | omega | simp)
            exact this
        · skip
          have T : doE E0 k y nxt msk sq l p = ⟨num, up, life, m, since, true, ((b : Nat) : Int), xs, ((nx : Nat) : Int), hs', o, rs⟩ := by unfold doE; rw [if_neg (by first | exact hy | (rw [hE0]; exact hy))]; subst hE0; rfl
          rw [T]
          have := implEk_go num up life m since owes b xs nx hs' o rs m true b xs nx hs' o rs g ho so ci ch cs k f m y nxt msk sq l p w hm hr.send hr.take hn1 hn2 V (fun base A u h hbs => (recv_SO base A num up life m since owes b xs nx hs' o rs _ k f y nxt msk sq l p u h hh  hy hbs).mono fun x w' q => ⟨q.1, q.2.1, (Tw.of htk), q.2.2⟩) (by omega) (by first | omega | simp)
          exact this
end Go.Proofs.YthjncmgjkejikaaGreat.mk

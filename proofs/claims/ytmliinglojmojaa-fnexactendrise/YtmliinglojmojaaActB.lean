/-
  AN ACTOR: impl.actorOf.
-/
import Derived.Test.YtmliinglojmojaaActA
import Derived.Test.YtmliinglojmojaaRgC
import Derived.Test.YtmliinglojmojaaBase
namespace Go.Proofs.Ytmliinglojmojaa.mk
open Go.RowKit
set_option linter.unusedVariables false

theorem step_load_mid {P : Program} {ops : Array Oper} {op : Oper} {a : Act} {w : World} {K : Act → World → Prop} {Q : Exit → Act → World → Prop} {E : Prop} (hgd : op.guard = none) (ty : TypeId) (x : Operand) (ho : op.op = .load ty x)
    (b o : Nat) (hx : a.eval x = .pointer (some ⟨b, o, none⟩)) (cs : List Value) (d : TypeDesc) (hc : w.rangeAt b o cs)
    (hu : P.underlying ty = some d) (hd : d.isRow = true) (hi : (P.info? ty).map (·.size) = some cs.length)
    (h : K (a.put op.dst (.agg cs.toArray)) w) : if Region.wanted op (yielded ops a.tmps) = true then Oper.wp P op a w K Q else E := by
  have hw : Region.wanted op (yielded ops a.tmps) = true := by simp [Region.wanted, hgd]
  rw [if_pos hw]
  exact wp_load_mid ty x ho b o hx cs d hc hu hd hi h
theorem step_build {P : Program} {ops : Array Oper} {op : Oper} {a : Act} {w : World} {K : Act → World → Prop} {Q : Exit → Act → World → Prop} {E : Prop} (hgd : op.guard = none) (t : TypeId) (parts : Array (Nat × Operand)) (ho : op.op = .build t parts) (l : List (Nat × Value)) (hl : (parts.map fun (i, x) => (i, a.eval x)).toList = l) (cells : Array Value)
    (hb : P.built t l = some cells) (h : K (a.put op.dst (.agg cells)) w) : if Region.wanted op (yielded ops a.tmps) = true then Oper.wp P op a w K Q else E := by
  have hw : Region.wanted op (yielded ops a.tmps) = true := by simp [Region.wanted, hgd]
  rw [if_pos hw]
  subst hl
  refine wp_build t parts ho (by rw [hb]; rfl) ?_
  rw [hb]
  exact h
theorem ring_range {base : Nat} {R : Rl} {cs : List Value} {w : World} (h : Ring base R cs w) : w.rangeAt R 0 cs := fun j v hj => by
  have hl : j < cs.length := by
    rcases Nat.lt_or_ge j cs.length with q | q
    · exact q
    · rw [List.getElem?_eq_none q] at hj; simp at hj
  rw [Nat.zero_add, h.cell j (by have := h.length; omega), hj]
theorem tn_range {base R : Nat} {cs : List Value} {w : World} (h : Tn base R cs w) : w.rangeAt R 0 cs := fun j v hj => by
  have hl : j < cs.length := by
    rcases Nat.lt_or_ge j cs.length with q | q
    · exact q
    · rw [List.getElem?_eq_none q] at hj; simp at hj
  rw [Nat.zero_add, h.cell j (by have := h.length; omega), hj]
theorem infoR : (Try.prog.info? 130).map (·.size) = some 242 := by kernel_rfl
theorem infoT : (Try.prog.info? 137).map (·.size) = some 20 := by kernel_rfl
theorem Bx.cells12 {u : World} {B : Nat} {t : TypeId} {c0 c1 c2 c3 c4 c5 c6 c7 c8 c9 c10 c11 : Value} (h : Bx u B t #[c0, c1, c2, c3, c4, c5, c6, c7, c8, c9, c10, c11]) : u.cell? ⟨B, 0, none⟩ = some c0 ∧ u.cell? ⟨B, 1, none⟩ = some c1 ∧ u.cell? ⟨B, 2, none⟩ = some c2 ∧ u.cell? ⟨B, 3, none⟩ = some c3 ∧ u.cell? ⟨B, 4, none⟩ = some c4 ∧ u.cell? ⟨B, 5, none⟩ = some c5 ∧ u.cell? ⟨B, 6, none⟩ = some c6 ∧ u.cell? ⟨B, 7, none⟩ = some c7 ∧ u.cell? ⟨B, 8, none⟩ = some c8 ∧ u.cell? ⟨B, 9, none⟩ = some c9 ∧ u.cell? ⟨B, 10, none⟩ = some c10 ∧ u.cell? ⟨B, 11, none⟩ = some c11 := ⟨h.cell 0, h.cell 1, h.cell 2, h.cell 3, h.cell 4, h.cell 5, h.cell 6, h.cell 7, h.cell 8, h.cell 9, h.cell 10, h.cell 11⟩
set_option maxRecDepth 100000 in
set_option maxHeartbeats 2000000 in
theorem actorOf_any (num : Int) (up : Bool) (life peer since : Int) (owes : Bool) (b : Nat) (xs : List It) (nx : Nat) (hs : List Hd) (o : ByteArray) (rs : List ByteArray) (ao ho so : Option Addr) (ci ch cs : Nat) (w : World) (hsd : SdOk (b : Int) xs) (htk : TkOk (nx : Int) hs o rs) (h1 : Rs w ao xs.length (is xs)) (h2 : Rt w ho so hs rs) :
    Calls Try.prog 66 #[.agg #[.int .i64 num, .bool up, .int .i64 life, .int .i64 peer, .int .i64 since, .bool owes, .int .i64 (b : Int), .slice ao xs.length ci, .int .i64 (nx : Int), .slice ho hs.length ch, .string o, .slice so rs.length cs]] w fun e w' => (∃ A cr ds v, e = .returned (.pointer (some ⟨A, 0, none⟩)) ∧ w'.ownsRow w.heap.size 141 274 (.slice (some ⟨A, 0, none⟩) 1 1) 1 (cr ++ (ds ++ [.int .i64 num, .bool up, .int .i64 life, .int .i64 peer, .int .i64 since, .bool owes, .int .i64 (b : Int), .slice ao xs.length ci, .int .i64 (nx : Int), .slice ho hs.length ch, .string o, .slice so rs.length cs])) ∧ Holds b xs cr ∧ HoldT (nx : Int) hs o v ds ∧ cr.length = 242 ∧ ds.length = 20 ∧ w'.ownsRow w.heap.size 9 1 v rs.length (ss rs)) ∧ Below w.heap.size w w' := by
  have hbb : b ≤ 1000000 := by have := hsd.1; unfold HdOk at this; omega
  have hnn : xs.length ≤ 60 := by have := hsd.1; unfold HdOk at this; omega
  have HG : Hid (∀ u : World, Rs u ao xs.length (is xs) → Calls Try.prog 105 #[.agg #[.int .i64 (b : Int), .slice ao xs.length ci]] u fun e w' => (∃ (R : Rl) (cs : List Value), e = .returned (.pointer (some ⟨R, 0, none⟩)) ∧ Ring u.heap.size R cs w' ∧ Holds b xs cs) ∧ Below u.heap.size u w') := fun u h => ringOf_any b ao ci xs u hbb hnn (fun i hi => by have := (hsd.2 i hi).1; omega) h
  have HI : Hid (∀ u : World, Rt u ho so hs rs → Calls Try.prog 106 #[.agg #[.int .i64 (nx : Int), .slice ho hs.length ch, .string o, .slice so rs.length cs]] u fun e w' => (∃ R ds v, e = .returned (.pointer (some ⟨R, 0, none⟩)) ∧ Tn u.heap.size R ds w' ∧ HoldT (nx : Int) hs o v ds ∧ w'.ownsRow u.heap.size 9 1 v rs.length (ss rs)) ∧ Below u.heap.size u w') := fun u h => intakeOf_any nx ho so ch cs hs o rs u htk h
  have b0 : Below w.heap.size w (w.alloc (.cells #[.int .i64 num, .bool up, .int .i64 life, .int .i64 peer, .int .i64 since, .bool owes, .int .i64 (b : Int), .slice ao xs.length ci, .int .i64 (nx : Int), .slice ho hs.length ch, .string o, .slice so rs.length cs] 49)) := (Below.refl _ _).alloc (Nat.le_refl _) _
  obtain ⟨W0, hW0⟩ : ∃ W0, W0 = w.alloc (.cells #[.int .i64 num, .bool up, .int .i64 life, .int .i64 peer, .int .i64 since, .bool owes, .int .i64 (b : Int), .slice ao xs.length ci, .int .i64 (nx : Int), .slice ho hs.length ch, .string o, .slice so rs.length cs] 49) := ⟨_, rfl⟩
  have HW0 : Hid (W0 = w.alloc (.cells #[.int .i64 num, .bool up, .int .i64 life, .int .i64 peer, .int .i64 since, .bool owes, .int .i64 (b : Int), .slice ao xs.length ci, .int .i64 (nx : Int), .slice ho hs.length ch, .string o, .slice so rs.length cs] 49)) := hW0
  rw [← hW0] at b0
  replace h1 := h1.keep b0
  replace h2 := h2.keep b0
  have X0 : Bx W0 w.heap.size 49 #[.int .i64 num, .bool up, .int .i64 life, .int .i64 peer, .int .i64 since, .bool owes, .int .i64 (b : Int), .slice ao xs.length ci, .int .i64 (nx : Int), .slice ho hs.length ch, .string o, .slice so rs.length cs] := by rw [hW0]; exact Bx.new _ _ _
  have HB0 : Hid (Below w.heap.size w W0) := b0
  clear hsd htk hW0 b0
  go_enter Try.func66, Try.ntmps66
  go_wp2
  rw [← HW0.out]
  refine wp_region_held_drew (S := (fun w' => Below W0.heap.size W0 w')) (by kernel_rfl) ?_ (fun hHeld => ?_)
  · exact (Below.refl _ _).drew
  refine tkF 0 (some 3) ?_
  refine tkE 1 (some 4) ?_ ?_ ?_
  rotate_left
  · (intro w hSw; (have bb := X0.keep hSw); (obtain ⟨q0, q1, q2, q3, q4, q5, q6, q7, q8, q9, q10, q11⟩ := bb.cells12); go_simp <;> with_reducible rfl)
  refine tkF 5 (some 8) ?_
  refine tkE 6 (some 9) ?_ ?_ ?_
  rotate_left
  · (intro w hSw; (have bb := X0.keep hSw); (obtain ⟨q0, q1, q2, q3, q4, q5, q6, q7, q8, q9, q10, q11⟩ := bb.cells12); go_simp <;> with_reducible rfl)
  refine tkE 10 (some 13) ?_ ?_ ?_
  rotate_left
  · (intro w hSw; (have bb := X0.keep hSw); (obtain ⟨q0, q1, q2, q3, q4, q5, q6, q7, q8, q9, q10, q11⟩ := bb.cells12); go_simp <;> with_reducible rfl)
  refine wpAnyH_ready (rs := [2]) (by kernel_rfl) (by simp) ?_
  refine AllReadyH.cons rfl (fun K hK => ?_) AllReadyH.nil
  have hH0 := hHeld
  go_simp
  refine (HG.out _ (h1.keep hH0)).mono ?_
  rintro e w1 ⟨⟨R, cr, rfl, hring, hH⟩, hb1⟩
  go_wp2_with fail
  refine hK.out _ _ ?_ (fun hHeld => ?_)
  · exact kb hH0 hb1 (Nat.le_refl _)
  clear hK K
  try simp only [Act.put, List.setIfInBounds_toArray, List.set_cons_zero, List.set_cons_succ]
  refine tkF 3 (some 6) ?_
  refine wpAnyH_ready (rs := [4, 7]) (by kernel_rfl) (by simp) ?_
  refine AllReadyH.cons rfl (fun K hK => ?_) (AllReadyH.cons rfl (fun K hK => ?_) AllReadyH.nil)
  · have hH0 := hHeld
    refine step_load_mid rfl 130 _ rfl R 0 rfl cr _ (ring_range hring) Try.underlying130 rfl (by rw [infoR, hring.length]) ?_
    refine hK.out _ _ ?_ (fun hHeld => ?_)
    · exact hH0
    clear hK K
    try simp only [Act.put]
    refine wpAnyH_ready (rs := [7]) (by kernel_rfl) (by simp) ?_
    refine AllReadyH.cons rfl (fun K hK => ?_) AllReadyH.nil
    have hH0 := hHeld
    go_simp
    refine (HI.out _ (h2.keep hH0)).mono ?_
    rintro e w2 ⟨⟨I, ds, v, rfl, htn, hT, hrow⟩, hb2⟩
    have hbase := hH0
    go_wp2_with fail
    refine hK.out _ _ ?_ (fun hHeld => ?_)
    · exact kb hH0 hb2 (Nat.le_refl _)
    clear hK K
    try simp only [Act.put, List.setIfInBounds_toArray, List.set_cons_zero, List.set_cons_succ]
    refine tkF 8 (some 11) ?_
    refine wpAnyH_ready (rs := [9]) (by kernel_rfl) (by simp) ?_
    refine AllReadyH.cons rfl (fun K hK => ?_) AllReadyH.nil
    have hH0 := hHeld
    refine step_load_mid rfl 137 _ rfl I 0 rfl ds _ (tn_range htn) Try.underlying137 rfl (by rw [infoT, htn.length]) ?_
    refine hK.out _ _ ?_ (fun hHeld => ?_)
    · exact hH0
    clear hK K
    try simp only [Act.put]
    replace hring := hring.keep hb2
    refine wpAnyH_ready (rs := [11]) (by kernel_rfl) (by simp) ?_
    refine AllReadyH.cons rfl (fun K hK => ?_) AllReadyH.nil
    have hH0 := hHeld
    refine step_build rfl 141 _ rfl [(0, .agg cr.toArray), (1, .agg ds.toArray), (2, .agg #[.int .i64 num, .bool up, .int .i64 life, .int .i64 peer, .int .i64 since, .bool owes, .int .i64 (b : Int), .slice ao xs.length ci, .int .i64 (nx : Int), .slice ho hs.length ch, .string o, .slice so rs.length cs])] (by simp [Act.eval]) _ (built_actor cr.toArray ds.toArray #[.int .i64 num, .bool up, .int .i64 life, .int .i64 peer, .int .i64 since, .bool owes, .int .i64 (b : Int), .slice ao xs.length ci, .int .i64 (nx : Int), .slice ho hs.length ch, .string o, .slice so rs.length cs] (by simp [hring.length]) (by simp [htn.length]) rfl) ?_
    refine hK.out _ _ ?_ (fun hHeld => ?_)
    · exact hH0
    clear hK K
    try simp only [Act.put]
    refine wpAnyH_ready (rs := [12]) (by kernel_rfl) (by simp) ?_
    refine AllReadyH.cons rfl (fun K hK => ?_) AllReadyH.nil
    have hH0 := hHeld
    go_simp
    have hlen1 := hring.length
    have hlen2 := htn.length
    have oA : (w2.alloc (.cells (List.toArray (cr ++ (ds ++ ([.int .i64 num, .bool up, .int .i64 life, .int .i64 peer, .int .i64 since, .bool owes, .int .i64 (b : Int), .slice ao xs.length ci, .int .i64 (nx : Int), .slice ho hs.length ch, .string o, .slice so rs.length cs] : List Value)))) 141)).ownsRow w.heap.size 141 274 (.slice (some ⟨w2.heap.size, 0, none⟩) 1 1) 1 (cr ++ (ds ++ ([.int .i64 num, .bool up, .int .i64 life, .int .i64 peer, .int .i64 since, .bool owes, .int .i64 (b : Int), .slice ao xs.length ci, .int .i64 (nx : Int), .slice ho hs.length ch, .string o, .slice so rs.length cs] : List Value))) := World.ownsRow_lit (base := w.heap.size) (e := 141) (size := 274) w2 (List.toArray (cr ++ (ds ++ ([.int .i64 num, .bool up, .int .i64 life, .int .i64 peer, .int .i64 since, .bool owes, .int .i64 (b : Int), .slice ao xs.length ci, .int .i64 (nx : Int), .slice ho hs.length ch, .string o, .slice so rs.length cs] : List Value)))) 1 (Nat.le_trans HB0.out.size hH0.size) (by unfold maxLen; omega) (by simp; omega)
    have rA := hrow.alloc (.cells (List.toArray (cr ++ (ds ++ ([.int .i64 num, .bool up, .int .i64 life, .int .i64 peer, .int .i64 since, .bool owes, .int .i64 (b : Int), .slice ao xs.length ci, .int .i64 (nx : Int), .slice ho hs.length ch, .string o, .slice so rs.length cs] : List Value)))) 141)
    have bA : Below w.heap.size w (w2.alloc (.cells (List.toArray (cr ++ (ds ++ ([.int .i64 num, .bool up, .int .i64 life, .int .i64 peer, .int .i64 since, .bool owes, .int .i64 (b : Int), .slice ao xs.length ci, .int .i64 (nx : Int), .slice ho hs.length ch, .string o, .slice so rs.length cs] : List Value)))) 141)) := (kb HB0.out hH0 (Nat.le_refl _)).alloc (kb HB0.out hH0 (Nat.le_refl _)).size _
    refine hK.out _ _ ?_ (fun hHeld => ?_)
    · exact hH0.alloc hH0.size _
    clear hK K
    try simp only [Act.put, List.setIfInBounds_toArray, List.set_cons_zero, List.set_cons_succ]
    refine tkF 13 (some 2) ?_
    refine wpAnyH_done (by kernel_rfl) ?_ _
    go_wp2
    go_ret
    exact ⟨⟨w2.heap.size, cr, ds, v, rfl, oA, hH, hT, hlen1, hlen2, owns_mono3 rA (Nat.le_trans HB0.out.size hbase.size)⟩, bA⟩
  · have hH0 := hHeld
    go_simp
    refine (HI.out _ (h2.keep hH0)).mono ?_
    rintro e w2 ⟨⟨I, ds, v, rfl, htn, hT, hrow⟩, hb2⟩
    have hbase := hH0
    go_wp2_with fail
    refine hK.out _ _ ?_ (fun hHeld => ?_)
    · exact kb hH0 hb2 (Nat.le_refl _)
    clear hK K
    try simp only [Act.put, List.setIfInBounds_toArray, List.set_cons_zero, List.set_cons_succ]
    replace hring := hring.keep hb2
    refine tkF 8 (some 11) ?_
    refine wpAnyH_ready (rs := [4, 9]) (by kernel_rfl) (by simp) ?_
    refine AllReadyH.cons rfl (fun K hK => ?_) (AllReadyH.cons rfl (fun K hK => ?_) AllReadyH.nil)
    · have hH0 := hHeld
      refine step_load_mid rfl 130 _ rfl R 0 rfl cr _ (ring_range hring) Try.underlying130 rfl (by rw [infoR, hring.length]) ?_
      refine hK.out _ _ ?_ (fun hHeld => ?_)
      · exact hH0
      clear hK K
      try simp only [Act.put]
      refine wpAnyH_ready (rs := [9]) (by kernel_rfl) (by simp) ?_
      refine AllReadyH.cons rfl (fun K hK => ?_) AllReadyH.nil
      have hH0 := hHeld
      refine step_load_mid rfl 137 _ rfl I 0 rfl ds _ (tn_range htn) Try.underlying137 rfl (by rw [infoT, htn.length]) ?_
      refine hK.out _ _ ?_ (fun hHeld => ?_)
      · exact hH0
      clear hK K
      try simp only [Act.put]
      refine wpAnyH_ready (rs := [11]) (by kernel_rfl) (by simp) ?_
      refine AllReadyH.cons rfl (fun K hK => ?_) AllReadyH.nil
      have hH0 := hHeld
      refine step_build rfl 141 _ rfl [(0, .agg cr.toArray), (1, .agg ds.toArray), (2, .agg #[.int .i64 num, .bool up, .int .i64 life, .int .i64 peer, .int .i64 since, .bool owes, .int .i64 (b : Int), .slice ao xs.length ci, .int .i64 (nx : Int), .slice ho hs.length ch, .string o, .slice so rs.length cs])] (by simp [Act.eval]) _ (built_actor cr.toArray ds.toArray #[.int .i64 num, .bool up, .int .i64 life, .int .i64 peer, .int .i64 since, .bool owes, .int .i64 (b : Int), .slice ao xs.length ci, .int .i64 (nx : Int), .slice ho hs.length ch, .string o, .slice so rs.length cs] (by simp [hring.length]) (by simp [htn.length]) rfl) ?_
      refine hK.out _ _ ?_ (fun hHeld => ?_)
      · exact hH0
      clear hK K
      try simp only [Act.put]
      refine wpAnyH_ready (rs := [12]) (by kernel_rfl) (by simp) ?_
      refine AllReadyH.cons rfl (fun K hK => ?_) AllReadyH.nil
      have hH0 := hHeld
      go_simp
      have hlen1 := hring.length
      have hlen2 := htn.length
      have oA : (w2.alloc (.cells (List.toArray (cr ++ (ds ++ ([.int .i64 num, .bool up, .int .i64 life, .int .i64 peer, .int .i64 since, .bool owes, .int .i64 (b : Int), .slice ao xs.length ci, .int .i64 (nx : Int), .slice ho hs.length ch, .string o, .slice so rs.length cs] : List Value)))) 141)).ownsRow w.heap.size 141 274 (.slice (some ⟨w2.heap.size, 0, none⟩) 1 1) 1 (cr ++ (ds ++ ([.int .i64 num, .bool up, .int .i64 life, .int .i64 peer, .int .i64 since, .bool owes, .int .i64 (b : Int), .slice ao xs.length ci, .int .i64 (nx : Int), .slice ho hs.length ch, .string o, .slice so rs.length cs] : List Value))) := World.ownsRow_lit (base := w.heap.size) (e := 141) (size := 274) w2 (List.toArray (cr ++ (ds ++ ([.int .i64 num, .bool up, .int .i64 life, .int .i64 peer, .int .i64 since, .bool owes, .int .i64 (b : Int), .slice ao xs.length ci, .int .i64 (nx : Int), .slice ho hs.length ch, .string o, .slice so rs.length cs] : List Value)))) 1 (Nat.le_trans HB0.out.size hH0.size) (by unfold maxLen; omega) (by simp; omega)
      have rA := hrow.alloc (.cells (List.toArray (cr ++ (ds ++ ([.int .i64 num, .bool up, .int .i64 life, .int .i64 peer, .int .i64 since, .bool owes, .int .i64 (b : Int), .slice ao xs.length ci, .int .i64 (nx : Int), .slice ho hs.length ch, .string o, .slice so rs.length cs] : List Value)))) 141)
      have bA : Below w.heap.size w (w2.alloc (.cells (List.toArray (cr ++ (ds ++ ([.int .i64 num, .bool up, .int .i64 life, .int .i64 peer, .int .i64 since, .bool owes, .int .i64 (b : Int), .slice ao xs.length ci, .int .i64 (nx : Int), .slice ho hs.length ch, .string o, .slice so rs.length cs] : List Value)))) 141)) := (kb HB0.out hH0 (Nat.le_refl _)).alloc (kb HB0.out hH0 (Nat.le_refl _)).size _
      refine hK.out _ _ ?_ (fun hHeld => ?_)
      · exact hH0.alloc hH0.size _
      clear hK K
      try simp only [Act.put, List.setIfInBounds_toArray, List.set_cons_zero, List.set_cons_succ]
      refine tkF 13 (some 2) ?_
      refine wpAnyH_done (by kernel_rfl) ?_ _
      go_wp2
      go_ret
      exact ⟨⟨w2.heap.size, cr, ds, v, rfl, oA, hH, hT, hlen1, hlen2, owns_mono3 rA (Nat.le_trans HB0.out.size hbase.size)⟩, bA⟩
    · have hH0 := hHeld
      refine step_load_mid rfl 137 _ rfl I 0 rfl ds _ (tn_range htn) Try.underlying137 rfl (by rw [infoT, htn.length]) ?_
      refine hK.out _ _ ?_ (fun hHeld => ?_)
      · exact hH0
      clear hK K
      try simp only [Act.put]
      refine wpAnyH_ready (rs := [4]) (by kernel_rfl) (by simp) ?_
      refine AllReadyH.cons rfl (fun K hK => ?_) AllReadyH.nil
      have hH0 := hHeld
      refine step_load_mid rfl 130 _ rfl R 0 rfl cr _ (ring_range hring) Try.underlying130 rfl (by rw [infoR, hring.length]) ?_
      refine hK.out _ _ ?_ (fun hHeld => ?_)
      · exact hH0
      clear hK K
      try simp only [Act.put]
      refine wpAnyH_ready (rs := [11]) (by kernel_rfl) (by simp) ?_
      refine AllReadyH.cons rfl (fun K hK => ?_) AllReadyH.nil
      have hH0 := hHeld
      refine step_build rfl 141 _ rfl [(0, .agg cr.toArray), (1, .agg ds.toArray), (2, .agg #[.int .i64 num, .bool up, .int .i64 life, .int .i64 peer, .int .i64 since, .bool owes, .int .i64 (b : Int), .slice ao xs.length ci, .int .i64 (nx : Int), .slice ho hs.length ch, .string o, .slice so rs.length cs])] (by simp [Act.eval]) _ (built_actor cr.toArray ds.toArray #[.int .i64 num, .bool up, .int .i64 life, .int .i64 peer, .int .i64 since, .bool owes, .int .i64 (b : Int), .slice ao xs.length ci, .int .i64 (nx : Int), .slice ho hs.length ch, .string o, .slice so rs.length cs] (by simp [hring.length]) (by simp [htn.length]) rfl) ?_
      refine hK.out _ _ ?_ (fun hHeld => ?_)
      · exact hH0
      clear hK K
      try simp only [Act.put]
      refine wpAnyH_ready (rs := [12]) (by kernel_rfl) (by simp) ?_
      refine AllReadyH.cons rfl (fun K hK => ?_) AllReadyH.nil
      have hH0 := hHeld
      go_simp
      have hlen1 := hring.length
      have hlen2 := htn.length
      have oA : (w2.alloc (.cells (List.toArray (cr ++ (ds ++ ([.int .i64 num, .bool up, .int .i64 life, .int .i64 peer, .int .i64 since, .bool owes, .int .i64 (b : Int), .slice ao xs.length ci, .int .i64 (nx : Int), .slice ho hs.length ch, .string o, .slice so rs.length cs] : List Value)))) 141)).ownsRow w.heap.size 141 274 (.slice (some ⟨w2.heap.size, 0, none⟩) 1 1) 1 (cr ++ (ds ++ ([.int .i64 num, .bool up, .int .i64 life, .int .i64 peer, .int .i64 since, .bool owes, .int .i64 (b : Int), .slice ao xs.length ci, .int .i64 (nx : Int), .slice ho hs.length ch, .string o, .slice so rs.length cs] : List Value))) := World.ownsRow_lit (base := w.heap.size) (e := 141) (size := 274) w2 (List.toArray (cr ++ (ds ++ ([.int .i64 num, .bool up, .int .i64 life, .int .i64 peer, .int .i64 since, .bool owes, .int .i64 (b : Int), .slice ao xs.length ci, .int .i64 (nx : Int), .slice ho hs.length ch, .string o, .slice so rs.length cs] : List Value)))) 1 (Nat.le_trans HB0.out.size hH0.size) (by unfold maxLen; omega) (by simp; omega)
      have rA := hrow.alloc (.cells (List.toArray (cr ++ (ds ++ ([.int .i64 num, .bool up, .int .i64 life, .int .i64 peer, .int .i64 since, .bool owes, .int .i64 (b : Int), .slice ao xs.length ci, .int .i64 (nx : Int), .slice ho hs.length ch, .string o, .slice so rs.length cs] : List Value)))) 141)
      have bA : Below w.heap.size w (w2.alloc (.cells (List.toArray (cr ++ (ds ++ ([.int .i64 num, .bool up, .int .i64 life, .int .i64 peer, .int .i64 since, .bool owes, .int .i64 (b : Int), .slice ao xs.length ci, .int .i64 (nx : Int), .slice ho hs.length ch, .string o, .slice so rs.length cs] : List Value)))) 141)) := (kb HB0.out hH0 (Nat.le_refl _)).alloc (kb HB0.out hH0 (Nat.le_refl _)).size _
      refine hK.out _ _ ?_ (fun hHeld => ?_)
      · exact hH0.alloc hH0.size _
      clear hK K
      try simp only [Act.put, List.setIfInBounds_toArray, List.set_cons_zero, List.set_cons_succ]
      refine tkF 13 (some 2) ?_
      refine wpAnyH_done (by kernel_rfl) ?_ _
      go_wp2
      go_ret
      exact ⟨⟨w2.heap.size, cr, ds, v, rfl, oA, hH, hT, hlen1, hlen2, owns_mono3 rA (Nat.le_trans HB0.out.size hbase.size)⟩, bA⟩
end Go.Proofs.Ytmliinglojmojaa.mk

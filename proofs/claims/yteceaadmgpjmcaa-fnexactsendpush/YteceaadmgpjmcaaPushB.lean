/-
  PUSHING: (*impl.sendRing).push.
-/
import Derived.Test.YteceaadmgpjmcaaPushA
namespace Go.Proofs.Yteceaadmgpjmcaa.mk
open Go.RowKit Go.Shelf
set_option linter.unusedVariables false
attribute [local go_sem] Oper.semAt_some

theorem three_b (w : World) (o p q : Obj) : Below w.heap.size w (((w.alloc o).alloc p).alloc q) := (((Below.refl _ _).alloc (Nat.le_refl _) _).alloc (by simp) _).alloc (by simp; omega) _
theorem bx_putObj {U : World} {A D : Nat} {t : TypeId} {cs : Array Value} (h : Bx U A t cs) (o : Obj) (hd : U.heap[D]? = some (.deferred (some []))) : Bx (U.putObj D o) A t cs := by
  have hne : A ≠ D := by rintro rfl; rw [show U.heap[A]? = _ from h] at hd; cases hd
  show (U.putObj D o).heap[A]? = _
  simp only [World.putObj]
  rw [Array.getElem?_setIfInBounds_ne (Ne.symm hne)]
  exact h
theorem push_results {U : World} {B D : Nat} {z : Value} {tmps : Array Value} (h2 : Bx U B 3 #[z]) (hd : U.heap[D]? = some (.deferred (some []))) (e4 : tmps.getD 4 undef = .pointer (some ⟨B, 0, none⟩) := by rfl) :
    (results Try.f58 tmps).run Try.prog (U.putObj D (.deferred none)) = .ok z (U.putObj D (.deferred none)) := by
  have h2' := bx_putObj h2 (.deferred none) hd
  generalize U.putObj D (.deferred none) = V at *
  have c2 := h2'.cell 0
  simp at c2
  rw [Array.getD_eq_getD_getElem?] at e4
  simp [results, Try.results58, go_sem, e4, c2]
theorem owns_other {u : World} {base n : Nat} {e : TypeId} {size : Nat} {v : Value} {xs : List Value} (h : u.ownsRow base e size v n xs) (p : Addr) (hp : p.block < base) (x : Value) : (u.setCell p x).ownsRow base e size v n xs :=
  ownsRow_setCell_other h (fun hh => by have := h.lt _ hh; omega) x
theorem ring_putObj {base : Nat} {R : Rl} {cs : List Value} {U : World} {D : Nat} {o : Obj} (h : Ring base R cs U) (hd : U.heap[D]? = some (.deferred (some []))) : Ring base R cs (U.putObj D o) := by
  exact ⟨h.length, h.other, ownsRow_putObj h.row _ hd rfl⟩
/-- what push does: with code 0 the parts stand behind the items; with code 3 the ring is of no more use -/
def RingPost (base : Nat) (R : Rl) (b : Nat) (xs : List It) (s : ByteArray) (v : Value) (n : Nat) (zs : List Value) (w : World) (e : Ending) (w' : World) : Prop :=
  ((¬ Full b xs.length (cut s).length ∧ e = .returned (.int .i64 0) ∧ ∃ cs, Ring base R cs w' ∧ Holds b (xs ++ (cut s).map newIt) cs ∧ w'.ownsRow base 9 1 v n zs) ∨ (Full b xs.length (cut s).length ∧ e = .returned (.int .i64 3))) ∧ Below base w w' ∧ w.heap.size ≤ w'.heap.size
set_option maxRecDepth 100000 in
set_option maxHeartbeats 2000000 in
theorem ringPush_yes (base : Nat) (R : Rl) (b : Nat) (xs : List It) (s : ByteArray) (cs : List Value) (v : Value) (n : Nat) (zs : List Value) (w : World) (hv : w.ownsRow base 9 1 v n zs) (hring : Ring base R cs w) (hH : Holds b xs cs) (hbs : base ≤ w.heap.size) (hbb : b ≤ 1000000) (hnn : xs.length ≤ 60) (hbn : b + xs.length ≤ 1000000) (hs : s.size ≤ 200) :
    Calls Try.prog 58 #[.pointer (some ⟨R, 0, none⟩), .string s] w fun e w' => RingPost base R b xs s v n zs w e w' := by
  have hcl := cut_length s
  have hRl := hring.lt
  refine (callsIn_wide (n := 6)).1 ?_
  refine callsIn_of_wp_marks Try.func58 rfl trivial ?_ rfl
  simp only [Try.ntmps58, List.size_toArray, List.length_cons, List.length_nil, Nat.reduceAdd, Nat.reduceSub, Array.replicate_succ, Array.replicate_zero, List.push_toArray, List.append_toArray, List.nil_append, List.cons_append]
  gi_wp2_with (first
    | (refine ⟨trivial, ?_⟩; gi_at_call 82; refine (partsOf_in _ _ _).mono ?_; rintro e w' ⟨rfl, rfl⟩))
  obtain ⟨W0, hW0⟩ : ∃ W0, (((w.alloc (.cells #[.pointer (some ⟨R, 0, none⟩)] 89)).alloc (.cells #[.int .i64 0] 3)).alloc (.cells #[.string s] 9)) = W0 := ⟨_, rfl⟩
  have z0 : W0.heap.size = w.heap.size + 1 + 1 + 1 := by rw [← hW0]; simp
  have Y0 : Bx W0 w.heap.size 89 #[.pointer (some ⟨R, 0, none⟩)] := by rw [← hW0]; exact ((Bx.new w _ _).alloc _).alloc _
  have Y2 : Bx W0 (w.heap.size + 1) 3 #[.int .i64 0] := by rw [← hW0]; have := (Bx.new (w.alloc (.cells #[.pointer (some ⟨R, 0, none⟩)] 89)) 3 #[.int .i64 0]).alloc (.cells #[.string s] 9); rw [World.size_alloc] at this; exact this
  have Ys : Bx W0 (w.heap.size + 1 + 1) 9 #[.string s] := by rw [← hW0]; have := Bx.new ((w.alloc (.cells #[.pointer (some ⟨R, 0, none⟩)] 89)).alloc (.cells #[.int .i64 0] 3)) 9 #[.string s]; rw [World.size_alloc, World.size_alloc] at this; exact this
  have Yr : Ring base R cs W0 := by rw [← hW0]; exact ((hring.alloc _).alloc _).alloc _
  have Yv : W0.ownsRow base 9 1 v n zs := by rw [← hW0]; exact ((hv.alloc _).alloc _).alloc _
  have B0 : Below base w W0 := by rw [← hW0]; exact (three_b w _ _ _).mono hbs
  rw [hW0]
  clear hW0 hring hv
  have hc0 : W0.cell? ⟨w.heap.size + 1 + 1, 0, none⟩ = some (.string s) := Ys.cell 0
  refine wpIn_rangeFunc_ownH rfl (by omega) (gf := 97) (lb := #[.pointer (some ⟨w.heap.size + 1 + 1, 0, none⟩)]) rfl trivial (enters_of Try.func97 (by kernel_rfl) rfl)
    (parts_stops _ (by omega) (w.heap.size + 1 + 1) base s hs W0 (by omega) hc0) belowK_t (belowK_b (by omega)) (Below.refl _ _) (fun _ => rfl)
    (fun pre W => (Bx W w.heap.size 89 #[.pointer (some ⟨R, 0, none⟩)] ∧ Bx W (w.heap.size + 1) 3 #[.int .i64 0]) ∧ ((∃ cs, Ring base R cs W ∧ Holds b (xs ++ pre.map newIt) cs ∧ W.ownsRow base 9 1 v n zs) ∧ xs.length + pre.length ≤ 60 ∧ b + (xs.length + pre.length) ≤ 1000000) ∧ Below base w W)
    (fun c pre W => c = .ret ∧ Bx W (w.heap.size + 1) 3 #[.int .i64 3] ∧ (60 < xs.length + pre.length ∨ 1000000 < b + (xs.length + pre.length)) ∧ Below base w W)
    (fun q X Y row hq hg hrow => ⟨⟨bx_own (β := Unit) _ _ (fun _ => _) () X Y row hq.1.1 hg (fun r e => (hrow r e).2), bx_own (β := Unit) _ _ (fun _ => _) () X Y row hq.1.2 hg (fun r e => (hrow r e).2)⟩, ⟨by obtain ⟨cs, r1, r2, r3⟩ := hq.2.1.1; exact ⟨cs, ring_abides r1 hg (fun r e => (hrow r e).2), r2, owns_abides r3 hg (fun r e => (hrow r e).2)⟩, hq.2.1.2⟩, ownFrom_below (β := Unit) hbs (by omega) () X Y row hq.2.2 hg hrow⟩)
    (fun c q X Y row hq hg hrow => ⟨hq.1, bx_own (β := Unit) _ _ (fun _ => _) () X Y row hq.2.1 hg (fun r e => (hrow r e).2), hq.2.2.1, ownFrom_below (β := Unit) hbs (by omega) () X Y row hq.2.2.2 hg hrow⟩)
    ⟨⟨Y0, Y2⟩, ⟨⟨cs, Yr, by simpa using hH, Yv⟩, by simpa using hnn, by simpa using hbn⟩, B0⟩
    (fun x a' W => ∃ Bq, Bx W Bq 67 #[.string x.1, .bool x.2] ∧ a' = { tmps := #[.pointer (some ⟨R, 0, none⟩), .string s, .pointer (some ⟨w.heap.size, 0, none⟩), undef, .pointer (some ⟨w.heap.size + 1, 0, none⟩), .pointer (some ⟨Bq, 0, none⟩), .string s, .int .i64 (s.size : Int), .bool (decide (200 < (s.size : Int))), .string s, .func (.func 97) #[] #[.pointer (some ⟨w.heap.size + 1 + 1, 0, none⟩)], .agg #[.string x.1, .bool x.2], undef, undef, undef, undef, undef, undef, undef], defers := [] })
    (fun x a' _ X Y row hs hg hr => by obtain ⟨Bq, h1, h2⟩ := hs; exact ⟨Bq, bx_own (β := Unit) _ _ (fun _ => _) () X Y row h1 hg (fun r e => (hr r e).2), h2⟩)
    ?assign ?body ?done ?stop
  case assign =>
    rintro l pre x W K ⟨⟨p0, p2⟩, ⟨⟨cs, hring, hH, hvv⟩, hn1, hn2⟩, hB⟩ hK
    gi_wp2
    exact hK _ _ ((KeepsOthers.alloc _ _).from _) ((Below.refl _ W).alloc (Nat.le_trans hbs hB.size) _) ⟨⟨p0.alloc _, p2.alloc _⟩, ⟨⟨cs, hring.alloc _, hH, hvv.alloc _⟩, hn1, hn2⟩, hB.alloc (Nat.le_trans hbs hB.size) _⟩ ⟨W.heap.size, Bx.new W _ _, rfl⟩
  case body =>
    rintro l pre x a' W hl ⟨r, hr⟩ ⟨⟨p0, p2⟩, ⟨⟨cs, hring, hH, hvv⟩, hn1, hn2⟩, hB⟩ ⟨Bq, bq, rfl⟩ hlt
    have hp0 := p0.cell 0
    have hq0 := bq.cell 0
    have hq1 := bq.cell 1
    simp at hp0 hq0 hq1
    have hml : (xs ++ pre.map newIt).length = xs.length + pre.length := by simp
    have hF := (hring.cell 240 (by omega)).trans hH.2.1
    have hE := (hring.cell 241 (by omega)).trans hH.2.2.1
    rw [hml] at hE
    have hwW := hB.size
    have hbW : base ≤ W.heap.size := Nat.le_trans hbs hwW
    by_cases hrm : xs.length + pre.length < 60 ∧ b + (xs.length + pre.length) < 1000000
    · have HR : Hid (∀ u : World, u = W → Calls Try.prog 83 #[.pointer (some ⟨R, 0, none⟩)] u fun e w' => e = .returned (.bool true) ∧ Below u.heap.size u w') := fun u hu => by subst hu; exact room_yes R b (b + (xs.length + pre.length)) _ (by omega) (by omega) hF hE (by omega) (by omega)
      gi_wp2_with (first
        | (refine ⟨trivial, ?_⟩; gi_at_call 83; refine (CallsIn.inRound l (callsIn_wide.2 (HR.out _ rfl))).mono ?_; rintro e w3 ⟨rfl, hb3⟩; (have v0 := (p0.keep hb3).cell 0); (have v1 := (bq.keep hb3).cell 0); (have v2 := (bq.keep hb3).cell 1); simp at v0 v1 v2)
        | (refine ⟨trivial, ?_⟩; gi_at_call 81; refine (CallsIn.inRound l (callsIn_wide.2 (put_any base R cs (b + (xs.length + pre.length)) x.1 x.2 false (-1) _ (hring.keep hb3) (by omega) (by rw [← hml]; exact hH.2.2.1)))).mono ?_; rintro e w4 ⟨⟨v, rfl⟩, hr4, hg4⟩))
      have K3 : KeepsOthers W w3 := ⟨hb3.size, fun k o hk _ => (hb3.block k (Array.getElem?_eq_some_iff.1 hk).1).trans hk⟩
      have hpush := hH.push (by rw [hml]; exact hrm.1) (newIt x)
      rw [hml] at hpush
      have hB4 : Below base W w4 := (hb3.mono hbW).grown hg4 (Nat.le_trans hbW hb3.size) (fun q hq => by cases hq; omega)
      refine ⟨(K3.trans (KeepsOthers.of_grownBy hg4 (fun j o e ho => by cases e; exact (hring.keep hb3).isCells ho))).from _, hB4, ⟨(p0.keep hb3).kept hg4 (by simp; omega), (p2.keep hb3).kept hg4 (by simp; omega)⟩, ⟨⟨_, hr4, ?_, (owns_keep hvv hb3).kept hg4 (.inr (Ne.symm (Ring.neStr (hring.keep hb3) (owns_keep hvv hb3))))⟩, by simp; omega, by simp; omega⟩, hB.trans hB4⟩
      rw [List.map_append, ← List.append_assoc]
      exact hpush
    · have HR : Hid (∀ u : World, u = W → Calls Try.prog 83 #[.pointer (some ⟨R, 0, none⟩)] u fun e w' => e = .returned (.bool false) ∧ Below u.heap.size u w') := fun u hu => by subst hu; exact room_no R b (b + (xs.length + pre.length)) _ (by omega) (by omega) hF hE (by omega)
      gi_wp2_with (first
        | (refine ⟨trivial, ?_⟩; gi_at_call 83; refine (CallsIn.inRound l (callsIn_wide.2 (HR.out _ rfl))).mono ?_; rintro e w3 ⟨rfl, hb3⟩; (have v3 := (p2.keep hb3).cell 0); (have f3 := (p2.keep hb3).frozen 0); simp at v3))
      have K3 : KeepsOthers W w3 := ⟨hb3.size, fun k o hk _ => (hb3.block k (Array.getElem?_eq_some_iff.1 hk).1).trans hk⟩
      have q2 : Bx (w3.setCell ⟨w.heap.size + 1, 0, none⟩ (.int .i64 3)) (w.heap.size + 1) 3 #[.int .i64 3] := (p2.keep hb3).put 0 _
      refine ⟨(K3.trans (KeepsOthers.setCell _ _ _)).from _, rfl, q2, by simp; omega, (hB.trans (hb3.mono hbW)).setCell (p := ⟨_, _, _⟩) (by simp; omega) _⟩
  case done =>
    rintro D ys W hD rfl ⟨⟨p0, p2⟩, ⟨⟨cs, hring, hH, hvv⟩, hn1, hn2⟩, hB⟩ hK
    have v3 := p2.cell 0
    have f3 := p2.frozen 0
    simp at v3
    gi_wp2
    have hwW := hB.size
    have K5 := KeepsOthers.setCell W ⟨w.heap.size + 1, 0, none⟩ (.int .i64 0)
    have q2 : Bx (W.setCell ⟨w.heap.size + 1, 0, none⟩ (.int .i64 0)) (w.heap.size + 1) 3 #[.int .i64 0] := p2.put 0 _
    have hBU : Below base w (W.setCell ⟨w.heap.size + 1, 0, none⟩ (.int .i64 0)) := hB.setCell (p := ⟨_, _, _⟩) (by simp; omega) _
    have hDU := K5.same D _ hK rfl
    have hrU : Ring base R cs (W.setCell ⟨w.heap.size + 1, 0, none⟩ (.int .i64 0)) := hring.kept (grow_set W _ _) (fun e' => by simp at e'; omega)
    have hvU := ownsRow_setCell_other hvv (a := ⟨w.heap.size + 1, 0, none⟩) (Ne.symm (p2.ne (by decide) hvv)) (.int .i64 0)
    generalize W.setCell ⟨w.heap.size + 1, 0, none⟩ (.int .i64 0) = U at *
    refine ⟨by simp, .inl ⟨_, _, rfl, run_takeDeferred hDU, ?_⟩⟩
    refine ⟨_, push_results q2 hDU, ?_⟩
    have hbF := hBU.trans (belowK_b (w := w) hbs U D _ (.deferred none) (by omega) hDU rfl rfl)
    exact ⟨.inl ⟨by unfold Full; omega, rfl, cs, ring_putObj hrU hDU, hH, ownsRow_putObj hvU _ hDU rfl⟩, hbF, hbF.size⟩
  case stop =>
    rintro D c pre W hD hpre ⟨rfl, p2, hfull, hB⟩ hK
    gi_wp2
    refine ⟨by simp, .inl ⟨_, _, rfl, run_takeDeferred hK, ?_⟩⟩
    refine ⟨_, push_results p2 hK, ?_⟩
    have hle := hpre.length_le
    have hbF := hB.trans (belowK_b (w := w) hbs W D _ (.deferred none) (by omega) hK rfl rfl)
    exact ⟨.inr ⟨by unfold Full; omega, rfl⟩, hbF, hbF.size⟩
end Go.Proofs.Yteceaadmgpjmcaa.mk

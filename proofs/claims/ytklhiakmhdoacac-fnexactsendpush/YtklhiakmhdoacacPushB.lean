/-
  PUSHING: impl.SendPush.
-/
import Derived.Test.YtklhiakmhdoacacPushA
namespace Go.Proofs.Ytklhiakmhdoacac.mk
open Go.RowKit Go.Shelf
set_option linter.unusedVariables false
attribute [local go_sem] Oper.semAt_some

theorem three_b (w : World) (o p q : Obj) : Below w.heap.size w (((w.alloc o).alloc p).alloc q) := (((Below.refl _ _).alloc (Nat.le_refl _) _).alloc (by simp) _).alloc (by simp; omega) _
theorem ring_cells {base R : Nat} {cs : List Value} {W : World} {o : Obj} (h : Ring base R cs W) (ho : W.heap[R]? = some o) : o.isCells = true := by
  rcases h.2 with ⟨e1, _⟩ | ⟨g, cap, cur, e1, _, hgb, _⟩
  · cases e1
  · cases e1
    rw [hgb] at ho; cases ho; rfl
theorem bx_putObj {U : World} {A D : Nat} {t : TypeId} {cs : Array Value} (h : Bx U A t cs) (o : Obj) (hd : U.heap[D]? = some (.deferred (some []))) : Bx (U.putObj D o) A t cs := by
  have hne : A ≠ D := by rintro rfl; rw [show U.heap[A]? = _ from h] at hd; cases hd
  show (U.putObj D o).heap[A]? = _
  simp only [World.putObj]
  rw [Array.getElem?_setIfInBounds_ne (Ne.symm hne)]
  exact h
theorem push_results {U : World} {A B D : Nat} {x y z : Value} {tmps : Array Value} (h1 : Bx U A 28 #[x, y]) (h2 : Bx U B 3 #[z]) (hd : U.heap[D]? = some (.deferred (some []))) (e4 : tmps.getD 4 undef = .pointer (some ⟨A, 0, none⟩) := by rfl) (e5 : tmps.getD 5 undef = .pointer (some ⟨B, 0, none⟩) := by rfl) :
    (results Try.f9 tmps).run Try.prog (U.putObj D (.deferred none)) = .ok (.tuple #[.agg #[x, y], z]) (U.putObj D (.deferred none)) := by
  have h1' := bx_putObj h1 (.deferred none) hd
  have h2' := bx_putObj h2 (.deferred none) hd
  generalize U.putObj D (.deferred none) = V at *
  have c0 := h1'.cell 0
  have c1 := h1'.cell 1
  have c2 := h2'.cell 0
  simp at c0 c1 c2
  rw [Array.getD_eq_getD_getElem?] at e4 e5
  simp [results, Try.results9, go_sem, e4, e5, c0, c1, c2]
theorem owns_other {u : World} {base n : Nat} {e : TypeId} {size : Nat} {v : Value} {xs : List Value} (h : u.ownsRow base e size v n xs) (p : Addr) (hp : p.block < base) (x : Value) : (u.setCell p x).ownsRow base e size v n xs :=
  ownsRow_setCell_other h (fun hh => by have := h.lt _ hh; omega) x
set_option maxRecDepth 100000 in
set_option maxHeartbeats 2000000 in
theorem implPush_yes (b : Nat) (ao : Option Addr) (cap : Nat) (xs : List It) (s : ByteArray) (w : World) (hm : xs.length ≤ 1048576) (hz : ∀ i (h : i < xs.length), xs[i].text.size ≤ 1048576) (hr : Rs w ao xs.length (is xs)) (hv : sdOk (b : Int) xs = true) (hs : s.size ≤ 200) :
    Calls Try.prog 9 #[.agg #[.int .i64 (b : Int), .slice ao xs.length cap], .string s] w fun e w' => PushPost w (b : Int) xs s e w' := by
  have hok := sdOk_of hv
  have hbb : b ≤ 1000000 := by have := hok.1; unfold HdOk at this; omega
  have hnn : xs.length ≤ 60 := by have := hok.1; unfold HdOk at this; omega
  have hbn : b + xs.length ≤ 1000000 := by have := hok.1; unfold HdOk at this; omega
  have hcl := cut_length s
  have HC : Hid (∀ u : World, Rs u ao xs.length (is xs) → Calls Try.prog 25 #[.agg #[.int .i64 (b : Int), .slice ao xs.length cap]] u fun e w' => e = .returned (.bool true) ∧ Below u.heap.size u w') := fun u h => by have := implValid_any (b : Int) ao cap xs u hm hz h; rw [hv] at this; exact this
  have HG : Hid (∀ u : World, Rs u ao xs.length (is xs) → Calls Try.prog 26 #[.agg #[.int .i64 (b : Int), .slice ao xs.length cap]] u fun e w' => (∃ R cs, e = .returned (.pointer (some ⟨R, 0, none⟩)) ∧ Ring u.heap.size R cs w' ∧ Holds b xs cs) ∧ Below u.heap.size u w') := fun u h => ringOf_any b ao cap xs u hbb hnn hz h
  have R2 : Hid (Rs (((w.alloc (.cells #[.int .i64 (b : Int), .slice ao xs.length cap] 28)).alloc (.cells #[.int .i64 0, .slice none 0 0] 28)).alloc (.cells #[.int .i64 0] 3)) ao xs.length (is xs)) := hr.keep (three_b _ _ _ _)
  have X0 : Hid (Bx (((w.alloc (.cells #[.int .i64 (b : Int), .slice ao xs.length cap] 28)).alloc (.cells #[.int .i64 0, .slice none 0 0] 28)).alloc (.cells #[.int .i64 0] 3)) w.heap.size 28 #[.int .i64 (b : Int), .slice ao xs.length cap]) := ((Bx.new w 28 _).alloc _).alloc _
  have X1 : Hid (Bx (((w.alloc (.cells #[.int .i64 (b : Int), .slice ao xs.length cap] 28)).alloc (.cells #[.int .i64 0, .slice none 0 0] 28)).alloc (.cells #[.int .i64 0] 3)) (w.heap.size + 1) 28 #[.int .i64 0, .slice none 0 0]) := (by have := (Bx.new (w.alloc (.cells #[.int .i64 (b : Int), .slice ao xs.length cap] 28)) 28 #[.int .i64 0, .slice none 0 0]).alloc (.cells #[.int .i64 0] 3); rw [World.size_alloc] at this; exact this)
  have X2 : Hid (Bx (((w.alloc (.cells #[.int .i64 (b : Int), .slice ao xs.length cap] 28)).alloc (.cells #[.int .i64 0, .slice none 0 0] 28)).alloc (.cells #[.int .i64 0] 3)) (w.heap.size + 1 + 1) 3 #[.int .i64 0]) := (by have := Bx.new ((w.alloc (.cells #[.int .i64 (b : Int), .slice ao xs.length cap] 28)).alloc (.cells #[.int .i64 0, .slice none 0 0] 28)) 3 #[.int .i64 0]; simp only [World.size_alloc] at this; exact this)
  have BB : Hid (Below w.heap.size w (((w.alloc (.cells #[.int .i64 (b : Int), .slice ao xs.length cap] 28)).alloc (.cells #[.int .i64 0, .slice none 0 0] 28)).alloc (.cells #[.int .i64 0] 3))) := three_b _ _ _ _
  have P0 : Hid (¬ Full b xs.length (cut s).length → pushOf (b : Int) xs s = ((b : Int), xs ++ (cut s).map newIt, 0)) := fun h => by rw [pushOf, if_pos ⟨hv, hs⟩, if_neg (by simpa using h)]
  have P3 : Hid (Full b xs.length (cut s).length → pushOf (b : Int) xs s = (0, [], 3)) := fun h => by rw [pushOf, if_pos ⟨hv, hs⟩, if_pos (by simpa using h)]
  clear hz hr hv hok
  refine (callsIn_wide (n := 6)).1 ?_
  refine callsIn_of_wp_marks Try.func9 rfl trivial ?_ rfl
  simp only [Try.ntmps9, List.size_toArray, List.length_cons, List.length_nil, Nat.reduceAdd, Nat.reduceSub, Array.replicate_succ, Array.replicate_zero, List.push_toArray, List.append_toArray, List.nil_append, List.cons_append]
  gi_wp2_with (first
    | (refine ⟨trivial, ?_⟩; gi_at_call 25; refine (callsIn_wide.2 (HC.out _ R2.out)).mono ?_; rintro e w1 ⟨rfl, hb1⟩; (have u0 := (X0.out.keep hb1).cell 0); (have u1 := (X0.out.keep hb1).cell 1); simp at u0 u1)
    | (refine ⟨trivial, ?_⟩; gi_at_call 26; refine (callsIn_wide.2 (HG.out _ (R2.out.keep hb1))).mono ?_; rintro e w2 ⟨⟨R, cs, rfl, hring, hH⟩, hb2⟩)
    | (refine ⟨trivial, ?_⟩; gi_at_call 27; refine (partsOf_in _ _ _).mono ?_; rintro e w' ⟨rfl, rfl⟩))
  have s1 := hb1.size
  have s2 := hb2.size
  simp only [World.size_alloc] at s1
  have hRl := hring.lt
  obtain ⟨W0, hW0⟩ : ∃ W0, (w2.alloc (.cells #[.pointer (some ⟨R, 0, none⟩)] 53)).alloc (.cells #[.string s] 9) = W0 := ⟨_, rfl⟩
  have z0 : W0.heap.size = w2.heap.size + 1 + 1 := by rw [← hW0]; simp
  have Y0 : Bx W0 w2.heap.size 53 #[.pointer (some ⟨R, 0, none⟩)] := by rw [← hW0]; exact (Bx.new w2 _ _).alloc _
  have Y1 : Bx W0 (w.heap.size + 1) 28 #[.int .i64 0, .slice none 0 0] := by rw [← hW0]; exact (((X1.out.keep hb1).keep hb2).alloc _).alloc _
  have Y2 : Bx W0 (w.heap.size + 1 + 1) 3 #[.int .i64 0] := by rw [← hW0]; exact (((X2.out.keep hb1).keep hb2).alloc _).alloc _
  have Ys : Bx W0 (w2.heap.size + 1) 9 #[.string s] := by rw [← hW0]; have := Bx.new (w2.alloc (.cells #[.pointer (some ⟨R, 0, none⟩)] 53)) 9 #[.string s]; rw [World.size_alloc] at this; exact this
  have Yr : Ring w1.heap.size R cs W0 := by rw [← hW0]; exact (World.ownsRow.alloc (World.ownsRow.alloc hring _) _)
  have B0 : Below w.heap.size w W0 := by rw [← hW0]; exact ((kb (kb BB.out hb1 (Nat.le_refl _)) hb2 (Nat.le_refl _)).alloc (kb (kb BB.out hb1 (Nat.le_refl _)) hb2 (Nat.le_refl _)).size _).alloc (by simp; omega) _
  rw [hW0]
  clear hW0 hring hb1 hb2 X0 X1 X2 BB HC HG R2 u0 u1
  have hc0 : W0.cell? ⟨w2.heap.size + 1, 0, none⟩ = some (.string s) := Ys.cell 0
  refine wpIn_rangeFunc_ownH rfl (by omega) (gf := 43) (lb := #[.pointer (some ⟨w2.heap.size + 1, 0, none⟩)]) rfl trivial (enters_of Try.func43 (by kernel_rfl) rfl)
    (parts_stops _ (by omega) (w2.heap.size + 1) w.heap.size s hs W0 (by omega) hc0) belowK_t (belowK_b (by omega)) (Below.refl _ _) (fun _ => rfl)
    (fun pre W => (Bx W w2.heap.size 53 #[.pointer (some ⟨R, 0, none⟩)] ∧ Bx W (w.heap.size + 1) 28 #[.int .i64 0, .slice none 0 0] ∧ Bx W (w.heap.size + 1 + 1) 3 #[.int .i64 0]) ∧ ((∃ cs, Ring w1.heap.size R cs W ∧ Holds b (xs ++ pre.map newIt) cs) ∧ xs.length + pre.length ≤ 60 ∧ b + (xs.length + pre.length) ≤ 1000000) ∧ Below w.heap.size w W)
    (fun c pre W => c = .ret ∧ (Bx W (w.heap.size + 1) 28 #[.int .i64 0, .slice none 0 0] ∧ Bx W (w.heap.size + 1 + 1) 3 #[.int .i64 3]) ∧ (60 < xs.length + pre.length ∨ 1000000 < b + (xs.length + pre.length)) ∧ Below w.heap.size w W)
    (fun q X Y row hq hg hrow => ⟨⟨bx_own (β := Unit) _ _ (fun _ => _) () X Y row hq.1.1 hg (fun r e => (hrow r e).2), bx_own (β := Unit) _ _ (fun _ => _) () X Y row hq.1.2.1 hg (fun r e => (hrow r e).2), bx_own (β := Unit) _ _ (fun _ => _) () X Y row hq.1.2.2 hg (fun r e => (hrow r e).2)⟩, ⟨by obtain ⟨cs, r1, r2⟩ := hq.2.1.1; exact ⟨cs, ring_abides r1 hg (fun r e => (hrow r e).2), r2⟩, hq.2.1.2⟩, ownFrom_below (β := Unit) (Nat.le_refl _) (by omega) () X Y row hq.2.2 hg hrow⟩)
    (fun c q X Y row hq hg hrow => ⟨hq.1, ⟨bx_own (β := Unit) _ _ (fun _ => _) () X Y row hq.2.1.1 hg (fun r e => (hrow r e).2), bx_own (β := Unit) _ _ (fun _ => _) () X Y row hq.2.1.2 hg (fun r e => (hrow r e).2)⟩, hq.2.2.1, ownFrom_below (β := Unit) (Nat.le_refl _) (by omega) () X Y row hq.2.2.2 hg hrow⟩)
    ⟨⟨Y0, Y1, Y2⟩, ⟨⟨cs, Yr, by simpa using hH⟩, by simpa using hnn, by simpa using hbn⟩, B0⟩
    (fun x a' W => ∃ Bq, Bx W Bq 49 #[.string x.1, .bool x.2] ∧ a' = { tmps := #[.agg #[.int .i64 (b : Int), .slice ao xs.length cap], .string s, .pointer (some ⟨w.heap.size, 0, none⟩), undef, .pointer (some ⟨w.heap.size + 1, 0, none⟩), .pointer (some ⟨w.heap.size + 1 + 1, 0, none⟩), .pointer (some ⟨w2.heap.size, 0, none⟩), .pointer (some ⟨Bq, 0, none⟩), .agg #[.int .i64 (b : Int), .slice ao xs.length cap], .bool true, .bool false, .bool false, .string s, .int .i64 (s.size : Int), .bool (decide (200 < (s.size : Int))), .bool (decide (200 < (s.size : Int))), undef, .agg #[.int .i64 (b : Int), .slice ao xs.length cap], .pointer (some ⟨R, 0, none⟩), .string s, .func (.func 43) #[] #[.pointer (some ⟨w2.heap.size + 1, 0, none⟩)], .agg #[.string x.1, .bool x.2], undef, undef, undef, undef, undef, undef, undef, undef, undef, undef], defers := [] })
    (fun x a' _ X Y row hs hg hr => by obtain ⟨Bq, h1, h2⟩ := hs; exact ⟨Bq, bx_own (β := Unit) _ _ (fun _ => _) () X Y row h1 hg (fun r e => (hr r e).2), h2⟩)
    ?assign ?body ?done ?stop
  case assign =>
    rintro l pre x W K ⟨⟨p0, p1, p2⟩, ⟨⟨cs, hring, hH⟩, hn1, hn2⟩, hB⟩ hK
    gi_wp2
    exact hK _ _ ((KeepsOthers.alloc _ _).from _) ((Below.refl _ W).alloc hB.size _) ⟨⟨p0.alloc _, p1.alloc _, p2.alloc _⟩, ⟨⟨cs, World.ownsRow.alloc hring _, hH⟩, hn1, hn2⟩, hB.alloc hB.size _⟩ ⟨W.heap.size, Bx.new W _ _, rfl⟩
  case body =>
    rintro l pre x a' W hl ⟨r, hr⟩ ⟨⟨p0, p1, p2⟩, ⟨⟨cs, hring, hH⟩, hn1, hn2⟩, hB⟩ ⟨Bq, bq, rfl⟩ hlt
    have hp0 := p0.cell 0
    have hq0 := bq.cell 0
    have hq1 := bq.cell 1
    simp at hp0 hq0 hq1
    have hml : (xs ++ pre.map newIt).length = xs.length + pre.length := by simp
    have hF := (hring.cell 240 (by omega)).trans hH.2.1
    have hE := (hring.cell 241 (by omega)).trans hH.2.2.1
    rw [hml] at hE
    by_cases hrm : xs.length + pre.length < 60 ∧ b + (xs.length + pre.length) < 1000000
    · have HR : Hid (∀ u : World, u = W → Calls Try.prog 28 #[.pointer (some ⟨R, 0, none⟩)] u fun e w' => e = .returned (.bool true) ∧ Below u.heap.size u w') := fun u hu => by subst hu; exact room_yes R b (b + (xs.length + pre.length)) _ (by omega) (by omega) hF hE (by omega) (by omega)
      gi_wp2_with (first
        | (refine ⟨trivial, ?_⟩; gi_at_call 28; refine (CallsIn.inRound l (callsIn_wide.2 (HR.out _ rfl))).mono ?_; rintro e w3 ⟨rfl, hb3⟩; (have v0 := (p0.keep hb3).cell 0); (have v1 := (bq.keep hb3).cell 0); (have v2 := (bq.keep hb3).cell 1); simp at v0 v1 v2)
        | (refine ⟨trivial, ?_⟩; gi_at_call 29; refine (CallsIn.inRound l (callsIn_wide.2 (put_any w1.heap.size R cs (b + (xs.length + pre.length)) x.1 x.2 false (-1) _ (hring.keep hb3) (by omega) (by rw [← hml]; exact hH.2.2.1)))).mono ?_; rintro e w4 ⟨⟨v, rfl⟩, hr4, hg4⟩))
      have hwW := hB.size
      have K3 : KeepsOthers W w3 := ⟨hb3.size, fun k o hk _ => (hb3.block k (Array.getElem?_eq_some_iff.1 hk).1).trans hk⟩
      have hpush := hH.push (by rw [hml]; exact hrm.1) (newIt x)
      rw [hml] at hpush
      have hB4 : Below w.heap.size W w4 := (hb3.mono hwW).grown hg4 (Nat.le_trans hwW hb3.size) (fun q hq => by cases hq; omega)
      refine ⟨(K3.trans (KeepsOthers.of_grownBy hg4 (fun j o e ho => by cases e; exact ring_cells (hring.keep hb3) ho))).from _, hB4, ⟨(p0.keep hb3).kept hg4 (by simp; omega), (p1.keep hb3).kept hg4 (by simp; omega), (p2.keep hb3).kept hg4 (by simp; omega)⟩, ⟨⟨_, hr4, ?_⟩, by simp; omega, by simp; omega⟩, hB.trans hB4⟩
      rw [List.map_append, ← List.append_assoc]
      exact hpush
    · have HR : Hid (∀ u : World, u = W → Calls Try.prog 28 #[.pointer (some ⟨R, 0, none⟩)] u fun e w' => e = .returned (.bool false) ∧ Below u.heap.size u w') := fun u hu => by subst hu; exact room_no R b (b + (xs.length + pre.length)) _ (by omega) (by omega) hF hE (by omega)
      gi_wp2_with (first
        | (refine ⟨trivial, ?_⟩; gi_at_call 28; refine (CallsIn.inRound l (callsIn_wide.2 (HR.out _ rfl))).mono ?_; rintro e w3 ⟨rfl, hb3⟩; (have v1 := (p1.keep hb3).cell 0); (have v2 := (p1.keep hb3).cell 1); (have v3 := (p2.keep hb3).cell 0); (have f1 := (p1.keep hb3).frozen 0); (have f2 := (p1.keep hb3).frozen 1); (have f3 := (p2.keep hb3).frozen 0); simp at v1 v2 v3))
      have hwW := hB.size
      have K3 : KeepsOthers W w3 := ⟨hb3.size, fun k o hk _ => (hb3.block k (Array.getElem?_eq_some_iff.1 hk).1).trans hk⟩
      have q1 : Bx (((w3.setCell ⟨w.heap.size + 1, 0, none⟩ (.int .i64 0)).setCell ⟨w.heap.size + 1, 1, none⟩ (.slice none 0 0)).setCell ⟨w.heap.size + 1 + 1, 0, none⟩ (.int .i64 3)) (w.heap.size + 1) 28 #[.int .i64 0, .slice none 0 0] := ((((p1.keep hb3).put 0 _).put 1 _).other _ (by simp) _)
      have q2 : Bx (((w3.setCell ⟨w.heap.size + 1, 0, none⟩ (.int .i64 0)).setCell ⟨w.heap.size + 1, 1, none⟩ (.slice none 0 0)).setCell ⟨w.heap.size + 1 + 1, 0, none⟩ (.int .i64 3)) (w.heap.size + 1 + 1) 3 #[.int .i64 3] := ((((p2.keep hb3).other _ (by simp) _).other _ (by simp) _).put 0 _)
      refine ⟨(((K3.trans (KeepsOthers.setCell _ _ _)).trans (KeepsOthers.setCell _ _ _)).trans (KeepsOthers.setCell _ _ _)).from _, rfl, ⟨q1, q2⟩, by simp; omega, (((hB.trans (hb3.mono hwW)).setCell (p := ⟨_, _, _⟩) (by simp) _).setCell (p := ⟨_, _, _⟩) (by simp) _).setCell (p := ⟨_, _, _⟩) (by simp; omega) _⟩
  case done =>
    rintro D ys W hD rfl ⟨⟨p0, p1, p2⟩, ⟨⟨cs, hring, hH⟩, hn1, hn2⟩, hB⟩ hK
    have hp0 := p0.cell 0
    simp at hp0
    have hml : (xs ++ ((cut s).map newIt)).length = xs.length + (cut s).length := by simp
    gi_wp2_with (first
      | (refine ⟨trivial, ?_⟩; gi_at_call 30; refine (callsIn_wide.2 (send_any w1.heap.size R b cs _ W (by omega) (by rw [hml]; exact hn1) hring hH)).mono ?_; rintro e w5 ⟨⟨a5, c5, rfl, hrow5⟩, hb5⟩; (have v1 := (p1.keep hb5).cell 0); (have v2 := (p1.keep hb5).cell 1); (have v3 := (p2.keep hb5).cell 0); (have f1 := (p1.keep hb5).frozen 0); (have f2 := (p1.keep hb5).frozen 1); (have f3 := (p2.keep hb5).frozen 0); simp at v1 v2 v3))
    have hDW := (Array.getElem?_eq_some_iff.1 hK).1
    have hD5 : w5.heap[D]? = some (.deferred (some [])) := (hb5.block D hDW).trans hK
    have hwW := hB.size
    have K5 := ((KeepsOthers.setCell w5 ⟨w.heap.size + 1, 0, none⟩ (.int .i64 (b : Int))).trans (KeepsOthers.setCell _ ⟨w.heap.size + 1, 1, none⟩ (.slice a5 (xs.length + (cut s).length) c5))).trans (KeepsOthers.setCell _ ⟨w.heap.size + 1 + 1, 0, none⟩ (.int .i64 0))
    have q1 : Bx (((w5.setCell ⟨w.heap.size + 1, 0, none⟩ (.int .i64 (b : Int))).setCell ⟨w.heap.size + 1, 1, none⟩ (.slice a5 (xs.length + (cut s).length) c5)).setCell ⟨w.heap.size + 1 + 1, 0, none⟩ (.int .i64 0)) (w.heap.size + 1) 28 #[.int .i64 (b : Int), .slice a5 (xs.length + (cut s).length) c5] := ((((p1.keep hb5).put 0 _).put 1 _).other _ (by simp) _)
    have q2 : Bx (((w5.setCell ⟨w.heap.size + 1, 0, none⟩ (.int .i64 (b : Int))).setCell ⟨w.heap.size + 1, 1, none⟩ (.slice a5 (xs.length + (cut s).length) c5)).setCell ⟨w.heap.size + 1 + 1, 0, none⟩ (.int .i64 0)) (w.heap.size + 1 + 1) 3 #[.int .i64 0] := ((((p2.keep hb5).other _ (by simp) _).other _ (by simp) _).put 0 _)
    have hBU : Below w.heap.size w (((w5.setCell ⟨w.heap.size + 1, 0, none⟩ (.int .i64 (b : Int))).setCell ⟨w.heap.size + 1, 1, none⟩ (.slice a5 (xs.length + (cut s).length) c5)).setCell ⟨w.heap.size + 1 + 1, 0, none⟩ (.int .i64 0)) := (((hB.trans (hb5.mono hwW)).setCell (p := ⟨_, _, _⟩) (by simp) _).setCell (p := ⟨_, _, _⟩) (by simp) _).setCell (p := ⟨_, _, _⟩) (by simp; omega) _
    rw [hml] at hrow5
    have hrU := owns_other (owns_other (owns_other hrow5 ⟨w.heap.size + 1, 0, none⟩ (by have := p1.lt; simp; omega) (.int .i64 (b : Int))) ⟨w.heap.size + 1, 1, none⟩ (by have := p1.lt; simp; omega) (.slice a5 (xs.length + (cut s).length) c5)) ⟨w.heap.size + 1 + 1, 0, none⟩ (by have := p2.lt; simp; omega) (.int .i64 0)
    have hDU := K5.same D _ hD5 rfl
    generalize (((w5.setCell ⟨w.heap.size + 1, 0, none⟩ (.int .i64 (b : Int))).setCell ⟨w.heap.size + 1, 1, none⟩ (.slice a5 (xs.length + (cut s).length) c5)).setCell ⟨w.heap.size + 1 + 1, 0, none⟩ (.int .i64 0)) = U at *
    refine ⟨by simp, .inl ⟨_, _, rfl, run_takeDeferred hDU, ?_⟩⟩
    refine ⟨_, push_results q1 q2 hDU, ?_⟩
    have hp := P0.out (by unfold Full; omega)
    show PushPost _ _ _ _ _ _
    unfold PushPost
    rw [hp]
    simp only [hml]
    exact ⟨⟨a5, c5, rfl, ownsRow_putObj (owns_mono hrU hwW) _ hDU rfl⟩, hBU.trans (belowK_b (w := w) (Nat.le_refl _) U D _ _ (by omega) hDU rfl rfl)⟩
  case stop =>
    rintro D c pre W hD hpre ⟨rfl, ⟨p1, p2⟩, hfull, hB⟩ hK
    gi_wp2
    refine ⟨by simp, .inl ⟨_, _, rfl, run_takeDeferred hK, ?_⟩⟩
    refine ⟨_, push_results p1 p2 hK, ?_⟩
    have hle := hpre.length_le
    have hp := P3.out (by unfold Full; omega)
    show PushPost _ _ _ _ _ _
    unfold PushPost
    rw [hp]
    exact ⟨⟨none, 0, rfl, World.ownsRow_nil _ _ _ _⟩, hB.trans (belowK_b (w := w) (Nat.le_refl _) W D _ _ (by omega) hK rfl rfl)⟩
end Go.Proofs.Ytklhiakmhdoacac.mk

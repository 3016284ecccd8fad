/-
  PUSHING: impl.SendPush.
-/
import Derived.Test.YteceaadmgpjmcaaPushB
namespace Go.Proofs.Yteceaadmgpjmcaa.mk
open Go.RowKit
set_option linter.unusedVariables false

theorem two_c (w : World) (o p : Obj) : Below w.heap.size w ((w.alloc o).alloc p) := ((Below.refl _ _).alloc (Nat.le_refl _) _).alloc (by simp) _
/-- too long: push says so, and does nothing -/
theorem ringPush_no (R : Nat) (s : ByteArray) (w : World) (h : 200 < s.size) (hs : s.size ≤ 1048576) : Calls Try.prog 58 #[.pointer (some ⟨R, 0, none⟩), .string s] w fun e w' => e = .returned (.int .i64 1) ∧ Below w.heap.size w w' := by
  have b0 : Hid (∀ o p : Obj, Below w.heap.size w ((w.alloc o).alloc p)) := two_c w
  go_enter Try.func58, Try.ntmps58
  go_wp2
  exact bodyPost_ret (v := .int .i64 1) (by simp [results, Try.results58, go_sem]) rfl ⟨rfl, b0.out _ _⟩
set_option maxHeartbeats 1000000 in
theorem implPush_no (b : Int) (ao : Option Addr) (cap : Nat) (xs : List It) (s : ByteArray) (w : World) (hm : xs.length ≤ 1048576) (hz : ∀ i (h : i < xs.length), xs[i].text.size ≤ 1048576) (hr : Rs w ao xs.length (is xs)) (hno : sdOk b xs = false) :
    Calls Try.prog 24 #[.agg #[.int .i64 b, .slice ao xs.length cap], .string s] w fun e w' => PushPost w b xs s e w' := by
  have HC : Hid (∀ u : World, Rs u ao xs.length (is xs) → Calls Try.prog 56 #[.agg #[.int .i64 b, .slice ao xs.length cap]] u fun e w' => e = .returned (.bool false) ∧ Below u.heap.size u w') := fun u h => by have := implValid_any b ao cap xs u hm hz h; rw [hno] at this; exact this
  have R2 : Hid (Rs ((w.alloc (.cells #[.int .i64 b, .slice ao xs.length cap] 38)).alloc (.cells #[.int .i64 0, .slice none 0 0] 38)) ao xs.length (is xs)) := hr.keep (two_c _ _ _)
  have X1 : Hid (Bx ((w.alloc (.cells #[.int .i64 b, .slice ao xs.length cap] 38)).alloc (.cells #[.int .i64 0, .slice none 0 0] 38)) (w.heap.size + 1) 38 #[.int .i64 0, .slice none 0 0]) := (by have := Bx.new (w.alloc (.cells #[.int .i64 b, .slice ao xs.length cap] 38)) 38 #[.int .i64 0, .slice none 0 0]; rw [World.size_alloc] at this; exact this)
  have T0 : Hid (pushOf b xs s = (0, [], 1)) := (by rw [pushOf, if_neg (by simp [hno])] : pushOf b xs s = (0, [], 1))
  have BB : Hid (Below w.heap.size w ((w.alloc (.cells #[.int .i64 b, .slice ao xs.length cap] 38)).alloc (.cells #[.int .i64 0, .slice none 0 0] 38))) := two_c _ _ _
  clear hz hr hno
  go_enter Try.func24, Try.ntmps24
  go_wp2_with (go_at_call 56; refine (HC.out _ R2.out).mono ?_; rintro e w1 ⟨rfl, hb1⟩; (have y0 := (X1.out.keep hb1).cell 0); (have y1 := (X1.out.keep hb1).cell 1); (have z0 := (X1.out.keep hb1).frozen 0); (have z1 := (X1.out.keep hb1).frozen 1); simp at y0 y1)
  have B1 := kb BB.out hb1 (Nat.le_refl _)
  refine bodyPost_ret (v := .tuple #[.agg #[.int .i64 0, .slice none 0 0], .int .i64 1]) (by simp [results, Try.results24, go_sem, y0, y1]) rfl ?_
  unfold PushPost
  rw [T0.out]
  exact ⟨⟨none, 0, rfl, World.ownsRow_nil _ _ _ _⟩, (B1.setCell (p := ⟨w.heap.size + 1, 0, none⟩) (by simp) _).setCell (p := ⟨w.heap.size + 1, 1, none⟩) (by simp) _⟩
theorem bx_lower {base : Nat} {u u' : World} {B : Nat} {t : TypeId} {cs : Array Value} (h : Bx u B t cs) (hb : Below base u u') (hlt : B < base) : Bx u' B t cs := (hb.block B hlt).trans h
set_option maxHeartbeats 1000000 in
theorem implPush_ref (c : Nat) (b : Nat) (ao : Option Addr) (cap : Nat) (xs : List It) (s : ByteArray) (w : World) (hm : xs.length ≤ 1048576) (hz : ∀ i (h : i < xs.length), xs[i].text.size ≤ 1048576) (hr : Rs w ao xs.length (is xs)) (hv : sdOk (b : Int) xs = true) (hc : c = 1 ∨ c = 3) (hT : pushOf (b : Int) xs s = (0, [], (c : Int)))
    (hpu : ∀ (base : Nat) (R : Rl) (cs : List Value) (u : World), Ring base R cs u → Holds b xs cs → base ≤ u.heap.size → Calls Try.prog 58 #[.pointer (some ⟨R, 0, none⟩), .string s] u fun e w' => e = .returned (.int .i64 (c : Int)) ∧ Below base u w' ∧ u.heap.size ≤ w'.heap.size) :
    Calls Try.prog 24 #[.agg #[.int .i64 (b : Int), .slice ao xs.length cap], .string s] w fun e w' => PushPost w (b : Int) xs s e w' := by
  have hok := sdOk_of hv
  have hbb : b ≤ 1000000 := by have := hok.1; unfold HdOk at this; omega
  have hnn : xs.length ≤ 60 := by have := hok.1; unfold HdOk at this; omega
  have hcne : ((c : Int) != 0) = true := by rcases hc with rfl | rfl <;> rfl
  have HC : Hid (∀ u : World, Rs u ao xs.length (is xs) → Calls Try.prog 56 #[.agg #[.int .i64 (b : Int), .slice ao xs.length cap]] u fun e w' => e = .returned (.bool true) ∧ Below u.heap.size u w') := fun u h => by have := implValid_any (b : Int) ao cap xs u hm hz h; rw [hv] at this; exact this
  have HG : Hid (∀ u : World, Rs u ao xs.length (is xs) → Calls Try.prog 57 #[.agg #[.int .i64 (b : Int), .slice ao xs.length cap]] u fun e w' => (∃ (R : Rl) (cs : List Value), e = .returned (.pointer (some ⟨R, 0, none⟩)) ∧ Ring u.heap.size R cs w' ∧ Holds b xs cs) ∧ Below u.heap.size u w') := fun u h => ringOf_any b ao cap xs u hbb hnn hz h
  have HPU : Hid (∀ (base : Nat) (R : Rl) (cs : List Value) (u : World), Ring base R cs u → Holds b xs cs → base ≤ u.heap.size → Calls Try.prog 58 #[.pointer (some ⟨R, 0, none⟩), .string s] u fun e w' => e = .returned (.int .i64 (c : Int)) ∧ Below base u w' ∧ u.heap.size ≤ w'.heap.size) := hpu
  have R2 : Hid (Rs ((w.alloc (.cells #[.int .i64 (b : Int), .slice ao xs.length cap] 38)).alloc (.cells #[.int .i64 0, .slice none 0 0] 38)) ao xs.length (is xs)) := hr.keep (two_c _ _ _)
  have X0 : Hid (Bx ((w.alloc (.cells #[.int .i64 (b : Int), .slice ao xs.length cap] 38)).alloc (.cells #[.int .i64 0, .slice none 0 0] 38)) w.heap.size 38 #[.int .i64 (b : Int), .slice ao xs.length cap]) := (Bx.new w _ _).alloc _
  have X1 : Hid (Bx ((w.alloc (.cells #[.int .i64 (b : Int), .slice ao xs.length cap] 38)).alloc (.cells #[.int .i64 0, .slice none 0 0] 38)) (w.heap.size + 1) 38 #[.int .i64 0, .slice none 0 0]) := (by have := Bx.new (w.alloc (.cells #[.int .i64 (b : Int), .slice ao xs.length cap] 38)) 38 #[.int .i64 0, .slice none 0 0]; rw [World.size_alloc] at this; exact this)
  have T0 : Hid (pushOf (b : Int) xs s = (0, [], (c : Int))) := hT
  have BB : Hid (Below w.heap.size w ((w.alloc (.cells #[.int .i64 (b : Int), .slice ao xs.length cap] 38)).alloc (.cells #[.int .i64 0, .slice none 0 0] 38))) := two_c _ _ _
  clear hz hr hv hok hT hpu hc
  go_enter Try.func24, Try.ntmps24
  go_wp2_with (first
    | (go_at_call 56; refine (HC.out _ R2.out).mono ?_; rintro e w1 ⟨rfl, hb1⟩; (have u0 := (X0.out.keep hb1).cell 0); (have u1 := (X0.out.keep hb1).cell 1); simp at u0 u1)
    | (go_at_call 57; refine (HG.out _ (R2.out.keep hb1)).mono ?_; rintro e w2 ⟨⟨R, cs, rfl, hring, hH⟩, hb2⟩; (have xlt := (X1.out.keep hb1).lt))
    | (go_at_call 58; refine (HPU.out _ R cs _ hring hH hb2.size).mono ?_; rintro e w3 ⟨rfl, hb3, hs3⟩; (have X3 := bx_lower ((X1.out.keep hb1).keep hb2) hb3 xlt); (have y0 := X3.cell 0); (have y1 := X3.cell 1); (have z0 := X3.frozen 0); (have z1 := X3.frozen 1); simp at y0 y1)
    | fail)
  have B1 := kb BB.out hb1 (Nat.le_refl _)
  have B3 := (kb B1 hb2 (Nat.le_refl _)).trans (hb3.mono B1.size)
  refine bodyPost_ret (v := .tuple #[.agg #[.int .i64 0, .slice none 0 0], .int .i64 (c : Int)]) (by simp [results, Try.results24, go_sem, y0, y1]) rfl ?_
  unfold PushPost
  rw [T0.out]
  exact ⟨⟨none, 0, rfl, World.ownsRow_nil _ _ _ _⟩, (B3.setCell (p := ⟨w.heap.size + 1, 0, none⟩) (by simp) _).setCell (p := ⟨w.heap.size + 1, 1, none⟩) (by simp) _⟩
set_option maxHeartbeats 1000000 in
theorem implPush_yes (b : Nat) (ao : Option Addr) (cap : Nat) (xs : List It) (s : ByteArray) (w : World) (hm : xs.length ≤ 1048576) (hz : ∀ i (h : i < xs.length), xs[i].text.size ≤ 1048576) (hr : Rs w ao xs.length (is xs)) (hv : sdOk (b : Int) xs = true) (hs : s.size ≤ 200) (hnf : ¬ Full b xs.length (cut s).length) :
    Calls Try.prog 24 #[.agg #[.int .i64 (b : Int), .slice ao xs.length cap], .string s] w fun e w' => PushPost w (b : Int) xs s e w' := by
  have hok := sdOk_of hv
  have hbb : b ≤ 1000000 := by have := hok.1; unfold HdOk at this; omega
  have hnn : xs.length ≤ 60 := by have := hok.1; unfold HdOk at this; omega
  have hbn : b + xs.length ≤ 1000000 := by have := hok.1; unfold HdOk at this; omega
  have HC : Hid (∀ u : World, Rs u ao xs.length (is xs) → Calls Try.prog 56 #[.agg #[.int .i64 (b : Int), .slice ao xs.length cap]] u fun e w' => e = .returned (.bool true) ∧ Below u.heap.size u w') := fun u h => by have := implValid_any (b : Int) ao cap xs u hm hz h; rw [hv] at this; exact this
  have HG : Hid (∀ u : World, Rs u ao xs.length (is xs) → Calls Try.prog 57 #[.agg #[.int .i64 (b : Int), .slice ao xs.length cap]] u fun e w' => (∃ (R : Rl) (cs : List Value), e = .returned (.pointer (some ⟨R, 0, none⟩)) ∧ Ring u.heap.size R cs w' ∧ Holds b xs cs) ∧ Below u.heap.size u w') := fun u h => ringOf_any b ao cap xs u hbb hnn hz h
  have HPU : Hid (∀ (base : Nat) (R : Rl) (cs : List Value) (u : World), Ring base R cs u → Holds b xs cs → base ≤ u.heap.size → Calls Try.prog 58 #[.pointer (some ⟨R, 0, none⟩), .string s] u fun e w' => (e = .returned (.int .i64 0) ∧ ∃ cs, Ring base R cs w' ∧ Holds b (xs ++ (cut s).map newIt) cs) ∧ Below base u w' ∧ u.heap.size ≤ w'.heap.size) := fun base R cs u h1 h2 h3 => (ringPush_yes base R b xs s cs (.slice none 0 0) 0 [] u (World.ownsRow_nil _ _ _ _) h1 h2 h3 hbb hnn hbn hs).mono fun e w' hp => by
    obtain ⟨q | q, hb⟩ := hp
    · obtain ⟨_, q1, cs', q2, q3, _⟩ := q
      exact ⟨⟨q1, cs', q2, q3⟩, hb⟩
    · exact absurd q.1 hnf
  have hml : (xs ++ ((cut s).map newIt)).length = xs.length + (cut s).length := by simp
  have hfl : xs.length + (cut s).length ≤ 60 := by unfold Full at hnf; omega
  have HSD : Hid (∀ (base : Nat) (R : Rl) (cs : List Value) (u : World), Ring base R cs u → Holds b (xs ++ (cut s).map newIt) cs → Calls Try.prog 59 #[.pointer (some ⟨R, 0, none⟩)] u fun e w' => (∃ a5 c5, e = .returned (.agg #[.int .i64 (b : Int), .slice a5 (xs.length + (cut s).length) c5]) ∧ w'.ownsRow u.heap.size 87 4 (.slice a5 (xs.length + (cut s).length) c5) (xs.length + (cut s).length) (is (xs ++ (cut s).map newIt))) ∧ Below u.heap.size u w') := fun base R cs u h1 h2 => by have := send_any base R b cs _ u (by omega) (by rw [hml]; exact hfl) h1 h2; rw [hml] at this; exact this
  have R2 : Hid (Rs ((w.alloc (.cells #[.int .i64 (b : Int), .slice ao xs.length cap] 38)).alloc (.cells #[.int .i64 0, .slice none 0 0] 38)) ao xs.length (is xs)) := hr.keep (two_c _ _ _)
  have X0 : Hid (Bx ((w.alloc (.cells #[.int .i64 (b : Int), .slice ao xs.length cap] 38)).alloc (.cells #[.int .i64 0, .slice none 0 0] 38)) w.heap.size 38 #[.int .i64 (b : Int), .slice ao xs.length cap]) := (Bx.new w _ _).alloc _
  have X1 : Hid (Bx ((w.alloc (.cells #[.int .i64 (b : Int), .slice ao xs.length cap] 38)).alloc (.cells #[.int .i64 0, .slice none 0 0] 38)) (w.heap.size + 1) 38 #[.int .i64 0, .slice none 0 0]) := (by have := Bx.new (w.alloc (.cells #[.int .i64 (b : Int), .slice ao xs.length cap] 38)) 38 #[.int .i64 0, .slice none 0 0]; rw [World.size_alloc] at this; exact this)
  have T0 : Hid (pushOf (b : Int) xs s = ((b : Int), xs ++ (cut s).map newIt, 0)) := (by rw [pushOf, if_pos ⟨hv, hs⟩, if_neg (by simpa using hnf)] : pushOf (b : Int) xs s = ((b : Int), xs ++ (cut s).map newIt, 0))
  have BB : Hid (Below w.heap.size w ((w.alloc (.cells #[.int .i64 (b : Int), .slice ao xs.length cap] 38)).alloc (.cells #[.int .i64 0, .slice none 0 0] 38))) := two_c _ _ _
  clear hz hr hv hok hnf
  go_enter Try.func24, Try.ntmps24
  go_wp2_with (first
    | (go_at_call 56; refine (HC.out _ R2.out).mono ?_; rintro e w1 ⟨rfl, hb1⟩; (have u0 := (X0.out.keep hb1).cell 0); (have u1 := (X0.out.keep hb1).cell 1); simp at u0 u1)
    | (go_at_call 57; refine (HG.out _ (R2.out.keep hb1)).mono ?_; rintro e w2 ⟨⟨R, cs, rfl, hring, hH⟩, hb2⟩; (have xlt := (X1.out.keep hb1).lt))
    | (go_at_call 58; refine (HPU.out _ R cs _ hring hH hb2.size).mono ?_; rintro e w3 ⟨⟨rfl, cs3, hring3, hH3⟩, hb3, hs3⟩; (have X3 := bx_lower ((X1.out.keep hb1).keep hb2) hb3 xlt))
    | (go_at_call 59; refine (HSD.out _ R cs3 _ hring3 hH3).mono ?_; rintro e w4 ⟨⟨a5, c5, rfl, hrow⟩, hb4⟩; (have X4 := X3.keep hb4); (have y0 := X4.cell 0); (have y1 := X4.cell 1); (have z0 := X4.frozen 0); (have z1 := X4.frozen 1); simp at y0 y1)
    | fail)
  have B1 := kb BB.out hb1 (Nat.le_refl _)
  have B3 := (kb B1 hb2 (Nat.le_refl _)).trans (hb3.mono B1.size)
  have B4 := kb B3 hb4 (Nat.le_refl _)
  have N4 := X4.ne (by decide) hrow
  have o4 := ownsRow_setCell_other (ownsRow_setCell_other hrow (a := ⟨w.heap.size + 1, 0, none⟩) (Ne.symm N4) (.int .i64 (b : Int))) (a := ⟨w.heap.size + 1, 1, none⟩) (Ne.symm N4) (.slice a5 (xs.length + (cut s).length) c5)
  refine bodyPost_ret (v := .tuple #[.agg #[.int .i64 (b : Int), .slice a5 (xs.length + (cut s).length) c5], .int .i64 0]) (by simp [results, Try.results24, go_sem, y0, y1]) rfl ?_
  unfold PushPost
  rw [T0.out]
  simp only [hml]
  exact ⟨⟨a5, c5, rfl, owns_mono o4 B3.size⟩, (B4.setCell (p := ⟨w.heap.size + 1, 0, none⟩) (by simp) _).setCell (p := ⟨w.heap.size + 1, 1, none⟩) (by simp) _⟩
theorem implPush_any (b : Int) (ao : Option Addr) (cap : Nat) (xs : List It) (s : ByteArray) (w : World) (hm : xs.length ≤ 1048576) (hz : ∀ i (h : i < xs.length), xs[i].text.size ≤ 1048576) (hr : Rs w ao xs.length (is xs)) (hs : s.size ≤ 1048576) :
    Calls Try.prog 24 #[.agg #[.int .i64 b, .slice ao xs.length cap], .string s] w fun e w' => PushPost w b xs s e w' := by
  cases hv : sdOk b xs
  · exact implPush_no b ao cap xs s w hm hz hr hv
  · obtain ⟨n, rfl⟩ : ∃ n : Nat, b = (n : Int) := ⟨b.toNat, by have := (sdOk_of hv).1; unfold HdOk at this; omega⟩
    have hok := (sdOk_of hv).1
    unfold HdOk at hok
    by_cases h : s.size ≤ 200
    · by_cases hf : Full n xs.length (cut s).length
      · exact implPush_ref 3 n ao cap xs s w hm hz hr hv (.inr rfl) (by rw [pushOf, if_pos ⟨hv, h⟩, if_pos (by simpa using hf)]; rfl) (fun base R cs u h1 h2 h3 => (ringPush_yes base R n xs s cs (.slice none 0 0) 0 [] u (World.ownsRow_nil _ _ _ _) h1 h2 h3 (by omega) (by omega) (by omega) h).mono fun e w' hp => by
          obtain ⟨q | q, hb⟩ := hp
          · exact absurd hf q.1
          · exact ⟨q.2, hb⟩)
      · exact implPush_yes n ao cap xs s w hm hz hr hv h hf
    · exact implPush_ref 1 n ao cap xs s w hm hz hr hv (.inl rfl) (by rw [pushOf, if_neg (fun q => h q.2)]; rfl) (fun base R cs u h1 h2 h3 => (ringPush_no R s u (by omega) hs).mono fun e w' hp => ⟨hp.1, hp.2.mono h3, hp.2.size⟩)
end Go.Proofs.Yteceaadmgpjmcaa.mk

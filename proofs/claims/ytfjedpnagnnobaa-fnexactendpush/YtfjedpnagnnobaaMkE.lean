/-
  MARKS OF AN END.
-/
import Derived.Test.YtfjedpnagnnobaaMkI
import Derived.Test.YtfjedpnagnnobaaMkT
import Derived.Test.YtfjedpnagnnobaaEnE
namespace Go.Proofs.Ytfjedpnagnnobaa.mk
open Go.RowKit
set_option linter.unusedVariables false

theorem Ex.kept {u u' : World} {B : Nat} {cs : Array Value} {row : Option Nat} (h : Ex u B cs) (hg : u.grownBy u' row) (hne : some B ≠ row) : Ex u' B cs := by
  have := h.lt
  obtain ⟨t, h⟩ := h
  exact ⟨t, (hg.block B this hne).trans h⟩
set_option maxHeartbeats 1000000 in
theorem markEnd_any (base : Nat) (num : Int) (up : Bool) (life peer since : Int) (owes : Bool) (b nx : Int) (o : ByteArray) (av hv rv : Value) (n m l : Nat) (xs ys zs : List Value) (w : World) (hn : n ≤ 2000000) (hm : m ≤ 2000000) (hl : l ≤ 2000000) (hbs : base ≤ w.heap.size) (h1 : w.ownsRow base 70 4 av n xs) (h2 : w.ownsRow base 125 3 hv m ys) (h3 : w.ownsRow base 9 1 rv l zs) :
    Calls Try.prog 10 #[.agg #[.int .i64 num, .bool up, .int .i64 life, .int .i64 peer, .int .i64 since, .bool owes, .int .i64 b, av, .int .i64 nx, hv, .string o, rv], .int .i64 1] w fun e w' => e = .returned (.int .i64 ((1 + n * 4 + m * 3 + l : Nat) : Int)) ∧ (∃ cs, w'.ownsRow base 70 4 av n cs ∧ Mi 1 n cs) ∧ (∃ cs, w'.ownsRow base 125 3 hv m cs ∧ Mh (1 + n * 4) m cs) ∧ (∃ ts, w'.ownsRow base 9 1 rv l ts ∧ Ms (1 + n * 4 + m * 3) l ts) ∧ ∃ wa wb, w.grownBy wa av.ownBlock ∧ wa.grownBy wb hv.ownBlock ∧ wb.grownBy w' rv.ownBlock := by
  obtain ⟨ao, ca, rfl, -, -, -⟩ := rs_of_owns h1
  obtain ⟨io, cb, rfl, -, -, -⟩ := rs_of_owns h2
  obtain ⟨so, cc, rfl, -, -, -⟩ := rs_of_owns h3
  obtain ⟨K, hK⟩ : ∃ K : Nat, K = 1 + n * 4 := ⟨_, rfl⟩
  have hKb : 0 < K ∧ K ≤ 10000000 := by omega
  have HK : Hid (K = 1 + n * 4) := hK
  rw [← hK]
  have HC : Hid (∀ u : World, base ≤ u.heap.size → u.ownsRow base 70 4 (.slice ao n ca) n xs → Calls Try.prog 28 #[.agg #[.int .i64 b, .slice ao n ca], .int .i64 1] u fun e w' => e = .returned (.int .i64 (K : Int)) ∧ (∃ cs, w'.ownsRow base 70 4 (.slice ao n ca) n cs ∧ Mi 1 n cs) ∧ u.grownBy w' (Value.slice ao n ca).ownBlock) := fun u hb h => by rw [hK]; exact markSend_one base b _ n xs u hn hb h
  have HD : Hid (∀ u : World, u.ownsRow base 125 3 (.slice io m cb) m ys → u.ownsRow base 9 1 (.slice so l cc) l zs → Calls Try.prog 29 #[.agg #[.int .i64 nx, .slice io m cb, .string o, .slice so l cc], .int .i64 (K : Int)] u fun e w' => e = .returned (.int .i64 ((K + m * 3 + l : Nat) : Int)) ∧ (∃ cs, w'.ownsRow base 125 3 (.slice io m cb) m cs ∧ Mh K m cs) ∧ (∃ ts, w'.ownsRow base 9 1 (.slice so l cc) l ts ∧ Ms (K + m * 3) l ts) ∧ ∃ wm, u.grownBy wm (Value.slice io m cb).ownBlock ∧ wm.grownBy w' (Value.slice so l cc).ownBlock) := fun u g1 g2 => markTake_any base base nx _ _ o m l K ys zs u hKb.1 (by omega) hm hl g1 g2
  have X0 : Hid (Ex (w.alloc (.cells #[.int .i64 num, .bool up, .int .i64 life, .int .i64 peer, .int .i64 since, .bool owes, .int .i64 b, .slice ao n ca, .int .i64 nx, .slice io m cb, .string o, .slice so l cc] 39)) w.heap.size #[.int .i64 num, .bool up, .int .i64 life, .int .i64 peer, .int .i64 since, .bool owes, .int .i64 b, .slice ao n ca, .int .i64 nx, .slice io m cb, .string o, .slice so l cc]) := Ex.new w _ _
  have H1 : Hid ((w.alloc (.cells #[.int .i64 num, .bool up, .int .i64 life, .int .i64 peer, .int .i64 since, .bool owes, .int .i64 b, .slice ao n ca, .int .i64 nx, .slice io m cb, .string o, .slice so l cc] 39)).ownsRow base 70 4 (.slice ao n ca) n xs) := h1.alloc _
  have H2 : Hid ((w.alloc (.cells #[.int .i64 num, .bool up, .int .i64 life, .int .i64 peer, .int .i64 since, .bool owes, .int .i64 b, .slice ao n ca, .int .i64 nx, .slice io m cb, .string o, .slice so l cc] 39)).ownsRow base 125 3 (.slice io m cb) m ys) := h2.alloc _
  have H3 : Hid ((w.alloc (.cells #[.int .i64 num, .bool up, .int .i64 life, .int .i64 peer, .int .i64 since, .bool owes, .int .i64 b, .slice ao n ca, .int .i64 nx, .slice io m cb, .string o, .slice so l cc] 39)).ownsRow base 9 1 (.slice so l cc) l zs) := h3.alloc _
  have HNB : Hid (some w.heap.size ≠ (Value.slice ao n ca).ownBlock) := fun e => by have := (h1.lt _ e.symm).2; omega
  have HBS : Hid (base ≤ (w.alloc (.cells #[.int .i64 num, .bool up, .int .i64 life, .int .i64 peer, .int .i64 since, .bool owes, .int .i64 b, .slice ao n ca, .int .i64 nx, .slice io m cb, .string o, .slice so l cc] 39)).heap.size) := (by simp; omega : base ≤ (w.alloc (.cells #[.int .i64 num, .bool up, .int .i64 life, .int .i64 peer, .int .i64 since, .bool owes, .int .i64 b, .slice ao n ca, .int .i64 nx, .slice io m cb, .string o, .slice so l cc] 39)).heap.size)
  clear h1 h2 h3 hK
  go_enter Try.func10, Try.ntmps10
  go_wp2_with (first
    | (go_at_call 28; refine (HC.out _ HBS.out H1.out).mono ?_; rintro e w1 ⟨rfl, ⟨cs1, ho1, hM1⟩, hg1⟩; (have X1 := X0.out.kept hg1 HNB.out); (obtain ⟨c0, c1, c2, c3, c4, c5, c6, c7, c8, c9, c10, c11⟩ := X1.cells); (have k2 := H2.out.kept hg1 (rows_ne6 H2.out H1.out (by decide))); (have k3 := H3.out.kept hg1 (rows_ne6 H3.out H1.out (by decide))))
    | (go_at_call 29; refine (HD.out _ k2 k3).mono ?_; rintro e w2 ⟨rfl, ⟨cs2, ho2, hM2⟩, ⟨cs3, ho3, hM3⟩, wm, hg2, hg3⟩)
    | fail)
  go_ret
  exact ⟨rfl, ⟨cs1, (ho1.kept hg2 (rows_ne6 ho1 k2 (by decide))).kept hg3 (rows_ne6 (ho1.kept hg2 (rows_ne6 ho1 k2 (by decide))) (k3.kept hg2 (rows_ne6 k3 k2 (by decide))) (by decide)), hM1⟩, ⟨cs2, ho2, hM2⟩, ⟨cs3, ho3, hM3⟩, w1, wm, (World.grownBy_alloc w _ _).trans hg1, hg2, hg3⟩
set_option maxHeartbeats 1000000 in
theorem heldEnd_any (base : Nat) (num : Int) (up : Bool) (life peer since : Int) (owes : Bool) (b nx : Int) (o : ByteArray) (av hv rv : Value) (n m l : Nat) (xs ys zs : List Value) (w : World) (hn : n ≤ 2000000) (hm : m ≤ 2000000) (hl : l ≤ 2000000) (h1 : w.ownsRow base 70 4 av n xs) (h2 : w.ownsRow base 125 3 hv m ys) (h3 : w.ownsRow base 9 1 rv l zs) (M1 : Mi 1 n xs) (M2 : Mh (1 + n * 4) m ys) (M3 : Ms (1 + n * 4 + m * 3) l zs) :
    Calls Try.prog 11 #[.agg #[.int .i64 num, .bool up, .int .i64 life, .int .i64 peer, .int .i64 since, .bool owes, .int .i64 b, av, .int .i64 nx, hv, .string o, rv], .int .i64 1] w fun e w' => e = .returned (.int .i64 ((1 + n * 4 + m * 3 + l : Nat) : Int)) ∧ Below w.heap.size w w' := by
  obtain ⟨ao, ca, rfl, -, -, -⟩ := rs_of_owns h1
  obtain ⟨io, cb, rfl, -, -, -⟩ := rs_of_owns h2
  obtain ⟨so, cc, rfl, -, -, -⟩ := rs_of_owns h3
  obtain ⟨K, hK⟩ : ∃ K : Nat, K = 1 + n * 4 := ⟨_, rfl⟩
  have hKb : 0 < K ∧ K ≤ 10000000 := by omega
  have HK : Hid (K = 1 + n * 4) := hK
  rw [← hK]
  rw [← hK] at M2 M3
  have HC : Hid (∀ u : World, u.ownsRow base 70 4 (.slice ao n ca) n xs → Calls Try.prog 30 #[.agg #[.int .i64 b, .slice ao n ca], .int .i64 1] u fun e w' => e = .returned (.int .i64 (K : Int)) ∧ Below u.heap.size u w') := fun u h => by rw [hK]; exact heldSend_one base b _ n xs u hn h M1
  have HD : Hid (∀ u : World, u.ownsRow base 125 3 (.slice io m cb) m ys → u.ownsRow base 9 1 (.slice so l cc) l zs → Calls Try.prog 31 #[.agg #[.int .i64 nx, .slice io m cb, .string o, .slice so l cc], .int .i64 (K : Int)] u fun e w' => e = .returned (.int .i64 ((K + m * 3 + l : Nat) : Int)) ∧ Below u.heap.size u w') := fun u g1 g2 => heldTake_any base base nx _ _ o m l K ys zs u hKb.1 (by omega) hm hl g1 g2 M2 M3
  have X0 : Hid (Ex (w.alloc (.cells #[.int .i64 num, .bool up, .int .i64 life, .int .i64 peer, .int .i64 since, .bool owes, .int .i64 b, .slice ao n ca, .int .i64 nx, .slice io m cb, .string o, .slice so l cc] 39)) w.heap.size #[.int .i64 num, .bool up, .int .i64 life, .int .i64 peer, .int .i64 since, .bool owes, .int .i64 b, .slice ao n ca, .int .i64 nx, .slice io m cb, .string o, .slice so l cc]) := Ex.new w _ _
  have H1 : Hid ((w.alloc (.cells #[.int .i64 num, .bool up, .int .i64 life, .int .i64 peer, .int .i64 since, .bool owes, .int .i64 b, .slice ao n ca, .int .i64 nx, .slice io m cb, .string o, .slice so l cc] 39)).ownsRow base 70 4 (.slice ao n ca) n xs) := h1.alloc _
  have H2 : Hid ((w.alloc (.cells #[.int .i64 num, .bool up, .int .i64 life, .int .i64 peer, .int .i64 since, .bool owes, .int .i64 b, .slice ao n ca, .int .i64 nx, .slice io m cb, .string o, .slice so l cc] 39)).ownsRow base 125 3 (.slice io m cb) m ys) := h2.alloc _
  have H3 : Hid ((w.alloc (.cells #[.int .i64 num, .bool up, .int .i64 life, .int .i64 peer, .int .i64 since, .bool owes, .int .i64 b, .slice ao n ca, .int .i64 nx, .slice io m cb, .string o, .slice so l cc] 39)).ownsRow base 9 1 (.slice so l cc) l zs) := h3.alloc _
  have HB0 : Hid (Below w.heap.size w (w.alloc (.cells #[.int .i64 num, .bool up, .int .i64 life, .int .i64 peer, .int .i64 since, .bool owes, .int .i64 b, .slice ao n ca, .int .i64 nx, .slice io m cb, .string o, .slice so l cc] 39))) := (Below.refl _ _).alloc (Nat.le_refl _) _
  clear h1 h2 h3 hK M1 M2 M3
  go_enter Try.func11, Try.ntmps11
  go_wp2_with (first
    | (go_at_call 30; refine (HC.out _ H1.out).mono ?_; rintro e w1 ⟨rfl, hb1⟩; (have X1 := X0.out.keep hb1); (obtain ⟨c0, c1, c2, c3, c4, c5, c6, c7, c8, c9, c10, c11⟩ := X1.cells))
    | (go_at_call 31; refine (HD.out _ (owns_keep H2.out hb1) (owns_keep H3.out hb1)).mono ?_; rintro e w2 ⟨rfl, hb2⟩)
    | fail)
  go_ret
  exact ⟨rfl, kb (kb HB0.out hb1 (Nat.le_refl _)) hb2 (Nat.le_refl _)⟩
end Go.Proofs.Ytfjedpnagnnobaa.mk

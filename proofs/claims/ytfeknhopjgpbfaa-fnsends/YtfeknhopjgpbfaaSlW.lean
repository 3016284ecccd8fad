/-
  TWELVE TICKS: laws.wSend of two that are the same.
-/
import Derived.Test.YtfeknhopjgpbfaaSlP
import Derived.Test.YtfeknhopjgpbfaaBase
import Derived.Deep.QuietTactic
import Derived.BigQuiet
namespace Go.Proofs.Ytfeknhopjgpbfaa.mk
open Go.RowKit
set_option linter.unusedVariables false

set_option maxRecDepth 100000 in
set_option maxHeartbeats 1000000 in
theorem wSend_same (b : Int) (a1 a2 : Option Addr) (c1 c2 : Nat) (xs : List It) (w : World) (hm : xs.length ≤ 1048576) (hz : ∀ i (h : i < xs.length), xs[i].text.size ≤ 1048576) (h1 : Rs w a1 xs.length (is xs)) (h2 : Rs w a2 xs.length (is xs)) :
    Calls Try.prog 6 #[.agg #[.int .i64 b, .slice a1 xs.length c1], .agg #[.int .i64 b, .slice a2 xs.length c2]] w fun e w' => e = .returned (.bool true) ∧ Below w.heap.size w w' := by
  have X1 := (Bx.new w 25 #[.int .i64 b, .slice a1 xs.length c1]).alloc (.cells #[.int .i64 b, .slice a2 xs.length c2] 25)
  have X2 := Bx.new (w.alloc (.cells #[.int .i64 b, .slice a1 xs.length c1] 25)) 25 #[.int .i64 b, .slice a2 xs.length c2]
  rw [World.size_alloc] at X2
  have B0 : Below w.heap.size w ((w.alloc (.cells #[.int .i64 b, .slice a1 xs.length c1] 25)).alloc (.cells #[.int .i64 b, .slice a2 xs.length c2] 25)) := ((Below.refl _ _).alloc (Nat.le_refl _) _).alloc (by simp) _
  have H1 : Hid (Rs w a1 xs.length (is xs)) := h1
  have H2 : Hid (Rs w a2 xs.length (is xs)) := h2
  have HZ : Hid (∀ i (h : i < xs.length), xs[i].text.size ≤ 1048576) := hz
  have X1' : Hid _ := X1
  have X2' : Hid _ := X2
  have B0' : Hid _ := B0
  clear h1 h2 hz X1 X2 B0
  go_enter Try.func6, Try.ntmps6
  go_wp2
  go_loopw [5] (fun i wr => ∃ k : Nat, k ≤ xs.length ∧ i = .int .i64 k ∧ Bx wr w.heap.size 25 #[.int .i64 b, .slice a1 xs.length c1] ∧ Bx wr (w.heap.size + 1) 25 #[.int .i64 b, .slice a2 xs.length c2] ∧ Below w.heap.size w wr) (fun i _ => xs.length - (intOf i).toNat)
  case atStart => exact ⟨0, Nat.zero_le _, rfl, X1'.out, X2'.out, B0'.out⟩
  case round =>
    clear X1' X2' B0'
    obtain ⟨k, hk, rfl, x1, x2, hb⟩ := hrel
    have l1 := x1.lt
    have l2 := x2.lt
    have p1 := x1.cell 1
    have p2 := x2.cell 1
    simp at p1 p2
    by_cases hlt : (k : Int) < (xs.length : Int)
    · have hk' : k < xs.length := by omega
      rcases H1.out.ex with h | ⟨g1, rfl, hg1, hc1⟩
      · omega
      rcases H2.out.ex with h | ⟨g2, rfl, hg2, hc2⟩
      · omega
      obtain ⟨d0, d1, d2, d3⟩ := Rs.item (n := 0) hg1 hc1 hb k hk'
      obtain ⟨e0, e1, e2, e3⟩ := Rs.item (n := 0) hg2 hc2 hb k hk'
      have hsz := HZ.out k hk'
      generalize xs[k].text = s at *
      generalize xs[k].last = l at *
      generalize xs[k].has = h at *
      generalize xs[k].since = n at *
      clear hc1 hc2
      go_wp2
      go_quiet (fail)
      go_wp2
      have hd : Below wr.heap.size wr (wr.drewN nq) := ⟨rfl, rfl, rfl, Nat.le_refl _, fun _ _ => rfl⟩
      exact ⟨⟨k + 1, by omega, by go_num, x1.keep hd, x2.keep hd, kb hb hd (Nat.le_refl _)⟩, by simp [intOf]; omega⟩
    · go_wp2
      go_ret
      exact ⟨rfl, hb⟩
end Go.Proofs.Ytfeknhopjgpbfaa.mk

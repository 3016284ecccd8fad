/-
  TWELVE TICKS: what the law has ahead of its ticks.
-/
import Derived.Test.YtfeknhopjgpbfaaSlA
import Derived.Test.YtfeknhopjgpbfaaSlW
import Derived.Test.YtfeknhopjgpbfaaSdW
namespace Go.Proofs.Ytfeknhopjgpbfaa.mk
open Go.RowKit
set_option linter.unusedVariables false

def WP (u : World) (b2 : Int) (zs : List It) (e : Ending) (w' : World) : Prop :=
  (∃ a1 c1, e = .returned (.agg #[.int .i64 b2, .slice a1 zs.length c1]) ∧ w'.ownsRow u.heap.size 37 4 (.slice a1 zs.length c1) zs.length (is zs)) ∧ Below u.heap.size u w'
theorem word_split (b : Int) (ao : Option Addr) (cap : Nat) (xs : List It) (next mask : Int) (hk : Wl b xs) (hao : ao = none → xs.length = 0 ∧ cap = 0) :
    ∃ (b2 : Int) (zs : List It), Wk b2 zs ∧ (sdOk b xs = true → sdOk b2 zs = true) ∧ (sdOk b xs = false → zs.length = 0)
      ∧ Hid (∀ u : World, Rs u ao xs.length (is xs) → Calls Try.prog 5 #[.agg #[.int .i64 b, .slice ao xs.length cap], .int .i64 next, .int .i64 mask] u fun e w' => WP u b2 zs e w')
      ∧ Hid (∀ u : World, Rs u ao xs.length (is xs) → Calls Try.prog 7 #[.agg #[.int .i64 b, .slice ao xs.length cap], .int .i64 next, .int .i64 mask] u fun e w' => WP u b2 zs e w') := by
  refine ⟨(wordOf b xs next mask).1, (wordOf b xs next mask).2, word_wk _ _ _ _, fun h => word_ok next mask h, fun h => ?_, ?_, ?_⟩
  · unfold wordOf
    rw [h]
    simp
  · exact fun u hr => implWord_any b ao cap xs next mask u hk.big.1 hk.big.2 hr
  · exact fun u hr => specWord_opt b ao cap xs next mask u hk.big.1 hk.big.2 hr hao
/-- the Send that was drawn at y3, the one behind the word at y6 -/
structure L0 (w0 w : World) (y3 y6 : Nat) (b : Int) (ao : Option Addr) (cap : Nat) (xs : List It) (b2 : Int) (a : Option Addr) (c : Nat) (zs : List It) : Prop where
  low : Below w0.heap.size w0 w
  lt : w0.heap.size ≤ y3 ∧ w0.heap.size ≤ y6 ∧ y3 ≠ y6
  x3 : Bx w y3 25 #[.int .i64 b, .slice ao xs.length cap]
  x6 : Bx w y6 25 #[.int .i64 b2, .slice a zs.length c]
  rs : Rs w ao xs.length (is xs)
  row : w.ownsRow w0.heap.size 37 4 (.slice a zs.length c) zs.length (is zs)
theorem L0.keep {w0 w : World} {y3 y6 : Nat} {b : Int} {ao : Option Addr} {cap : Nat} {xs : List It} {b2 : Int} {a : Option Addr} {c : Nat} {zs : List It} {w' : World} (h : L0 w0 w y3 y6 b ao cap xs b2 a c zs) (hb : Below w.heap.size w w') : L0 w0 w' y3 y6 b ao cap xs b2 a c zs :=
  ⟨kb h.low hb (Nat.le_refl _), h.lt, h.x3.keep hb, h.x6.keep hb, h.rs.keep hb, owns_keep h.row hb⟩
theorem L0.drew {w0 w : World} {y3 y6 : Nat} {b : Int} {ao : Option Addr} {cap : Nat} {xs : List It} {b2 : Int} {a : Option Addr} {c : Nat} {zs : List It} (h : L0 w0 w y3 y6 b ao cap xs b2 a c zs) : L0 w0 w.drew y3 y6 b ao cap xs b2 a c zs := h.keep (Below.refl _ _).drew
theorem L0.cells {w0 w : World} {y3 y6 : Nat} {b : Int} {ao : Option Addr} {cap : Nat} {xs : List It} {b2 : Int} {a : Option Addr} {c : Nat} {zs : List It} (h : L0 w0 w y3 y6 b ao cap xs b2 a c zs) : w.cell? ⟨y3, 0, none⟩ = some (.int .i64 b) ∧ w.cell? ⟨y3, 1, none⟩ = some (.slice ao xs.length cap) ∧ w.cell? ⟨y6, 0, none⟩ = some (.int .i64 b2) ∧ w.cell? ⟨y6, 1, none⟩ = some (.slice a zs.length c) ∧ y3 < w.heap.size ∧ y6 < w.heap.size :=
  ⟨h.x3.cell 0, h.x3.cell 1, h.x6.cell 0, h.x6.cell 1, h.x3.lt, h.x6.lt⟩
theorem L0.rs6 {w0 w : World} {y3 y6 : Nat} {b : Int} {ao : Option Addr} {cap : Nat} {xs : List It} {b2 : Int} {a : Option Addr} {c : Nat} {zs : List It} (h : L0 w0 w y3 y6 b ao cap xs b2 a c zs) : Rs w a zs.length (is zs) := by
  obtain ⟨ao', cap', e, _, _, hr⟩ := rs_of_owns h.row
  cases e
  exact hr
theorem L0.start {w w1 w2 : World} {b : Int} {ao : Option Addr} {cap : Nat} {xs : List It} {b2 : Int} {a : Option Addr} {c : Nat} {zs : List It} (hb1 : Below w.heap.size w w1) (hrs : Rs w1 ao xs.length (is xs))
    (hb2 : Below (w1.alloc (.cells #[.int .i64 b, .slice ao xs.length cap] 25)).heap.size (w1.alloc (.cells #[.int .i64 b, .slice ao xs.length cap] 25)) w2) (hr2 : w2.ownsRow (w1.alloc (.cells #[.int .i64 b, .slice ao xs.length cap] 25)).heap.size 37 4 (.slice a zs.length c) zs.length (is zs)) :
    L0 w (w2.alloc (.cells #[.int .i64 b2, .slice a zs.length c] 25)) w1.heap.size w2.heap.size b ao cap xs b2 a c zs := by
  have s1 := hb1.size
  have s2 := hb2.size
  have B2 : Below w.heap.size w w2 := kb (hb1.alloc hb1.size _) hb2 (Nat.le_refl _)
  have x3 := ((Bx.new w1 25 #[.int .i64 b, .slice ao xs.length cap]).keep hb2).alloc (.cells #[.int .i64 b2, .slice a zs.length c] 25)
  have r3 := (hrs.keep ((Below.refl _ _).alloc (Nat.le_refl _) (.cells #[.int .i64 b, .slice ao xs.length cap] 25))).keep hb2
  simp only [World.size_alloc] at s2 hr2
  exact ⟨B2.alloc B2.size _, ⟨s1, by omega, by omega⟩, x3, Bx.new w2 _ _, r3.keep ((Below.refl _ _).alloc (Nat.le_refl _) _), owns_mono (hr2.alloc _) (by omega)⟩
end Go.Proofs.Ytfeknhopjgpbfaa.mk

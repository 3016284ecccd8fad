/-
  AN ARGUMENT THAT IS A PACKET, OPENED: its nine cells.
-/
import Derived.Test.YtdmlhfbnhhafmaaRows
import Derived.WalkKit
import Derived.ProofKit
import Derived.OpenShut
import Derived.ShutString
import Derived.ChangeOld
import Derived.Below
namespace Go.Proofs.Ytdmlhfbnhhafmaa.opened
open Go.ChangeShapes Go.WideShapes Go.ChangeAt Go.RowKit

theorem array9 {α : Type} {cs : Array α} (h : cs.size = 9) : ∃ c0 c1 c2 c3 c4 c5 c6 c7 c8, cs = #[c0, c1, c2, c3, c4, c5, c6, c7, c8] := by
  obtain ⟨l⟩ := cs
  match l, h with
  | [c0, c1, c2, c3, c4, c5, c6, c7, c8], _ => exact ⟨c0, c1, c2, c3, c4, c5, c6, c7, c8, rfl⟩
theorem cellsInt : Try.prog.cellsOf 3 = 1 := by kernel_rfl
theorem cellsBool : Try.prog.cellsOf 4 = 1 := by kernel_rfl
theorem cellsString : Try.prog.cellsOf 9 = 1 := by kernel_rfl
theorem cellsPacket : Try.prog.cellsOf 43 = 9 := by kernel_rfl
theorem get_of_len {α : Type} {xs : List α} {n i : Nat} (h : xs.length = n) (hi : i < n) : ∃ y, xs[i]? = some y := by
  subst h
  exact ⟨xs[i], by simp [hi]⟩
set_option maxRecDepth 100000 in
theorem packet {H : Type} {enc : TypeId × Value → H} {W : World} {base : Nat} {spare : Nat → Bool} {held : Bool} {r : Reach} {b0 : Nat} {v : Value} {d : DataW H} {p : List MemPlace}
    (hv : Value.okWide Try.prog W r b0 43 v) (h : DataW.Trod enc Try.prog W base spare held 43 v d p) :
    ∃ (k f m y nx mk sq : Int) (l : Bool) (s : ByteArray), v = .agg #[.int .i64 k, .int .i64 f, .int .i64 m, .int .i64 y, .int .i64 nx, .int .i64 mk, .int .i64 sq, .bool l, .string s] ∧ s.size ≤ maxLen := by
  obtain ⟨cs, rfl, hsz⟩ := okWide_struct Try.underlying43 hv
  obtain ⟨c0, c1, c2, c3, c4, c5, c6, c7, c8, rfl⟩ := array9 (hsz.trans cellsPacket)
  obtain ⟨fuel, hf⟩ := h
  obtain ⟨xs, n, _, hx, hl, hlen, hff⟩ := DataW.trod_struct Try.underlying43 hf
  have hg : ∀ i, i < 9 → ∃ y, xs[i]? = some y := fun i hi => get_of_len hlen hi
  obtain ⟨y0, g0⟩ := hg 0 (by omega)
  obtain ⟨y1, g1⟩ := hg 1 (by omega)
  obtain ⟨y2, g2⟩ := hg 2 (by omega)
  obtain ⟨y3, g3⟩ := hg 3 (by omega)
  obtain ⟨y4, g4⟩ := hg 4 (by omega)
  obtain ⟨y5, g5⟩ := hg 5 (by omega)
  obtain ⟨y6, g6⟩ := hg 6 (by omega)
  obtain ⟨y7, g7⟩ := hg 7 (by omega)
  obtain ⟨y8, g8⟩ := hg 8 (by omega)
  obtain ⟨n0, e0, -⟩ := DataW.trod_int Try.underlying3 ((hff 0 _ rfl).trans g0)
  obtain ⟨n1, e1, -⟩ := DataW.trod_int Try.underlying3 ((hff 1 _ rfl).trans g1)
  obtain ⟨n2, e2, -⟩ := DataW.trod_int Try.underlying3 ((hff 2 _ rfl).trans g2)
  obtain ⟨n3, e3, -⟩ := DataW.trod_int Try.underlying3 ((hff 3 _ rfl).trans g3)
  obtain ⟨n4, e4, -⟩ := DataW.trod_int Try.underlying3 ((hff 4 _ rfl).trans g4)
  obtain ⟨n5, e5, -⟩ := DataW.trod_int Try.underlying3 ((hff 5 _ rfl).trans g5)
  obtain ⟨n6, e6, -⟩ := DataW.trod_int Try.underlying3 ((hff 6 _ rfl).trans g6)
  obtain ⟨n7, e7, -⟩ := DataW.trod_bool Try.underlying4 ((hff 7 _ rfl).trans g7)
  obtain ⟨n8, e8, -, hm⟩ := DataW.trod_string Try.underlying9 ((hff 8 _ rfl).trans g8)
  simp [Value.cells, cellsInt, cellsBool, cellsString] at e0 e1 e2 e3 e4 e5 e6 e7 e8
  subst e0 e1 e2 e3 e4 e5 e6 e7 e8
  exact ⟨n0, n1, n2, n3, n4, n5, n6, n7, n8, rfl, hm⟩
end Go.Proofs.Ytdmlhfbnhhafmaa.opened

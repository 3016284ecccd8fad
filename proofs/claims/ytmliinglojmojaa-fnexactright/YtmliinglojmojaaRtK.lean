/-
  TALKS AS KEYS OF A MAP.
-/
import Derived.Test.YtmliinglojmojaaRtA
import Derived.Maps.Own
import Derived.Maps.OwnOps
import Derived.Maps.Views
import Derived.DeepKeys4
namespace Go.Proofs.Ytmliinglojmojaa.mk
open Go.RowKit Go.Maps Go.WideMaps
set_option linter.unusedVariables false

theorem laidR : laidOutB Try.prog = true := by kernel_rfl
theorem rowTalk : (101 : TypeId) < Try.prog.types.size := of_decide_eq_true (by kernel_rfl)
theorem wideTalk : (match Try.prog.underlying 101 with | some (.array _ _) | some (.struct _) => true | _ => false) = true := by kernel_rfl
set_option maxRecDepth 100000 in
theorem lawTalk : Keyed Try.prog 101 := Keyed.of_law (deep_law_laid laidR (m := 2) (by omega) rowTalk (by kernel_rfl) wideTalk)
theorem zeroI (w : World) : (zeroValue 3).run Try.prog w = .ok (.int .i64 0) w := by kernel_rfl
theorem keyTy : Try.prog.keyType 101 = true := by kernel_rfl
theorem cTalk : Try.prog.cellsOf 101 = 3 := by kernel_rfl
theorem cInt : Try.prog.cellsOf 3 = 1 := by kernel_rfl
set_option maxRecDepth 100000 in
theorem keyOk (f a b : Int) (hf : 1 ≤ f ∧ f ≤ 1000) (ha : 1 ≤ a ∧ a ≤ 1000) (hb : 1 ≤ b ∧ b ≤ 1000) :
    ∃ kl, keyOf Try.prog 101 (.agg #[.int .i64 f, .int .i64 a, .int .i64 b]) = some kl := by
  have wf : ∀ n : Int, 1 ≤ n ∧ n ≤ 1000 → (Lit.int .i64 n).wf = true := fun n h => WalkArith.wf_i64 (by omega)
  have w1 := wf f hf
  have w2 := wf a ha
  have w3 := wf b hb
  unfold keyOf
  rw [Try.underlying101]
  have hfm : Value.formed Try.prog 101 (.agg #[.int .i64 f, .int .i64 a, .int .i64 b]) = true := by
    unfold Value.formed
    simp [Try.underlying101, cTalk]
  have hkl : Try.prog.keyLits (Try.prog.types.size + 1) 101 (Value.agg #[.int .i64 f, .int .i64 a, .int .i64 b]).cells.toList = some [.int .i64 f, .int .i64 a, .int .i64 b] := by
    obtain ⟨n, hn⟩ := Nat.exists_eq_succ_of_ne_zero (Nat.ne_of_gt (Nat.lt_of_le_of_lt (Nat.zero_le _) rowTalk))
    rw [hn]
    unfold Program.keyLits
    simp [Try.underlying101, cTalk, Value.cells, cInt]
    unfold Program.keyLits
    simp [Try.underlying3, w1, w2, w3]
  refine ⟨.string (keyBytes [.int .i64 f, .int .i64 a, .int .i64 b]), ?_⟩
  dsimp only
  rw [keyTy, hfm, hkl]
  rfl
theorem key_inj {f a b f' a' b' : Int} {kl : Lit} (h : keyOf Try.prog 101 (.agg #[.int .i64 f, .int .i64 a, .int .i64 b]) = some kl) (h' : keyOf Try.prog 101 (.agg #[.int .i64 f', .int .i64 a', .int .i64 b']) = some kl) : f = f' ∧ a = a' ∧ b = b' := by
  have := lawTalk.inj h h'
  simpa using this
end Go.Proofs.Ytmliinglojmojaa.mk

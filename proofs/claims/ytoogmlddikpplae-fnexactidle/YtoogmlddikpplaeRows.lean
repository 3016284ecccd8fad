/-
  No cell of these rows narrows 'for every input' (looked for: loops, veiled, ifaces, maps, wideKeys, modest, calm, conditions, laid).
  DERIVED. THE GIVEN ROWS OF THIS SEAT. 4 by the template 'for every input the law returns true; each argument reads behind the call as it read before'; 0 by the template 'total and deterministic' (their statements: YtoogmlddikpplaeTotals.lean).
  GIVEN WITH THE SEED: the statements are not yours to turn. If you find one false, say at which input.
  Laid BY PROGRAM, IN A SANDBOX (cutbox-rows.mjs): the forced cells as the released guide's own fill.sh prints them over the translation b4a04c22166d90a0… (all of the seat's roots in one cut). By AI agents, Wed Nov 11 2026. No macro, syntax, notation, axiom, sorry.
-/
import Derived.Test.YtoogmlddikpplaeChecked
import GoSem.Claim
import GoSem.ClaimJoined
import GoSem.ClaimMapViews
import Derived.JoinedTies
import Derived.KernelRfl
namespace Go.Proofs.Ytoogmlddikpplae
/- THE CELL 'sum', in the pinned program and in every row, IS THE sha256 OF THE DUMP (.gsa) THAT YtoogmlddikpplaeProg.lean LOADS. Nothing in Lean hashes anything: it is a label: what it is worth is what the hold of that sum in a sandbox is worth. -/
noncomputable def Try.pinned : Pinned := { name := "ytoogmlddikpplae", sum := "b4a04c22166d90a0133521175db307fd7a82c383ff0dc80a4a6865ac5f98b4f7", checked := Try.checked }
namespace Rows
def none {H : Type} : Left H := { results := [], args := [] }

/-- 'laws.FnExactIdle': WHATEVER THE INPUT: true; the input reads as it did. -/
def fnExactIdleSpec : ChangeSpec := { name := "fnExactIdle", fn := fun _ => fun
  | [d] => { results := [.lit (.bool true)], args := [d] }
  | _ => none }
def fnExactIdleRow : OpenClaim := { program := "ytoogmlddikpplae", sum := "b4a04c22166d90a0133521175db307fd7a82c383ff0dc80a4a6865ac5f98b4f7", func := "loop.example/kilnwind/laws.FnExactIdle", spec := "fnExactIdle", unfollowed := true, recurses := true, plainKeys := false, apart := false }
def FnExactIdleSaid : Prop := fnExactIdleRow.holds Try.pinned (OpenSpec.ofChange fnExactIdleSpec)

/-- ITS FALSE NEIGHBOUR: 'it returns false'. Refute it at one input. -/
def fnExactIdleWrong : ChangeSpec := { name := "fnExactIdle", fn := fun _ => fun
  | [d] => { results := [.lit (.bool false)], args := [d] }
  | _ => none }
def FnExactIdleWrongFalsely : Prop := fnExactIdleRow.holds Try.pinned (OpenSpec.ofChange fnExactIdleWrong)

/-- 'laws.FnExactEndPush': WHATEVER THE INPUT: true; the input reads as it did. -/
def fnExactEndPushSpec : ChangeSpec := { name := "fnExactEndPush", fn := fun _ => fun
  | [d1, d2] => { results := [.lit (.bool true)], args := [d1, d2] }
  | _ => none }
def fnExactEndPushRow : OpenClaim := { program := "ytoogmlddikpplae", sum := "b4a04c22166d90a0133521175db307fd7a82c383ff0dc80a4a6865ac5f98b4f7", func := "loop.example/kilnwind/laws.FnExactEndPush", spec := "fnExactEndPush", unfollowed := true, recurses := true, plainKeys := false, apart := false }
def FnExactEndPushSaid : Prop := fnExactEndPushRow.holds Try.pinned (OpenSpec.ofChange fnExactEndPushSpec)

/-- ITS FALSE NEIGHBOUR: 'it returns false'. Refute it at one input. -/
def fnExactEndPushWrong : ChangeSpec := { name := "fnExactEndPush", fn := fun _ => fun
  | [d1, d2] => { results := [.lit (.bool false)], args := [d1, d2] }
  | _ => none }
def FnExactEndPushWrongFalsely : Prop := fnExactEndPushRow.holds Try.pinned (OpenSpec.ofChange fnExactEndPushWrong)

/-- 'laws.FnExactEndPull': WHATEVER THE INPUT: true; the input reads as it did. -/
def fnExactEndPullSpec : ChangeSpec := { name := "fnExactEndPull", fn := fun _ => fun
  | [d] => { results := [.lit (.bool true)], args := [d] }
  | _ => none }
def fnExactEndPullRow : OpenClaim := { program := "ytoogmlddikpplae", sum := "b4a04c22166d90a0133521175db307fd7a82c383ff0dc80a4a6865ac5f98b4f7", func := "loop.example/kilnwind/laws.FnExactEndPull", spec := "fnExactEndPull", plainKeys := false, apart := false }
def FnExactEndPullSaid : Prop := fnExactEndPullRow.holds Try.pinned (OpenSpec.ofChange fnExactEndPullSpec)

/-- ITS FALSE NEIGHBOUR: 'it returns false'. Refute it at one input. -/
def fnExactEndPullWrong : ChangeSpec := { name := "fnExactEndPull", fn := fun _ => fun
  | [d] => { results := [.lit (.bool false)], args := [d] }
  | _ => none }
def FnExactEndPullWrongFalsely : Prop := fnExactEndPullRow.holds Try.pinned (OpenSpec.ofChange fnExactEndPullWrong)

/-- 'laws.FnRight': WHATEVER THE INPUT: true; the input reads as it did. -/
def fnRightSpec : ChangeSpec := { name := "fnRight", fn := fun _ => fun
  | [d] => { results := [.lit (.bool true)], args := [d] }
  | _ => none }
def fnRightRow : OpenClaim := { program := "ytoogmlddikpplae", sum := "b4a04c22166d90a0133521175db307fd7a82c383ff0dc80a4a6865ac5f98b4f7", func := "loop.example/kilnwind/laws.FnRight", spec := "fnRight", unfollowed := true, recurses := true, plainKeys := false, apart := false }
def FnRightSaid : Prop := fnRightRow.holds Try.pinned (OpenSpec.ofChange fnRightSpec)

/-- ITS FALSE NEIGHBOUR: 'it returns false'. Refute it at one input. -/
def fnRightWrong : ChangeSpec := { name := "fnRight", fn := fun _ => fun
  | [d] => { results := [.lit (.bool false)], args := [d] }
  | _ => none }
def FnRightWrongFalsely : Prop := fnRightRow.holds Try.pinned (OpenSpec.ofChange fnRightWrong)

/- THE SECOND FORM. 'bulk': how many values and letters a reading holds, each counted each time it is reached (what is shared counts as often as it is met; a slice's spare places count too). A statement '..UptoSaid' is the law's where the arguments, and the package variables that the reading takes, are together of bulk at most 1048576: NARROWER than '..Said'. Prove '..Said' where nothing that the law and all that it calls make is longer than what came in: it says more and counts as full. Else prove '..UptoSaid'. A law counts once. -/
mutual
def uptoBulk {H : Type} : DataW H → Nat
  | .lit (.string bytes) => bytes.length + 1
  | .lit _ => 1
  | .nil => 1
  | .ptr d => uptoBulk d + 1
  | .slice elems spare => uptoBulkAll elems + uptoBulkAll spare + 1
  | .agg parts => uptoBulkAll parts + 1
  | .iface _ d => uptoBulk d + 1
  | .map entries => uptoBulkEntries entries + 1
  | .held _ => 1
def uptoBulkAll {H : Type} : List (DataW H) → Nat
  | [] => 0
  | d :: r => uptoBulk d + uptoBulkAll r
def uptoBulkEntries {H : Type} : List (Lit × DataW H) → Nat
  | [] => 0
  | x :: r => uptoBulkEntry x + uptoBulkEntries r
def uptoBulkEntry {H : Type} : Lit × DataW H → Nat
  | (.string bytes, d) => bytes.length + uptoBulk d + 1
  | (_, d) => uptoBulk d + 1
 end
def uptoSmall : (H : Type) → List (DataW H) → Bool := fun _ ds => decide (uptoBulkAll ds ≤ 1048576)
def OpenSpec.upto (s : _root_.Go.ChangeSpec) : _root_.Go.OpenSpec := { _root_.Go.OpenSpec.ofChange s with cond := some uptoSmall }

/-- 'laws.FnExactIdle', WHERE WHAT IT READS IS OF BULK AT MOST 1048576: true; the input reads as it did. -/
def fnExactIdleUptoRow : OpenClaim := { program := "ytoogmlddikpplae", sum := "b4a04c22166d90a0133521175db307fd7a82c383ff0dc80a4a6865ac5f98b4f7", func := "loop.example/kilnwind/laws.FnExactIdle", spec := "fnExactIdle", unfollowed := true, recurses := true, plainKeys := false, apart := false, narrowed := true }
def FnExactIdleUptoSaid : Prop := fnExactIdleUptoRow.holds Try.pinned (OpenSpec.upto fnExactIdleSpec)

/-- 'laws.FnExactEndPush', WHERE WHAT IT READS IS OF BULK AT MOST 1048576: true; the input reads as it did. -/
def fnExactEndPushUptoRow : OpenClaim := { program := "ytoogmlddikpplae", sum := "b4a04c22166d90a0133521175db307fd7a82c383ff0dc80a4a6865ac5f98b4f7", func := "loop.example/kilnwind/laws.FnExactEndPush", spec := "fnExactEndPush", unfollowed := true, recurses := true, plainKeys := false, apart := false, narrowed := true }
def FnExactEndPushUptoSaid : Prop := fnExactEndPushUptoRow.holds Try.pinned (OpenSpec.upto fnExactEndPushSpec)

/-- 'laws.FnExactEndPull', WHERE WHAT IT READS IS OF BULK AT MOST 1048576: true; the input reads as it did. -/
def fnExactEndPullUptoRow : OpenClaim := { program := "ytoogmlddikpplae", sum := "b4a04c22166d90a0133521175db307fd7a82c383ff0dc80a4a6865ac5f98b4f7", func := "loop.example/kilnwind/laws.FnExactEndPull", spec := "fnExactEndPull", plainKeys := false, apart := false, narrowed := true }
def FnExactEndPullUptoSaid : Prop := fnExactEndPullUptoRow.holds Try.pinned (OpenSpec.upto fnExactEndPullSpec)

/-- 'laws.FnRight', WHERE WHAT IT READS IS OF BULK AT MOST 1048576: true; the input reads as it did. -/
def fnRightUptoRow : OpenClaim := { program := "ytoogmlddikpplae", sum := "b4a04c22166d90a0133521175db307fd7a82c383ff0dc80a4a6865ac5f98b4f7", func := "loop.example/kilnwind/laws.FnRight", spec := "fnRight", unfollowed := true, recurses := true, plainKeys := false, apart := false, narrowed := true }
def FnRightUptoSaid : Prop := fnRightUptoRow.holds Try.pinned (OpenSpec.upto fnRightSpec)

end Rows
end Go.Proofs.Ytoogmlddikpplae

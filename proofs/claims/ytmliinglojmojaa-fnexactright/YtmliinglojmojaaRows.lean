/-
  No cell of these rows narrows 'for every input' (looked for: loops, veiled, ifaces, maps, wideKeys, modest, calm, conditions, laid).
  DERIVED. THE GIVEN ROWS OF THIS SEAT. 6 by the template 'for every input the law returns true; each argument reads behind the call as it read before'; 0 by the template 'total and deterministic' (their statements: YtmliinglojmojaaTotals.lean).
  GIVEN WITH THE SEED: the statements are not yours to turn. If you find one false, say at which input.
  Laid BY PROGRAM, IN A SANDBOX (cutbox-rows.mjs): the forced cells as the released guide's own fill.sh prints them over the translation d07b5216e4242c19… (all of the seat's roots in one cut). By AI agents, Wed Nov 11 2026. No macro, syntax, notation, axiom, sorry.
-/
import Derived.Test.YtmliinglojmojaaChecked
import GoSem.Claim
import GoSem.ClaimJoined
import GoSem.ClaimMapViews
import Derived.JoinedTies
import Derived.KernelRfl
namespace Go.Proofs.Ytmliinglojmojaa
/- THE CELL 'sum', in the pinned program and in every row, IS THE sha256 OF THE DUMP (.gsa) THAT YtmliinglojmojaaProg.lean LOADS. Nothing in Lean hashes anything: it is a label: what it is worth is what the hold of that sum in a sandbox is worth. -/
noncomputable def Try.pinned : Pinned := { name := "ytmliinglojmojaa", sum := "d07b5216e4242c19a964656a15eb165aca6521f1461eafa6df0064f2a6b4b010", checked := Try.checked }
namespace Rows
def none {H : Type} : Left H := { results := [], args := [] }

/-- 'laws.FnExactNewWorld': WHATEVER THE INPUT: true; the input reads as it did. -/
def fnExactNewWorldSpec : ChangeSpec := { name := "fnExactNewWorld", fn := fun _ => fun
  | [d1, d2] => { results := [.lit (.bool true)], args := [d1, d2] }
  | _ => none }
def fnExactNewWorldRow : OpenClaim := { program := "ytmliinglojmojaa", sum := "d07b5216e4242c19a964656a15eb165aca6521f1461eafa6df0064f2a6b4b010", func := "loop.example/kilnwind/laws.FnExactNewWorld", spec := "fnExactNewWorld", plainKeys := false, apart := false }
def FnExactNewWorldSaid : Prop := fnExactNewWorldRow.holds Try.pinned (OpenSpec.ofChange fnExactNewWorldSpec)

/-- ITS FALSE NEIGHBOUR: 'it returns false'. Refute it at one input. -/
def fnExactNewWorldWrong : ChangeSpec := { name := "fnExactNewWorld", fn := fun _ => fun
  | [d1, d2] => { results := [.lit (.bool false)], args := [d1, d2] }
  | _ => none }
def FnExactNewWorldWrongFalsely : Prop := fnExactNewWorldRow.holds Try.pinned (OpenSpec.ofChange fnExactNewWorldWrong)

/-- 'laws.FnExactValidEnd': WHATEVER THE INPUT: true; the input reads as it did. -/
def fnExactValidEndSpec : ChangeSpec := { name := "fnExactValidEnd", fn := fun _ => fun
  | [d] => { results := [.lit (.bool true)], args := [d] }
  | _ => none }
def fnExactValidEndRow : OpenClaim := { program := "ytmliinglojmojaa", sum := "d07b5216e4242c19a964656a15eb165aca6521f1461eafa6df0064f2a6b4b010", func := "loop.example/kilnwind/laws.FnExactValidEnd", spec := "fnExactValidEnd", plainKeys := false, apart := false }
def FnExactValidEndSaid : Prop := fnExactValidEndRow.holds Try.pinned (OpenSpec.ofChange fnExactValidEndSpec)

/-- ITS FALSE NEIGHBOUR: 'it returns false'. Refute it at one input. -/
def fnExactValidEndWrong : ChangeSpec := { name := "fnExactValidEnd", fn := fun _ => fun
  | [d] => { results := [.lit (.bool false)], args := [d] }
  | _ => none }
def FnExactValidEndWrongFalsely : Prop := fnExactValidEndRow.holds Try.pinned (OpenSpec.ofChange fnExactValidEndWrong)

/-- 'laws.FnExactEndFall': WHATEVER THE INPUT: true; the input reads as it did. -/
def fnExactEndFallSpec : ChangeSpec := { name := "fnExactEndFall", fn := fun _ => fun
  | [d] => { results := [.lit (.bool true)], args := [d] }
  | _ => none }
def fnExactEndFallRow : OpenClaim := { program := "ytmliinglojmojaa", sum := "d07b5216e4242c19a964656a15eb165aca6521f1461eafa6df0064f2a6b4b010", func := "loop.example/kilnwind/laws.FnExactEndFall", spec := "fnExactEndFall", plainKeys := false, apart := false }
def FnExactEndFallSaid : Prop := fnExactEndFallRow.holds Try.pinned (OpenSpec.ofChange fnExactEndFallSpec)

/-- ITS FALSE NEIGHBOUR: 'it returns false'. Refute it at one input. -/
def fnExactEndFallWrong : ChangeSpec := { name := "fnExactEndFall", fn := fun _ => fun
  | [d] => { results := [.lit (.bool false)], args := [d] }
  | _ => none }
def FnExactEndFallWrongFalsely : Prop := fnExactEndFallRow.holds Try.pinned (OpenSpec.ofChange fnExactEndFallWrong)

/-- 'laws.FnExactEndRise': WHATEVER THE INPUT: true; the input reads as it did. -/
def fnExactEndRiseSpec : ChangeSpec := { name := "fnExactEndRise", fn := fun _ => fun
  | [d] => { results := [.lit (.bool true)], args := [d] }
  | _ => none }
def fnExactEndRiseRow : OpenClaim := { program := "ytmliinglojmojaa", sum := "d07b5216e4242c19a964656a15eb165aca6521f1461eafa6df0064f2a6b4b010", func := "loop.example/kilnwind/laws.FnExactEndRise", spec := "fnExactEndRise", plainKeys := false, apart := false }
def FnExactEndRiseSaid : Prop := fnExactEndRiseRow.holds Try.pinned (OpenSpec.ofChange fnExactEndRiseSpec)

/-- ITS FALSE NEIGHBOUR: 'it returns false'. Refute it at one input. -/
def fnExactEndRiseWrong : ChangeSpec := { name := "fnExactEndRise", fn := fun _ => fun
  | [d] => { results := [.lit (.bool false)], args := [d] }
  | _ => none }
def FnExactEndRiseWrongFalsely : Prop := fnExactEndRiseRow.holds Try.pinned (OpenSpec.ofChange fnExactEndRiseWrong)

/-- 'laws.FnExactValidWorld': WHATEVER THE INPUT: true; the input reads as it did. -/
def fnExactValidWorldSpec : ChangeSpec := { name := "fnExactValidWorld", fn := fun _ => fun
  | [d] => { results := [.lit (.bool true)], args := [d] }
  | _ => none }
def fnExactValidWorldRow : OpenClaim := { program := "ytmliinglojmojaa", sum := "d07b5216e4242c19a964656a15eb165aca6521f1461eafa6df0064f2a6b4b010", func := "loop.example/kilnwind/laws.FnExactValidWorld", spec := "fnExactValidWorld", unfollowed := true, recurses := true, plainKeys := false, apart := false }
def FnExactValidWorldSaid : Prop := fnExactValidWorldRow.holds Try.pinned (OpenSpec.ofChange fnExactValidWorldSpec)

/-- ITS FALSE NEIGHBOUR: 'it returns false'. Refute it at one input. -/
def fnExactValidWorldWrong : ChangeSpec := { name := "fnExactValidWorld", fn := fun _ => fun
  | [d] => { results := [.lit (.bool false)], args := [d] }
  | _ => none }
def FnExactValidWorldWrongFalsely : Prop := fnExactValidWorldRow.holds Try.pinned (OpenSpec.ofChange fnExactValidWorldWrong)

/-- 'laws.FnExactRight': WHATEVER THE INPUT: true; the input reads as it did. -/
def fnExactRightSpec : ChangeSpec := { name := "fnExactRight", fn := fun _ => fun
  | [d] => { results := [.lit (.bool true)], args := [d] }
  | _ => none }
def fnExactRightRow : OpenClaim := { program := "ytmliinglojmojaa", sum := "d07b5216e4242c19a964656a15eb165aca6521f1461eafa6df0064f2a6b4b010", func := "loop.example/kilnwind/laws.FnExactRight", spec := "fnExactRight", unfollowed := true, recurses := true, plainKeys := false, apart := false }
def FnExactRightSaid : Prop := fnExactRightRow.holds Try.pinned (OpenSpec.ofChange fnExactRightSpec)

/-- ITS FALSE NEIGHBOUR: 'it returns false'. Refute it at one input. -/
def fnExactRightWrong : ChangeSpec := { name := "fnExactRight", fn := fun _ => fun
  | [d] => { results := [.lit (.bool false)], args := [d] }
  | _ => none }
def FnExactRightWrongFalsely : Prop := fnExactRightRow.holds Try.pinned (OpenSpec.ofChange fnExactRightWrong)

/- THE SECOND FORM. 'bulk': how many values and letters a reading holds, each counted each time it is reached (what is shared counts as often as it is met; a slice's spare places count too). A statement '..UptoSaid' is the law's where the arguments, and the package variables that the reading takes, are together of bulk at most 1048576: NARROWER than '..Said'. Prove '..Said' where nothing that the law and all that it calls make is longer than what came in: it says more and counts as full. Else prove '..UptoSaid'. A law counts once. -/
mutual
def uptoBulk {H : Type} : DataW H → Nat
  | .lit (.string bytes) => bytes.length + 1
  | .lit _ => 1
  | .nil => 1
  | .ptr d => uptoBulk d + 1
  | .slice elems spare => uptoBulkAll elems + uptoBulkAll spare + 1
  | .agg parts => uptoBulkAll parts + 1
  | .iface _ d => uptoBulk d + 1
  | .map entries => uptoBulkEntries entries + 1
  | .held _ => 1
def uptoBulkAll {H : Type} : List (DataW H) → Nat
  | [] => 0
  | d :: r => uptoBulk d + uptoBulkAll r
def uptoBulkEntries {H : Type} : List (Lit × DataW H) → Nat
  | [] => 0
  | x :: r => uptoBulkEntry x + uptoBulkEntries r
def uptoBulkEntry {H : Type} : Lit × DataW H → Nat
  | (.string bytes, d) => bytes.length + uptoBulk d + 1
  | (_, d) => uptoBulk d + 1
 end
def uptoSmall : (H : Type) → List (DataW H) → Bool := fun _ ds => decide (uptoBulkAll ds ≤ 1048576)
def OpenSpec.upto (s : _root_.Go.ChangeSpec) : _root_.Go.OpenSpec := { _root_.Go.OpenSpec.ofChange s with cond := some uptoSmall }

/-- 'laws.FnExactNewWorld', WHERE WHAT IT READS IS OF BULK AT MOST 1048576: true; the input reads as it did. -/
def fnExactNewWorldUptoRow : OpenClaim := { program := "ytmliinglojmojaa", sum := "d07b5216e4242c19a964656a15eb165aca6521f1461eafa6df0064f2a6b4b010", func := "loop.example/kilnwind/laws.FnExactNewWorld", spec := "fnExactNewWorld", plainKeys := false, apart := false, narrowed := true }
def FnExactNewWorldUptoSaid : Prop := fnExactNewWorldUptoRow.holds Try.pinned (OpenSpec.upto fnExactNewWorldSpec)

/-- 'laws.FnExactValidEnd', WHERE WHAT IT READS IS OF BULK AT MOST 1048576: true; the input reads as it did. -/
def fnExactValidEndUptoRow : OpenClaim := { program := "ytmliinglojmojaa", sum := "d07b5216e4242c19a964656a15eb165aca6521f1461eafa6df0064f2a6b4b010", func := "loop.example/kilnwind/laws.FnExactValidEnd", spec := "fnExactValidEnd", plainKeys := false, apart := false, narrowed := true }
def FnExactValidEndUptoSaid : Prop := fnExactValidEndUptoRow.holds Try.pinned (OpenSpec.upto fnExactValidEndSpec)

/-- 'laws.FnExactEndFall', WHERE WHAT IT READS IS OF BULK AT MOST 1048576: true; the input reads as it did. -/
def fnExactEndFallUptoRow : OpenClaim := { program := "ytmliinglojmojaa", sum := "d07b5216e4242c19a964656a15eb165aca6521f1461eafa6df0064f2a6b4b010", func := "loop.example/kilnwind/laws.FnExactEndFall", spec := "fnExactEndFall", plainKeys := false, apart := false, narrowed := true }
def FnExactEndFallUptoSaid : Prop := fnExactEndFallUptoRow.holds Try.pinned (OpenSpec.upto fnExactEndFallSpec)

/-- 'laws.FnExactEndRise', WHERE WHAT IT READS IS OF BULK AT MOST 1048576: true; the input reads as it did. -/
def fnExactEndRiseUptoRow : OpenClaim := { program := "ytmliinglojmojaa", sum := "d07b5216e4242c19a964656a15eb165aca6521f1461eafa6df0064f2a6b4b010", func := "loop.example/kilnwind/laws.FnExactEndRise", spec := "fnExactEndRise", plainKeys := false, apart := false, narrowed := true }
def FnExactEndRiseUptoSaid : Prop := fnExactEndRiseUptoRow.holds Try.pinned (OpenSpec.upto fnExactEndRiseSpec)

/-- 'laws.FnExactValidWorld', WHERE WHAT IT READS IS OF BULK AT MOST 1048576: true; the input reads as it did. -/
def fnExactValidWorldUptoRow : OpenClaim := { program := "ytmliinglojmojaa", sum := "d07b5216e4242c19a964656a15eb165aca6521f1461eafa6df0064f2a6b4b010", func := "loop.example/kilnwind/laws.FnExactValidWorld", spec := "fnExactValidWorld", unfollowed := true, recurses := true, plainKeys := false, apart := false, narrowed := true }
def FnExactValidWorldUptoSaid : Prop := fnExactValidWorldUptoRow.holds Try.pinned (OpenSpec.upto fnExactValidWorldSpec)

/-- 'laws.FnExactRight', WHERE WHAT IT READS IS OF BULK AT MOST 1048576: true; the input reads as it did. -/
def fnExactRightUptoRow : OpenClaim := { program := "ytmliinglojmojaa", sum := "d07b5216e4242c19a964656a15eb165aca6521f1461eafa6df0064f2a6b4b010", func := "loop.example/kilnwind/laws.FnExactRight", spec := "fnExactRight", unfollowed := true, recurses := true, plainKeys := false, apart := false, narrowed := true }
def FnExactRightUptoSaid : Prop := fnExactRightUptoRow.holds Try.pinned (OpenSpec.upto fnExactRightSpec)

end Rows
end Go.Proofs.Ytmliinglojmojaa

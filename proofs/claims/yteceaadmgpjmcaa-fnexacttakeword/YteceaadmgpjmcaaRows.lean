/-
  No cell of these rows narrows 'for every input' (looked for: loops, veiled, ifaces, maps, wideKeys, modest, calm, conditions, laid).
  DERIVED. THE GIVEN ROWS OF THIS SEAT. 6 by the template 'for every input the law returns true; each argument reads behind the call as it read before'; 0 by the template 'total and deterministic' (their statements: YteceaadmgpjmcaaTotals.lean).
  GIVEN WITH THE SEED: the statements are not yours to turn. If you find one false, say at which input.
  Laid BY PROGRAM, IN A SANDBOX (cutbox-rows.mjs): the forced cells as the released guide's own fill.sh prints them over the translation 3222358e4069a930… (all of the seat's roots in one cut). By AI agents, Wed Nov 11 2026. No macro, syntax, notation, axiom, sorry.
-/
import Derived.Test.YteceaadmgpjmcaaChecked
import GoSem.Claim
import GoSem.ClaimJoined
import GoSem.ClaimMapViews
import Derived.JoinedTies
import Derived.KernelRfl
namespace Go.Proofs.Yteceaadmgpjmcaa
/- THE CELL 'sum', in the pinned program and in every row, IS THE sha256 OF THE DUMP (.gsa) THAT YteceaadmgpjmcaaProg.lean LOADS. Nothing in Lean hashes anything: it is a label: what it is worth is what the hold of that sum in a sandbox is worth. -/
noncomputable def Try.pinned : Pinned := { name := "yteceaadmgpjmcaa", sum := "3222358e4069a930dd4a374dae65c3680914a96769fe5880575ee9d591eb3dda", checked := Try.checked }
namespace Rows
def none {H : Type} : Left H := { results := [], args := [] }

/-- 'laws.FnExactValidTake': WHATEVER THE INPUT: true; the input reads as it did. -/
def fnExactValidTakeSpec : ChangeSpec := { name := "fnExactValidTake", fn := fun _ => fun
  | [d] => { results := [.lit (.bool true)], args := [d] }
  | _ => none }
def fnExactValidTakeRow : OpenClaim := { program := "yteceaadmgpjmcaa", sum := "3222358e4069a930dd4a374dae65c3680914a96769fe5880575ee9d591eb3dda", func := "loop.example/kilnwind/laws.FnExactValidTake", spec := "fnExactValidTake", apart := false }
def FnExactValidTakeSaid : Prop := fnExactValidTakeRow.holds Try.pinned (OpenSpec.ofChange fnExactValidTakeSpec)

/-- ITS FALSE NEIGHBOUR: 'it returns false'. Refute it at one input. -/
def fnExactValidTakeWrong : ChangeSpec := { name := "fnExactValidTake", fn := fun _ => fun
  | [d] => { results := [.lit (.bool false)], args := [d] }
  | _ => none }
def FnExactValidTakeWrongFalsely : Prop := fnExactValidTakeRow.holds Try.pinned (OpenSpec.ofChange fnExactValidTakeWrong)

/-- 'laws.FnExactTakeWord': WHATEVER THE INPUT: true; the input reads as it did. -/
def fnExactTakeWordSpec : ChangeSpec := { name := "fnExactTakeWord", fn := fun _ => fun
  | [d] => { results := [.lit (.bool true)], args := [d] }
  | _ => none }
def fnExactTakeWordRow : OpenClaim := { program := "yteceaadmgpjmcaa", sum := "3222358e4069a930dd4a374dae65c3680914a96769fe5880575ee9d591eb3dda", func := "loop.example/kilnwind/laws.FnExactTakeWord", spec := "fnExactTakeWord", apart := false }
def FnExactTakeWordSaid : Prop := fnExactTakeWordRow.holds Try.pinned (OpenSpec.ofChange fnExactTakeWordSpec)

/-- ITS FALSE NEIGHBOUR: 'it returns false'. Refute it at one input. -/
def fnExactTakeWordWrong : ChangeSpec := { name := "fnExactTakeWord", fn := fun _ => fun
  | [d] => { results := [.lit (.bool false)], args := [d] }
  | _ => none }
def FnExactTakeWordWrongFalsely : Prop := fnExactTakeWordRow.holds Try.pinned (OpenSpec.ofChange fnExactTakeWordWrong)

/-- 'laws.FnExactNewEnd': WHATEVER THE INPUT: true; the input reads as it did. -/
def fnExactNewEndSpec : ChangeSpec := { name := "fnExactNewEnd", fn := fun _ => fun
  | [d] => { results := [.lit (.bool true)], args := [d] }
  | _ => none }
def fnExactNewEndRow : OpenClaim := { program := "yteceaadmgpjmcaa", sum := "3222358e4069a930dd4a374dae65c3680914a96769fe5880575ee9d591eb3dda", func := "loop.example/kilnwind/laws.FnExactNewEnd", spec := "fnExactNewEnd", apart := false }
def FnExactNewEndSaid : Prop := fnExactNewEndRow.holds Try.pinned (OpenSpec.ofChange fnExactNewEndSpec)

/-- ITS FALSE NEIGHBOUR: 'it returns false'. Refute it at one input. -/
def fnExactNewEndWrong : ChangeSpec := { name := "fnExactNewEnd", fn := fun _ => fun
  | [d] => { results := [.lit (.bool false)], args := [d] }
  | _ => none }
def FnExactNewEndWrongFalsely : Prop := fnExactNewEndRow.holds Try.pinned (OpenSpec.ofChange fnExactNewEndWrong)

/-- 'laws.FnExactSendPush': WHATEVER THE INPUT: true; the input reads as it did. -/
def fnExactSendPushSpec : ChangeSpec := { name := "fnExactSendPush", fn := fun _ => fun
  | [d1, d2] => { results := [.lit (.bool true)], args := [d1, d2] }
  | _ => none }
def fnExactSendPushRow : OpenClaim := { program := "yteceaadmgpjmcaa", sum := "3222358e4069a930dd4a374dae65c3680914a96769fe5880575ee9d591eb3dda", func := "loop.example/kilnwind/laws.FnExactSendPush", spec := "fnExactSendPush", unfollowed := true, recurses := true, apart := false }
def FnExactSendPushSaid : Prop := fnExactSendPushRow.holds Try.pinned (OpenSpec.ofChange fnExactSendPushSpec)

/-- ITS FALSE NEIGHBOUR: 'it returns false'. Refute it at one input. -/
def fnExactSendPushWrong : ChangeSpec := { name := "fnExactSendPush", fn := fun _ => fun
  | [d1, d2] => { results := [.lit (.bool false)], args := [d1, d2] }
  | _ => none }
def FnExactSendPushWrongFalsely : Prop := fnExactSendPushRow.holds Try.pinned (OpenSpec.ofChange fnExactSendPushWrong)

/-- 'laws.FnExactSendWord': WHATEVER THE INPUT: true; the input reads as it did. -/
def fnExactSendWordSpec : ChangeSpec := { name := "fnExactSendWord", fn := fun _ => fun
  | [d1, d2, d3] => { results := [.lit (.bool true)], args := [d1, d2, d3] }
  | _ => none }
def fnExactSendWordRow : OpenClaim := { program := "yteceaadmgpjmcaa", sum := "3222358e4069a930dd4a374dae65c3680914a96769fe5880575ee9d591eb3dda", func := "loop.example/kilnwind/laws.FnExactSendWord", spec := "fnExactSendWord", apart := false }
def FnExactSendWordSaid : Prop := fnExactSendWordRow.holds Try.pinned (OpenSpec.ofChange fnExactSendWordSpec)

/-- ITS FALSE NEIGHBOUR: 'it returns false'. Refute it at one input. -/
def fnExactSendWordWrong : ChangeSpec := { name := "fnExactSendWord", fn := fun _ => fun
  | [d1, d2, d3] => { results := [.lit (.bool false)], args := [d1, d2, d3] }
  | _ => none }
def FnExactSendWordWrongFalsely : Prop := fnExactSendWordRow.holds Try.pinned (OpenSpec.ofChange fnExactSendWordWrong)

/-- 'laws.FnExactSendTick': WHATEVER THE INPUT: true; the input reads as it did. -/
def fnExactSendTickSpec : ChangeSpec := { name := "fnExactSendTick", fn := fun _ => fun
  | [d] => { results := [.lit (.bool true)], args := [d] }
  | _ => none }
def fnExactSendTickRow : OpenClaim := { program := "yteceaadmgpjmcaa", sum := "3222358e4069a930dd4a374dae65c3680914a96769fe5880575ee9d591eb3dda", func := "loop.example/kilnwind/laws.FnExactSendTick", spec := "fnExactSendTick", apart := false }
def FnExactSendTickSaid : Prop := fnExactSendTickRow.holds Try.pinned (OpenSpec.ofChange fnExactSendTickSpec)

/-- ITS FALSE NEIGHBOUR: 'it returns false'. Refute it at one input. -/
def fnExactSendTickWrong : ChangeSpec := { name := "fnExactSendTick", fn := fun _ => fun
  | [d] => { results := [.lit (.bool false)], args := [d] }
  | _ => none }
def FnExactSendTickWrongFalsely : Prop := fnExactSendTickRow.holds Try.pinned (OpenSpec.ofChange fnExactSendTickWrong)

/- THE SECOND FORM. 'bulk': how many values and letters a reading holds, each counted each time it is reached (what is shared counts as often as it is met; a slice's spare places count too). A statement '..UptoSaid' is the law's where the arguments, and the package variables that the reading takes, are together of bulk at most 1048576: NARROWER than '..Said'. Prove '..Said' where nothing that the law and all that it calls make is longer than what came in: it says more and counts as full. Else prove '..UptoSaid'. A law counts once. -/
mutual
def uptoBulk {H : Type} : DataW H → Nat
  | .lit (.string bytes) => bytes.length + 1
  | .lit _ => 1
  | .nil => 1
  | .ptr d => uptoBulk d + 1
  | .slice elems spare => uptoBulkAll elems + uptoBulkAll spare + 1
  | .agg parts => uptoBulkAll parts + 1
  | .iface _ d => uptoBulk d + 1
  | .map entries => uptoBulkEntries entries + 1
  | .held _ => 1
def uptoBulkAll {H : Type} : List (DataW H) → Nat
  | [] => 0
  | d :: r => uptoBulk d + uptoBulkAll r
def uptoBulkEntries {H : Type} : List (Lit × DataW H) → Nat
  | [] => 0
  | x :: r => uptoBulkEntry x + uptoBulkEntries r
def uptoBulkEntry {H : Type} : Lit × DataW H → Nat
  | (.string bytes, d) => bytes.length + uptoBulk d + 1
  | (_, d) => uptoBulk d + 1
 end
def uptoSmall : (H : Type) → List (DataW H) → Bool := fun _ ds => decide (uptoBulkAll ds ≤ 1048576)
def OpenSpec.upto (s : _root_.Go.ChangeSpec) : _root_.Go.OpenSpec := { _root_.Go.OpenSpec.ofChange s with cond := some uptoSmall }

/-- 'laws.FnExactValidTake', WHERE WHAT IT READS IS OF BULK AT MOST 1048576: true; the input reads as it did. -/
def fnExactValidTakeUptoRow : OpenClaim := { program := "yteceaadmgpjmcaa", sum := "3222358e4069a930dd4a374dae65c3680914a96769fe5880575ee9d591eb3dda", func := "loop.example/kilnwind/laws.FnExactValidTake", spec := "fnExactValidTake", apart := false, narrowed := true }
def FnExactValidTakeUptoSaid : Prop := fnExactValidTakeUptoRow.holds Try.pinned (OpenSpec.upto fnExactValidTakeSpec)

/-- 'laws.FnExactTakeWord', WHERE WHAT IT READS IS OF BULK AT MOST 1048576: true; the input reads as it did. -/
def fnExactTakeWordUptoRow : OpenClaim := { program := "yteceaadmgpjmcaa", sum := "3222358e4069a930dd4a374dae65c3680914a96769fe5880575ee9d591eb3dda", func := "loop.example/kilnwind/laws.FnExactTakeWord", spec := "fnExactTakeWord", apart := false, narrowed := true }
def FnExactTakeWordUptoSaid : Prop := fnExactTakeWordUptoRow.holds Try.pinned (OpenSpec.upto fnExactTakeWordSpec)

/-- 'laws.FnExactNewEnd', WHERE WHAT IT READS IS OF BULK AT MOST 1048576: true; the input reads as it did. -/
def fnExactNewEndUptoRow : OpenClaim := { program := "yteceaadmgpjmcaa", sum := "3222358e4069a930dd4a374dae65c3680914a96769fe5880575ee9d591eb3dda", func := "loop.example/kilnwind/laws.FnExactNewEnd", spec := "fnExactNewEnd", apart := false, narrowed := true }
def FnExactNewEndUptoSaid : Prop := fnExactNewEndUptoRow.holds Try.pinned (OpenSpec.upto fnExactNewEndSpec)

/-- 'laws.FnExactSendPush', WHERE WHAT IT READS IS OF BULK AT MOST 1048576: true; the input reads as it did. -/
def fnExactSendPushUptoRow : OpenClaim := { program := "yteceaadmgpjmcaa", sum := "3222358e4069a930dd4a374dae65c3680914a96769fe5880575ee9d591eb3dda", func := "loop.example/kilnwind/laws.FnExactSendPush", spec := "fnExactSendPush", unfollowed := true, recurses := true, apart := false, narrowed := true }
def FnExactSendPushUptoSaid : Prop := fnExactSendPushUptoRow.holds Try.pinned (OpenSpec.upto fnExactSendPushSpec)

/-- 'laws.FnExactSendWord', WHERE WHAT IT READS IS OF BULK AT MOST 1048576: true; the input reads as it did. -/
def fnExactSendWordUptoRow : OpenClaim := { program := "yteceaadmgpjmcaa", sum := "3222358e4069a930dd4a374dae65c3680914a96769fe5880575ee9d591eb3dda", func := "loop.example/kilnwind/laws.FnExactSendWord", spec := "fnExactSendWord", apart := false, narrowed := true }
def FnExactSendWordUptoSaid : Prop := fnExactSendWordUptoRow.holds Try.pinned (OpenSpec.upto fnExactSendWordSpec)

/-- 'laws.FnExactSendTick', WHERE WHAT IT READS IS OF BULK AT MOST 1048576: true; the input reads as it did. -/
def fnExactSendTickUptoRow : OpenClaim := { program := "yteceaadmgpjmcaa", sum := "3222358e4069a930dd4a374dae65c3680914a96769fe5880575ee9d591eb3dda", func := "loop.example/kilnwind/laws.FnExactSendTick", spec := "fnExactSendTick", apart := false, narrowed := true }
def FnExactSendTickUptoSaid : Prop := fnExactSendTickUptoRow.holds Try.pinned (OpenSpec.upto fnExactSendTickSpec)

end Rows
end Go.Proofs.Yteceaadmgpjmcaa

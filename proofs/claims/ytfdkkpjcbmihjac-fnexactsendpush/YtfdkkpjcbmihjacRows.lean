/-
  No cell of these rows narrows 'for every input' (looked for: loops, veiled, ifaces, maps, wideKeys, modest, calm, conditions, laid).
  DERIVED. THE GIVEN ROWS OF THIS SEAT. 5 by the template 'for every input the law returns true; each argument reads behind the call as it read before'; 0 by the template 'total and deterministic' (their statements: YtfdkkpjcbmihjacTotals.lean).
  GIVEN WITH THE SEED: the statements are not yours to turn. If you find one false, say at which input.
  Laid BY PROGRAM, IN A SANDBOX (cutbox-rows.mjs): the forced cells as the released guide's own fill.sh prints them over the translation 961cf07f63d004a8… (all of the seat's roots in one cut). By AI agents, Wed Nov 11 2026. No macro, syntax, notation, axiom, sorry.
-/
import Derived.Test.YtfdkkpjcbmihjacChecked
import GoSem.Claim
import GoSem.ClaimJoined
import GoSem.ClaimMapViews
import Derived.JoinedTies
import Derived.KernelRfl
namespace Go.Proofs.Ytfdkkpjcbmihjac
/- THE CELL 'sum', in the pinned program and in every row, IS THE sha256 OF THE DUMP (.gsa) THAT YtfdkkpjcbmihjacProg.lean LOADS. Nothing in Lean hashes anything: it is a label: what it is worth is what the hold of that sum in a sandbox is worth. -/
noncomputable def Try.pinned : Pinned := { name := "ytfdkkpjcbmihjac", sum := "961cf07f63d004a81ad17b9224b49007f26f619447f0aef762310cbfbf775a62", checked := Try.checked }
namespace Rows
def none {H : Type} : Left H := { results := [], args := [] }

/-- 'laws.FnExactSendPush': WHATEVER THE INPUT: true; the input reads as it did. -/
def fnExactSendPushSpec : ChangeSpec := { name := "fnExactSendPush", fn := fun _ => fun
  | [d1, d2] => { results := [.lit (.bool true)], args := [d1, d2] }
  | _ => none }
def fnExactSendPushRow : OpenClaim := { program := "ytfdkkpjcbmihjac", sum := "961cf07f63d004a81ad17b9224b49007f26f619447f0aef762310cbfbf775a62", func := "loop.example/kilnwind/laws.FnExactSendPush", spec := "fnExactSendPush", unfollowed := true, recurses := true, apart := false }
def FnExactSendPushSaid : Prop := fnExactSendPushRow.holds Try.pinned (OpenSpec.ofChange fnExactSendPushSpec)

/-- ITS FALSE NEIGHBOUR: 'it returns false'. Refute it at one input. -/
def fnExactSendPushWrong : ChangeSpec := { name := "fnExactSendPush", fn := fun _ => fun
  | [d1, d2] => { results := [.lit (.bool false)], args := [d1, d2] }
  | _ => none }
def FnExactSendPushWrongFalsely : Prop := fnExactSendPushRow.holds Try.pinned (OpenSpec.ofChange fnExactSendPushWrong)

/-- 'laws.FnExactSendWord': WHATEVER THE INPUT: true; the input reads as it did. -/
def fnExactSendWordSpec : ChangeSpec := { name := "fnExactSendWord", fn := fun _ => fun
  | [d1, d2, d3] => { results := [.lit (.bool true)], args := [d1, d2, d3] }
  | _ => none }
def fnExactSendWordRow : OpenClaim := { program := "ytfdkkpjcbmihjac", sum := "961cf07f63d004a81ad17b9224b49007f26f619447f0aef762310cbfbf775a62", func := "loop.example/kilnwind/laws.FnExactSendWord", spec := "fnExactSendWord", apart := false }
def FnExactSendWordSaid : Prop := fnExactSendWordRow.holds Try.pinned (OpenSpec.ofChange fnExactSendWordSpec)

/-- ITS FALSE NEIGHBOUR: 'it returns false'. Refute it at one input. -/
def fnExactSendWordWrong : ChangeSpec := { name := "fnExactSendWord", fn := fun _ => fun
  | [d1, d2, d3] => { results := [.lit (.bool false)], args := [d1, d2, d3] }
  | _ => none }
def FnExactSendWordWrongFalsely : Prop := fnExactSendWordRow.holds Try.pinned (OpenSpec.ofChange fnExactSendWordWrong)

/-- 'laws.FnExactSendTick': WHATEVER THE INPUT: true; the input reads as it did. -/
def fnExactSendTickSpec : ChangeSpec := { name := "fnExactSendTick", fn := fun _ => fun
  | [d] => { results := [.lit (.bool true)], args := [d] }
  | _ => none }
def fnExactSendTickRow : OpenClaim := { program := "ytfdkkpjcbmihjac", sum := "961cf07f63d004a81ad17b9224b49007f26f619447f0aef762310cbfbf775a62", func := "loop.example/kilnwind/laws.FnExactSendTick", spec := "fnExactSendTick", apart := false }
def FnExactSendTickSaid : Prop := fnExactSendTickRow.holds Try.pinned (OpenSpec.ofChange fnExactSendTickSpec)

/-- ITS FALSE NEIGHBOUR: 'it returns false'. Refute it at one input. -/
def fnExactSendTickWrong : ChangeSpec := { name := "fnExactSendTick", fn := fun _ => fun
  | [d] => { results := [.lit (.bool false)], args := [d] }
  | _ => none }
def FnExactSendTickWrongFalsely : Prop := fnExactSendTickRow.holds Try.pinned (OpenSpec.ofChange fnExactSendTickWrong)

/-- 'laws.FnExactTakePart': WHATEVER THE INPUT: true; the input reads as it did. -/
def fnExactTakePartSpec : ChangeSpec := { name := "fnExactTakePart", fn := fun _ => fun
  | [d1, d2, d3] => { results := [.lit (.bool true)], args := [d1, d2, d3] }
  | _ => none }
def fnExactTakePartRow : OpenClaim := { program := "ytfdkkpjcbmihjac", sum := "961cf07f63d004a81ad17b9224b49007f26f619447f0aef762310cbfbf775a62", func := "loop.example/kilnwind/laws.FnExactTakePart", spec := "fnExactTakePart", apart := false }
def FnExactTakePartSaid : Prop := fnExactTakePartRow.holds Try.pinned (OpenSpec.ofChange fnExactTakePartSpec)

/-- ITS FALSE NEIGHBOUR: 'it returns false'. Refute it at one input. -/
def fnExactTakePartWrong : ChangeSpec := { name := "fnExactTakePart", fn := fun _ => fun
  | [d1, d2, d3] => { results := [.lit (.bool false)], args := [d1, d2, d3] }
  | _ => none }
def FnExactTakePartWrongFalsely : Prop := fnExactTakePartRow.holds Try.pinned (OpenSpec.ofChange fnExactTakePartWrong)

/-- 'laws.FnExactTakePull': WHATEVER THE INPUT: true; the input reads as it did. -/
def fnExactTakePullSpec : ChangeSpec := { name := "fnExactTakePull", fn := fun _ => fun
  | [d] => { results := [.lit (.bool true)], args := [d] }
  | _ => none }
def fnExactTakePullRow : OpenClaim := { program := "ytfdkkpjcbmihjac", sum := "961cf07f63d004a81ad17b9224b49007f26f619447f0aef762310cbfbf775a62", func := "loop.example/kilnwind/laws.FnExactTakePull", spec := "fnExactTakePull", apart := false }
def FnExactTakePullSaid : Prop := fnExactTakePullRow.holds Try.pinned (OpenSpec.ofChange fnExactTakePullSpec)

/-- ITS FALSE NEIGHBOUR: 'it returns false'. Refute it at one input. -/
def fnExactTakePullWrong : ChangeSpec := { name := "fnExactTakePull", fn := fun _ => fun
  | [d] => { results := [.lit (.bool false)], args := [d] }
  | _ => none }
def FnExactTakePullWrongFalsely : Prop := fnExactTakePullRow.holds Try.pinned (OpenSpec.ofChange fnExactTakePullWrong)

/- THE SECOND FORM. 'bulk': how many values and letters a reading holds, each counted each time it is reached (what is shared counts as often as it is met; a slice's spare places count too). A statement '..UptoSaid' is the law's where the arguments, and the package variables that the reading takes, are together of bulk at most 1048576: NARROWER than '..Said'. Prove '..Said' where nothing that the law and all that it calls make is longer than what came in: it says more and counts as full. Else prove '..UptoSaid'. A law counts once. -/
mutual
def uptoBulk {H : Type} : DataW H → Nat
  | .lit (.string bytes) => bytes.length + 1
  | .lit _ => 1
  | .nil => 1
  | .ptr d => uptoBulk d + 1
  | .slice elems spare => uptoBulkAll elems + uptoBulkAll spare + 1
  | .agg parts => uptoBulkAll parts + 1
  | .iface _ d => uptoBulk d + 1
  | .map entries => uptoBulkEntries entries + 1
  | .held _ => 1
def uptoBulkAll {H : Type} : List (DataW H) → Nat
  | [] => 0
  | d :: r => uptoBulk d + uptoBulkAll r
def uptoBulkEntries {H : Type} : List (Lit × DataW H) → Nat
  | [] => 0
  | x :: r => uptoBulkEntry x + uptoBulkEntries r
def uptoBulkEntry {H : Type} : Lit × DataW H → Nat
  | (.string bytes, d) => bytes.length + uptoBulk d + 1
  | (_, d) => uptoBulk d + 1
 end
def uptoSmall : (H : Type) → List (DataW H) → Bool := fun _ ds => decide (uptoBulkAll ds ≤ 1048576)
def OpenSpec.upto (s : _root_.Go.ChangeSpec) : _root_.Go.OpenSpec := { _root_.Go.OpenSpec.ofChange s with cond := some uptoSmall }

/-- 'laws.FnExactSendPush', WHERE WHAT IT READS IS OF BULK AT MOST 1048576: true; the input reads as it did. -/
def fnExactSendPushUptoRow : OpenClaim := { program := "ytfdkkpjcbmihjac", sum := "961cf07f63d004a81ad17b9224b49007f26f619447f0aef762310cbfbf775a62", func := "loop.example/kilnwind/laws.FnExactSendPush", spec := "fnExactSendPush", unfollowed := true, recurses := true, apart := false, narrowed := true }
def FnExactSendPushUptoSaid : Prop := fnExactSendPushUptoRow.holds Try.pinned (OpenSpec.upto fnExactSendPushSpec)

/-- 'laws.FnExactSendWord', WHERE WHAT IT READS IS OF BULK AT MOST 1048576: true; the input reads as it did. -/
def fnExactSendWordUptoRow : OpenClaim := { program := "ytfdkkpjcbmihjac", sum := "961cf07f63d004a81ad17b9224b49007f26f619447f0aef762310cbfbf775a62", func := "loop.example/kilnwind/laws.FnExactSendWord", spec := "fnExactSendWord", apart := false, narrowed := true }
def FnExactSendWordUptoSaid : Prop := fnExactSendWordUptoRow.holds Try.pinned (OpenSpec.upto fnExactSendWordSpec)

/-- 'laws.FnExactSendTick', WHERE WHAT IT READS IS OF BULK AT MOST 1048576: true; the input reads as it did. -/
def fnExactSendTickUptoRow : OpenClaim := { program := "ytfdkkpjcbmihjac", sum := "961cf07f63d004a81ad17b9224b49007f26f619447f0aef762310cbfbf775a62", func := "loop.example/kilnwind/laws.FnExactSendTick", spec := "fnExactSendTick", apart := false, narrowed := true }
def FnExactSendTickUptoSaid : Prop := fnExactSendTickUptoRow.holds Try.pinned (OpenSpec.upto fnExactSendTickSpec)

/-- 'laws.FnExactTakePart', WHERE WHAT IT READS IS OF BULK AT MOST 1048576: true; the input reads as it did. -/
def fnExactTakePartUptoRow : OpenClaim := { program := "ytfdkkpjcbmihjac", sum := "961cf07f63d004a81ad17b9224b49007f26f619447f0aef762310cbfbf775a62", func := "loop.example/kilnwind/laws.FnExactTakePart", spec := "fnExactTakePart", apart := false, narrowed := true }
def FnExactTakePartUptoSaid : Prop := fnExactTakePartUptoRow.holds Try.pinned (OpenSpec.upto fnExactTakePartSpec)

/-- 'laws.FnExactTakePull', WHERE WHAT IT READS IS OF BULK AT MOST 1048576: true; the input reads as it did. -/
def fnExactTakePullUptoRow : OpenClaim := { program := "ytfdkkpjcbmihjac", sum := "961cf07f63d004a81ad17b9224b49007f26f619447f0aef762310cbfbf775a62", func := "loop.example/kilnwind/laws.FnExactTakePull", spec := "fnExactTakePull", apart := false, narrowed := true }
def FnExactTakePullUptoSaid : Prop := fnExactTakePullUptoRow.holds Try.pinned (OpenSpec.upto fnExactTakePullSpec)

end Rows
end Go.Proofs.Ytfdkkpjcbmihjac

/-
  No cell of these rows narrows 'for every input' (looked for: loops, veiled, ifaces, maps, wideKeys, modest, calm, conditions, laid).
  DERIVED. THE GIVEN ROWS OF THIS SEAT. 4 by the template 'for every input the law returns true; each argument reads behind the call as it read before'; 0 by the template 'total and deterministic' (their statements: YthjncmgjkejikaaTotals.lean).
  GIVEN WITH THE SEED: the statements are not yours to turn. If you find one false, say at which input.
  Laid BY PROGRAM, IN A SANDBOX (cutbox-rows.mjs): the forced cells as the released guide's own fill.sh prints them over the translation 6e5cb5af062fc0a3… (all of the seat's roots in one cut). By AI agents, Wed Nov 11 2026. No macro, syntax, notation, axiom, sorry.
-/
import Derived.Test.YthjncmgjkejikaaChecked
import GoSem.Claim
import GoSem.ClaimJoined
import GoSem.ClaimMapViews
import Derived.JoinedTies
import Derived.KernelRfl
namespace Go.Proofs.Ythjncmgjkejikaa
/- THE CELL 'sum', in the pinned program and in every row, IS THE sha256 OF THE DUMP (.gsa) THAT YthjncmgjkejikaaProg.lean LOADS. Nothing in Lean hashes anything: it is a label: what it is worth is what the hold of that sum in a sandbox is worth. -/
noncomputable def Try.pinned : Pinned := { name := "ythjncmgjkejikaa", sum := "6e5cb5af062fc0a3202fb1295c1a8750616b4b609f9a4b7b441f68490ec8acc3", checked := Try.checked }
namespace Rows
def none {H : Type} : Left H := { results := [], args := [] }

/-- 'laws.FnExactTakePull': WHATEVER THE INPUT: true; the input reads as it did. -/
def fnExactTakePullSpec : ChangeSpec := { name := "fnExactTakePull", fn := fun _ => fun
  | [d] => { results := [.lit (.bool true)], args := [d] }
  | _ => none }
def fnExactTakePullRow : OpenClaim := { program := "ythjncmgjkejikaa", sum := "6e5cb5af062fc0a3202fb1295c1a8750616b4b609f9a4b7b441f68490ec8acc3", func := "loop.example/kilnwind/laws.FnExactTakePull", spec := "fnExactTakePull", apart := false }
def FnExactTakePullSaid : Prop := fnExactTakePullRow.holds Try.pinned (OpenSpec.ofChange fnExactTakePullSpec)

/-- ITS FALSE NEIGHBOUR: 'it returns false'. Refute it at one input. -/
def fnExactTakePullWrong : ChangeSpec := { name := "fnExactTakePull", fn := fun _ => fun
  | [d] => { results := [.lit (.bool false)], args := [d] }
  | _ => none }
def FnExactTakePullWrongFalsely : Prop := fnExactTakePullRow.holds Try.pinned (OpenSpec.ofChange fnExactTakePullWrong)

/-- 'laws.FnExactEndRise': WHATEVER THE INPUT: true; the input reads as it did. -/
def fnExactEndRiseSpec : ChangeSpec := { name := "fnExactEndRise", fn := fun _ => fun
  | [d] => { results := [.lit (.bool true)], args := [d] }
  | _ => none }
def fnExactEndRiseRow : OpenClaim := { program := "ythjncmgjkejikaa", sum := "6e5cb5af062fc0a3202fb1295c1a8750616b4b609f9a4b7b441f68490ec8acc3", func := "loop.example/kilnwind/laws.FnExactEndRise", spec := "fnExactEndRise", apart := false }
def FnExactEndRiseSaid : Prop := fnExactEndRiseRow.holds Try.pinned (OpenSpec.ofChange fnExactEndRiseSpec)

/-- ITS FALSE NEIGHBOUR: 'it returns false'. Refute it at one input. -/
def fnExactEndRiseWrong : ChangeSpec := { name := "fnExactEndRise", fn := fun _ => fun
  | [d] => { results := [.lit (.bool false)], args := [d] }
  | _ => none }
def FnExactEndRiseWrongFalsely : Prop := fnExactEndRiseRow.holds Try.pinned (OpenSpec.ofChange fnExactEndRiseWrong)

/-- 'laws.FnExactEndPush': WHATEVER THE INPUT: true; the input reads as it did. -/
def fnExactEndPushSpec : ChangeSpec := { name := "fnExactEndPush", fn := fun _ => fun
  | [d1, d2] => { results := [.lit (.bool true)], args := [d1, d2] }
  | _ => none }
def fnExactEndPushRow : OpenClaim := { program := "ythjncmgjkejikaa", sum := "6e5cb5af062fc0a3202fb1295c1a8750616b4b609f9a4b7b441f68490ec8acc3", func := "loop.example/kilnwind/laws.FnExactEndPush", spec := "fnExactEndPush", unfollowed := true, recurses := true, apart := false }
def FnExactEndPushSaid : Prop := fnExactEndPushRow.holds Try.pinned (OpenSpec.ofChange fnExactEndPushSpec)

/-- ITS FALSE NEIGHBOUR: 'it returns false'. Refute it at one input. -/
def fnExactEndPushWrong : ChangeSpec := { name := "fnExactEndPush", fn := fun _ => fun
  | [d1, d2] => { results := [.lit (.bool false)], args := [d1, d2] }
  | _ => none }
def FnExactEndPushWrongFalsely : Prop := fnExactEndPushRow.holds Try.pinned (OpenSpec.ofChange fnExactEndPushWrong)

/-- 'laws.FnExactEndPull': WHATEVER THE INPUT: true; the input reads as it did. -/
def fnExactEndPullSpec : ChangeSpec := { name := "fnExactEndPull", fn := fun _ => fun
  | [d] => { results := [.lit (.bool true)], args := [d] }
  | _ => none }
def fnExactEndPullRow : OpenClaim := { program := "ythjncmgjkejikaa", sum := "6e5cb5af062fc0a3202fb1295c1a8750616b4b609f9a4b7b441f68490ec8acc3", func := "loop.example/kilnwind/laws.FnExactEndPull", spec := "fnExactEndPull", apart := false }
def FnExactEndPullSaid : Prop := fnExactEndPullRow.holds Try.pinned (OpenSpec.ofChange fnExactEndPullSpec)

/-- ITS FALSE NEIGHBOUR: 'it returns false'. Refute it at one input. -/
def fnExactEndPullWrong : ChangeSpec := { name := "fnExactEndPull", fn := fun _ => fun
  | [d] => { results := [.lit (.bool false)], args := [d] }
  | _ => none }
def FnExactEndPullWrongFalsely : Prop := fnExactEndPullRow.holds Try.pinned (OpenSpec.ofChange fnExactEndPullWrong)

/- THE SECOND FORM. 'bulk': how many values and letters a reading holds, each counted each time it is reached (what is shared counts as often as it is met; a slice's spare places count too). A statement '..UptoSaid' is the law's where the arguments, and the package variables that the reading takes, are together of bulk at most 1048576: NARROWER than '..Said'. Prove '..Said' where nothing that the law and all that it calls make is longer than what came in: it says more and counts as full. Else prove '..UptoSaid'. A law counts once. -/
mutual
def uptoBulk {H : Type} : DataW H → Nat
  | .lit (.string bytes) => bytes.length + 1
  | .lit _ => 1
  | .nil => 1
  | .ptr d => uptoBulk d + 1
  | .slice elems spare => uptoBulkAll elems + uptoBulkAll spare + 1
  | .agg parts => uptoBulkAll parts + 1
  | .iface _ d => uptoBulk d + 1
  | .map entries => uptoBulkEntries entries + 1
  | .held _ => 1
def uptoBulkAll {H : Type} : List (DataW H) → Nat
  | [] => 0
  | d :: r => uptoBulk d + uptoBulkAll r
def uptoBulkEntries {H : Type} : List (Lit × DataW H) → Nat
  | [] => 0
  | x :: r => uptoBulkEntry x + uptoBulkEntries r
def uptoBulkEntry {H : Type} : Lit × DataW H → Nat
  | (.string bytes, d) => bytes.length + uptoBulk d + 1
  | (_, d) => uptoBulk d + 1
 end
def uptoSmall : (H : Type) → List (DataW H) → Bool := fun _ ds => decide (uptoBulkAll ds ≤ 1048576)
def OpenSpec.upto (s : _root_.Go.ChangeSpec) : _root_.Go.OpenSpec := { _root_.Go.OpenSpec.ofChange s with cond := some uptoSmall }

/-- 'laws.FnExactTakePull', WHERE WHAT IT READS IS OF BULK AT MOST 1048576: true; the input reads as it did. -/
def fnExactTakePullUptoRow : OpenClaim := { program := "ythjncmgjkejikaa", sum := "6e5cb5af062fc0a3202fb1295c1a8750616b4b609f9a4b7b441f68490ec8acc3", func := "loop.example/kilnwind/laws.FnExactTakePull", spec := "fnExactTakePull", apart := false, narrowed := true }
def FnExactTakePullUptoSaid : Prop := fnExactTakePullUptoRow.holds Try.pinned (OpenSpec.upto fnExactTakePullSpec)

/-- 'laws.FnExactEndRise', WHERE WHAT IT READS IS OF BULK AT MOST 1048576: true; the input reads as it did. -/
def fnExactEndRiseUptoRow : OpenClaim := { program := "ythjncmgjkejikaa", sum := "6e5cb5af062fc0a3202fb1295c1a8750616b4b609f9a4b7b441f68490ec8acc3", func := "loop.example/kilnwind/laws.FnExactEndRise", spec := "fnExactEndRise", apart := false, narrowed := true }
def FnExactEndRiseUptoSaid : Prop := fnExactEndRiseUptoRow.holds Try.pinned (OpenSpec.upto fnExactEndRiseSpec)

/-- 'laws.FnExactEndPush', WHERE WHAT IT READS IS OF BULK AT MOST 1048576: true; the input reads as it did. -/
def fnExactEndPushUptoRow : OpenClaim := { program := "ythjncmgjkejikaa", sum := "6e5cb5af062fc0a3202fb1295c1a8750616b4b609f9a4b7b441f68490ec8acc3", func := "loop.example/kilnwind/laws.FnExactEndPush", spec := "fnExactEndPush", unfollowed := true, recurses := true, apart := false, narrowed := true }
def FnExactEndPushUptoSaid : Prop := fnExactEndPushUptoRow.holds Try.pinned (OpenSpec.upto fnExactEndPushSpec)

/-- 'laws.FnExactEndPull', WHERE WHAT IT READS IS OF BULK AT MOST 1048576: true; the input reads as it did. -/
def fnExactEndPullUptoRow : OpenClaim := { program := "ythjncmgjkejikaa", sum := "6e5cb5af062fc0a3202fb1295c1a8750616b4b609f9a4b7b441f68490ec8acc3", func := "loop.example/kilnwind/laws.FnExactEndPull", spec := "fnExactEndPull", apart := false, narrowed := true }
def FnExactEndPullUptoSaid : Prop := fnExactEndPullUptoRow.holds Try.pinned (OpenSpec.upto fnExactEndPullSpec)

end Rows
end Go.Proofs.Ythjncmgjkejikaa

/-
  No cell of these rows narrows 'for every input' (looked for: loops, veiled, ifaces, maps, wideKeys, modest, calm, conditions, laid).
  DERIVED. THE GIVEN ROWS OF THIS SEAT. 6 by the template 'for every input the law returns true; each argument reads behind the call as it read before'; 0 by the template 'total and deterministic' (their statements: YtdmlhfbnhhafmaaTotals.lean).
  GIVEN WITH THE SEED: the statements are not yours to turn. If you find one false, say at which input.
  Laid BY PROGRAM, IN A SANDBOX (cutbox-rows.mjs): the forced cells as the released guide's own fill.sh prints them over the translation b13ba8868ece6319… (all of the seat's roots in one cut). By AI agents, Wed Nov 11 2026. No macro, syntax, notation, axiom, sorry.
-/
import Derived.Test.YtdmlhfbnhhafmaaChecked
import GoSem.Claim
import GoSem.ClaimJoined
import GoSem.ClaimMapViews
import Derived.JoinedTies
import Derived.KernelRfl
namespace Go.Proofs.Ytdmlhfbnhhafmaa
/- THE CELL 'sum', in the pinned program and in every row, IS THE sha256 OF THE DUMP (.gsa) THAT YtdmlhfbnhhafmaaProg.lean LOADS. Nothing in Lean hashes anything: it is a label: what it is worth is what the hold of that sum in a sandbox is worth. -/
noncomputable def Try.pinned : Pinned := { name := "ytdmlhfbnhhafmaa", sum := "b13ba8868ece6319a795e3976dda4ccb44211b92fbfccf6daab602ed0a6c370b", checked := Try.checked }
namespace Rows
def none {H : Type} : Left H := { results := [], args := [] }

/-- 'laws.FnExactTag': WHATEVER THE INPUT: true; the input reads as it did. -/
def fnExactTagSpec : ChangeSpec := { name := "fnExactTag", fn := fun _ => fun
  | [d1, d2, d3] => { results := [.lit (.bool true)], args := [d1, d2, d3] }
  | _ => none }
def fnExactTagRow : OpenClaim := { program := "ytdmlhfbnhhafmaa", sum := "b13ba8868ece6319a795e3976dda4ccb44211b92fbfccf6daab602ed0a6c370b", func := "loop.example/kilnwind/laws.FnExactTag", spec := "fnExactTag", apart := false }
def FnExactTagSaid : Prop := fnExactTagRow.holds Try.pinned (OpenSpec.ofChange fnExactTagSpec)

/-- ITS FALSE NEIGHBOUR: 'it returns false'. Refute it at one input. -/
def fnExactTagWrong : ChangeSpec := { name := "fnExactTag", fn := fun _ => fun
  | [d1, d2, d3] => { results := [.lit (.bool false)], args := [d1, d2, d3] }
  | _ => none }
def FnExactTagWrongFalsely : Prop := fnExactTagRow.holds Try.pinned (OpenSpec.ofChange fnExactTagWrong)

/-- 'laws.FnExactCut': WHATEVER THE INPUT: true; the input reads as it did. -/
def fnExactCutSpec : ChangeSpec := { name := "fnExactCut", fn := fun _ => fun
  | [d] => { results := [.lit (.bool true)], args := [d] }
  | _ => none }
def fnExactCutRow : OpenClaim := { program := "ytdmlhfbnhhafmaa", sum := "b13ba8868ece6319a795e3976dda4ccb44211b92fbfccf6daab602ed0a6c370b", func := "loop.example/kilnwind/laws.FnExactCut", spec := "fnExactCut", unfollowed := true, recurses := true, apart := false }
def FnExactCutSaid : Prop := fnExactCutRow.holds Try.pinned (OpenSpec.ofChange fnExactCutSpec)

/-- ITS FALSE NEIGHBOUR: 'it returns false'. Refute it at one input. -/
def fnExactCutWrong : ChangeSpec := { name := "fnExactCut", fn := fun _ => fun
  | [d] => { results := [.lit (.bool false)], args := [d] }
  | _ => none }
def FnExactCutWrongFalsely : Prop := fnExactCutRow.holds Try.pinned (OpenSpec.ofChange fnExactCutWrong)

/-- 'laws.FnParts': WHATEVER THE INPUT: true; the input reads as it did. -/
def fnPartsSpec : ChangeSpec := { name := "fnParts", fn := fun _ => fun
  | [d1, d2] => { results := [.lit (.bool true)], args := [d1, d2] }
  | _ => none }
def fnPartsRow : OpenClaim := { program := "ytdmlhfbnhhafmaa", sum := "b13ba8868ece6319a795e3976dda4ccb44211b92fbfccf6daab602ed0a6c370b", func := "loop.example/kilnwind/laws.FnParts", spec := "fnParts", unfollowed := true, recurses := true, apart := false }
def FnPartsSaid : Prop := fnPartsRow.holds Try.pinned (OpenSpec.ofChange fnPartsSpec)

/-- ITS FALSE NEIGHBOUR: 'it returns false'. Refute it at one input. -/
def fnPartsWrong : ChangeSpec := { name := "fnParts", fn := fun _ => fun
  | [d1, d2] => { results := [.lit (.bool false)], args := [d1, d2] }
  | _ => none }
def FnPartsWrongFalsely : Prop := fnPartsRow.holds Try.pinned (OpenSpec.ofChange fnPartsWrong)

/-- 'laws.FnExactJoin': WHATEVER THE INPUT: true; the input reads as it did. -/
def fnExactJoinSpec : ChangeSpec := { name := "fnExactJoin", fn := fun _ => fun
  | [d] => { results := [.lit (.bool true)], args := [d] }
  | _ => none }
def fnExactJoinRow : OpenClaim := { program := "ytdmlhfbnhhafmaa", sum := "b13ba8868ece6319a795e3976dda4ccb44211b92fbfccf6daab602ed0a6c370b", func := "loop.example/kilnwind/laws.FnExactJoin", spec := "fnExactJoin", apart := false }
def FnExactJoinSaid : Prop := fnExactJoinRow.holds Try.pinned (OpenSpec.ofChange fnExactJoinSpec)

/-- ITS FALSE NEIGHBOUR: 'it returns false'. Refute it at one input. -/
def fnExactJoinWrong : ChangeSpec := { name := "fnExactJoin", fn := fun _ => fun
  | [d] => { results := [.lit (.bool false)], args := [d] }
  | _ => none }
def FnExactJoinWrongFalsely : Prop := fnExactJoinRow.holds Try.pinned (OpenSpec.ofChange fnExactJoinWrong)

/-- 'laws.FnExactFormPacket': WHATEVER THE INPUT: true; the input reads as it did. -/
def fnExactFormPacketSpec : ChangeSpec := { name := "fnExactFormPacket", fn := fun _ => fun
  | [d1, d2, d3] => { results := [.lit (.bool true)], args := [d1, d2, d3] }
  | _ => none }
def fnExactFormPacketRow : OpenClaim := { program := "ytdmlhfbnhhafmaa", sum := "b13ba8868ece6319a795e3976dda4ccb44211b92fbfccf6daab602ed0a6c370b", func := "loop.example/kilnwind/laws.FnExactFormPacket", spec := "fnExactFormPacket", unfollowed := true, recurses := true, apart := false }
def FnExactFormPacketSaid : Prop := fnExactFormPacketRow.holds Try.pinned (OpenSpec.ofChange fnExactFormPacketSpec)

/-- ITS FALSE NEIGHBOUR: 'it returns false'. Refute it at one input. -/
def fnExactFormPacketWrong : ChangeSpec := { name := "fnExactFormPacket", fn := fun _ => fun
  | [d1, d2, d3] => { results := [.lit (.bool false)], args := [d1, d2, d3] }
  | _ => none }
def FnExactFormPacketWrongFalsely : Prop := fnExactFormPacketRow.holds Try.pinned (OpenSpec.ofChange fnExactFormPacketWrong)

/-- 'laws.FnExactValidSend': WHATEVER THE INPUT: true; the input reads as it did. -/
def fnExactValidSendSpec : ChangeSpec := { name := "fnExactValidSend", fn := fun _ => fun
  | [d] => { results := [.lit (.bool true)], args := [d] }
  | _ => none }
def fnExactValidSendRow : OpenClaim := { program := "ytdmlhfbnhhafmaa", sum := "b13ba8868ece6319a795e3976dda4ccb44211b92fbfccf6daab602ed0a6c370b", func := "loop.example/kilnwind/laws.FnExactValidSend", spec := "fnExactValidSend", apart := false }
def FnExactValidSendSaid : Prop := fnExactValidSendRow.holds Try.pinned (OpenSpec.ofChange fnExactValidSendSpec)

/-- ITS FALSE NEIGHBOUR: 'it returns false'. Refute it at one input. -/
def fnExactValidSendWrong : ChangeSpec := { name := "fnExactValidSend", fn := fun _ => fun
  | [d] => { results := [.lit (.bool false)], args := [d] }
  | _ => none }
def FnExactValidSendWrongFalsely : Prop := fnExactValidSendRow.holds Try.pinned (OpenSpec.ofChange fnExactValidSendWrong)

/- THE SECOND FORM. 'bulk': how many values and letters a reading holds, each counted each time it is reached (what is shared counts as often as it is met; a slice's spare places count too). A statement '..UptoSaid' is the law's where the arguments, and the package variables that the reading takes, are together of bulk at most 1048576: NARROWER than '..Said'. Prove '..Said' where nothing that the law and all that it calls make is longer than what came in: it says more and counts as full. Else prove '..UptoSaid'. A law counts once. -/
mutual
def uptoBulk {H : Type} : DataW H → Nat
  | .lit (.string bytes) => bytes.length + 1
  | .lit _ => 1
  | .nil => 1
  | .ptr d => uptoBulk d + 1
  | .slice elems spare => uptoBulkAll elems + uptoBulkAll spare + 1
  | .agg parts => uptoBulkAll parts + 1
  | .iface _ d => uptoBulk d + 1
  | .map entries => uptoBulkEntries entries + 1
  | .held _ => 1
def uptoBulkAll {H : Type} : List (DataW H) → Nat
  | [] => 0
  | d :: r => uptoBulk d + uptoBulkAll r
def uptoBulkEntries {H : Type} : List (Lit × DataW H) → Nat
  | [] => 0
  | x :: r => uptoBulkEntry x + uptoBulkEntries r
def uptoBulkEntry {H : Type} : Lit × DataW H → Nat
  | (.string bytes, d) => bytes.length + uptoBulk d + 1
  | (_, d) => uptoBulk d + 1
 end
def uptoSmall : (H : Type) → List (DataW H) → Bool := fun _ ds => decide (uptoBulkAll ds ≤ 1048576)
def OpenSpec.upto (s : _root_.Go.ChangeSpec) : _root_.Go.OpenSpec := { _root_.Go.OpenSpec.ofChange s with cond := some uptoSmall }

/-- 'laws.FnExactTag', WHERE WHAT IT READS IS OF BULK AT MOST 1048576: true; the input reads as it did. -/
def fnExactTagUptoRow : OpenClaim := { program := "ytdmlhfbnhhafmaa", sum := "b13ba8868ece6319a795e3976dda4ccb44211b92fbfccf6daab602ed0a6c370b", func := "loop.example/kilnwind/laws.FnExactTag", spec := "fnExactTag", apart := false, narrowed := true }
def FnExactTagUptoSaid : Prop := fnExactTagUptoRow.holds Try.pinned (OpenSpec.upto fnExactTagSpec)

/-- 'laws.FnExactCut', WHERE WHAT IT READS IS OF BULK AT MOST 1048576: true; the input reads as it did. -/
def fnExactCutUptoRow : OpenClaim := { program := "ytdmlhfbnhhafmaa", sum := "b13ba8868ece6319a795e3976dda4ccb44211b92fbfccf6daab602ed0a6c370b", func := "loop.example/kilnwind/laws.FnExactCut", spec := "fnExactCut", unfollowed := true, recurses := true, apart := false, narrowed := true }
def FnExactCutUptoSaid : Prop := fnExactCutUptoRow.holds Try.pinned (OpenSpec.upto fnExactCutSpec)

/-- 'laws.FnParts', WHERE WHAT IT READS IS OF BULK AT MOST 1048576: true; the input reads as it did. -/
def fnPartsUptoRow : OpenClaim := { program := "ytdmlhfbnhhafmaa", sum := "b13ba8868ece6319a795e3976dda4ccb44211b92fbfccf6daab602ed0a6c370b", func := "loop.example/kilnwind/laws.FnParts", spec := "fnParts", unfollowed := true, recurses := true, apart := false, narrowed := true }
def FnPartsUptoSaid : Prop := fnPartsUptoRow.holds Try.pinned (OpenSpec.upto fnPartsSpec)

/-- 'laws.FnExactJoin', WHERE WHAT IT READS IS OF BULK AT MOST 1048576: true; the input reads as it did. -/
def fnExactJoinUptoRow : OpenClaim := { program := "ytdmlhfbnhhafmaa", sum := "b13ba8868ece6319a795e3976dda4ccb44211b92fbfccf6daab602ed0a6c370b", func := "loop.example/kilnwind/laws.FnExactJoin", spec := "fnExactJoin", apart := false, narrowed := true }
def FnExactJoinUptoSaid : Prop := fnExactJoinUptoRow.holds Try.pinned (OpenSpec.upto fnExactJoinSpec)

/-- 'laws.FnExactFormPacket', WHERE WHAT IT READS IS OF BULK AT MOST 1048576: true; the input reads as it did. -/
def fnExactFormPacketUptoRow : OpenClaim := { program := "ytdmlhfbnhhafmaa", sum := "b13ba8868ece6319a795e3976dda4ccb44211b92fbfccf6daab602ed0a6c370b", func := "loop.example/kilnwind/laws.FnExactFormPacket", spec := "fnExactFormPacket", unfollowed := true, recurses := true, apart := false, narrowed := true }
def FnExactFormPacketUptoSaid : Prop := fnExactFormPacketUptoRow.holds Try.pinned (OpenSpec.upto fnExactFormPacketSpec)

/-- 'laws.FnExactValidSend', WHERE WHAT IT READS IS OF BULK AT MOST 1048576: true; the input reads as it did. -/
def fnExactValidSendUptoRow : OpenClaim := { program := "ytdmlhfbnhhafmaa", sum := "b13ba8868ece6319a795e3976dda4ccb44211b92fbfccf6daab602ed0a6c370b", func := "loop.example/kilnwind/laws.FnExactValidSend", spec := "fnExactValidSend", apart := false, narrowed := true }
def FnExactValidSendUptoSaid : Prop := fnExactValidSendUptoRow.holds Try.pinned (OpenSpec.upto fnExactValidSendSpec)

end Rows
end Go.Proofs.Ytdmlhfbnhhafmaa

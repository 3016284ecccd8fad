/-
  NARROWER THAN 'FOR EVERY INPUT', by the rows' own cells (each row's printed sentence says how): FnExactReadPacket: ifaces, laid.
  DERIVED. THE GIVEN ROWS OF THIS SEAT. 1 by the template 'for every input the law returns true; each argument reads behind the call as it read before'; 0 by the template 'total and deterministic' (their statements: YtdmlhfbnhhafmabDoorTotals.lean).
  GIVEN WITH THE SEED: the statements are not yours to turn. If you find one false, say at which input.
  Laid BY PROGRAM, IN A SANDBOX (cutbox-rows.mjs): the forced cells as the released guide's own fill.sh prints them over the translation 3a5385652d94066a… (all of the seat's roots in one cut). By AI agents, Wed Nov 11 2026. No macro, syntax, notation, axiom, sorry.
-/
import Derived.Test.YtdmlhfbnhhafmabDoorChecked
import GoSem.Claim
import GoSem.ClaimJoined
import GoSem.ClaimMapViews
import Derived.JoinedTies
import Derived.KernelRfl
namespace Go.Proofs.YtdmlhfbnhhafmabDoor
/- THE CELL 'sum', in the pinned program and in every row, IS THE sha256 OF THE DUMP (.gsa) THAT YtdmlhfbnhhafmabDoorProg.lean LOADS. Nothing in Lean hashes anything: it is a label: what it is worth is what the hold of that sum in a sandbox is worth. -/
noncomputable def Tryd.pinned : Pinned := { name := "ytdmlhfbnhhafmabdoor", sum := "3a5385652d94066a3109b7bfe5ee0fece4866164889f10b334baa28c7355e591", checked := Tryd.checked }
namespace Rows
def none {H : Type} : Left H := { results := [], args := [] }

/- WHAT THE LISTED PACKAGE-LEVEL VARIABLES READ AS WHEN THE CALL BEGINS. Each datum BY PROGRAM (the guide's laid-datum.mjs) off the statement by which the dump's own 'gosem.cut.vars' lays the variable. In a bare row this is a premise. The card (YtdmlhfbnhhafmabDoorCards.lean) ties it to the program's text. -/
def laid_errors_errorType {H : Type} : DataW H := .iface "internal/reflectlite.rtype" (.agg [.ptr (.lit (.string [101, 114, 114, 111, 114]))])
def laid_loop_example_kilnwind_impl_errSeal {H : Type} : DataW H := .iface "*errors.errorString" (.ptr (.agg [.lit (.string [110, 111, 32, 115, 117, 99, 104, 32, 107, 101, 121, 32, 111, 114, 32, 119, 105, 100, 116, 104])]))
def laid_loop_example_kilnwind_impl_errShort {H : Type} : DataW H := .iface "*errors.errorString" (.ptr (.agg [.lit (.string [116, 111, 111, 32, 115, 104, 111, 114, 116])]))
def laid_loop_example_kilnwind_impl_errSize {H : Type} : DataW H := .iface "*errors.errorString" (.ptr (.agg [.lit (.string [97, 110, 111, 116, 104, 101, 114, 32, 115, 105, 122, 101])]))
def laid_loop_example_kilnwind_impl_errTag {H : Type} : DataW H := .iface "*errors.errorString" (.ptr (.agg [.lit (.string [97, 110, 111, 116, 104, 101, 114, 32, 116, 97, 103])]))
def laid_loop_example_kilnwind_impl_errMark {H : Type} : DataW H := .iface "*errors.errorString" (.ptr (.agg [.lit (.string [110, 101, 105, 116, 104, 101, 114, 32, 108, 97, 115, 116, 32, 110, 111, 114, 32, 110, 111, 116, 32, 108, 97, 115, 116])]))
def laid_loop_example_kilnwind_impl_errRange {H : Type} : DataW H := .iface "*errors.errorString" (.ptr (.agg [.lit (.string [97, 32, 110, 117, 109, 98, 101, 114, 32, 111, 114, 32, 112, 97, 114, 116, 32, 98, 101, 121, 111, 110, 100, 32, 105, 116, 115, 32, 108, 105, 109, 105, 116])]))

/-- 'laws.FnExactReadPacket': WHATEVER THE INPUT: true; the input reads as it did. -/
def fnExactReadPacketSpec : ChangeSpec := { name := "fnExactReadPacket", vars := ["loop.example/kilnwind/impl.errSeal", "loop.example/kilnwind/impl.errShort", "loop.example/kilnwind/impl.errTag", "loop.example/kilnwind/impl.errSize", "loop.example/kilnwind/impl.errRange", "loop.example/kilnwind/impl.errMark"], fn := fun _ => fun
  | [d1, d2, d3, g1, g2, g3, g4, g5, g6] => { results := [.lit (.bool true)], args := [d1, d2, d3], vars := [g1, g2, g3, g4, g5, g6] }
  | _ => none }
def fnExactReadPacketRow : OpenClaim := { program := "ytdmlhfbnhhafmabdoor", sum := "3a5385652d94066a3109b7bfe5ee0fece4866164889f10b334baa28c7355e591", func := "loop.example/kilnwind/laws.FnExactReadPacket", spec := "fnExactReadPacket", inPlace := ["internal/reflectlite.ValueOf", "(internal/reflectlite.Value).Type", "(internal/reflectlite.Value).IsNil", "internal/reflectlite.TypeOf", "(internal/reflectlite.Value).Elem", "(internal/reflectlite.Value).Set"], unfollowed := true, recurses := true, named := ["loop.example/kilnwind/impl.errSeal", "loop.example/kilnwind/impl.errShort", "loop.example/kilnwind/impl.errTag", "loop.example/kilnwind/impl.errSize", "loop.example/kilnwind/impl.errRange", "errors.errorType", "loop.example/kilnwind/impl.errMark"], ifaces := true, apart := false, laid := [("errors.errorType", laid_errors_errorType), ("loop.example/kilnwind/impl.errSeal", laid_loop_example_kilnwind_impl_errSeal), ("loop.example/kilnwind/impl.errShort", laid_loop_example_kilnwind_impl_errShort), ("loop.example/kilnwind/impl.errSize", laid_loop_example_kilnwind_impl_errSize), ("loop.example/kilnwind/impl.errTag", laid_loop_example_kilnwind_impl_errTag), ("loop.example/kilnwind/impl.errMark", laid_loop_example_kilnwind_impl_errMark), ("loop.example/kilnwind/impl.errRange", laid_loop_example_kilnwind_impl_errRange)] }
def FnExactReadPacketSaid : Prop := fnExactReadPacketRow.holds Tryd.pinned (OpenSpec.ofChange fnExactReadPacketSpec)

/-- ITS FALSE NEIGHBOUR: 'it returns false'. Refute it at one input. -/
def fnExactReadPacketWrong : ChangeSpec := { name := "fnExactReadPacket", vars := ["loop.example/kilnwind/impl.errSeal", "loop.example/kilnwind/impl.errShort", "loop.example/kilnwind/impl.errTag", "loop.example/kilnwind/impl.errSize", "loop.example/kilnwind/impl.errRange", "loop.example/kilnwind/impl.errMark"], fn := fun _ => fun
  | [d1, d2, d3, g1, g2, g3, g4, g5, g6] => { results := [.lit (.bool false)], args := [d1, d2, d3], vars := [g1, g2, g3, g4, g5, g6] }
  | _ => none }
def FnExactReadPacketWrongFalsely : Prop := fnExactReadPacketRow.holds Tryd.pinned (OpenSpec.ofChange fnExactReadPacketWrong)

/- THE SECOND FORM. 'bulk': how many values and letters a reading holds, each counted each time it is reached (what is shared counts as often as it is met; a slice's spare places count too). A statement '..UptoSaid' is the law's where the arguments, and the package variables that the reading takes, are together of bulk at most 1048576: NARROWER than '..Said'. Prove '..Said' where nothing that the law and all that it calls make is longer than what came in: it says more and counts as full. Else prove '..UptoSaid'. A law counts once. -/
mutual
def uptoBulk {H : Type} : DataW H → Nat
  | .lit (.string bytes) => bytes.length + 1
  | .lit _ => 1
  | .nil => 1
  | .ptr d => uptoBulk d + 1
  | .slice elems spare => uptoBulkAll elems + uptoBulkAll spare + 1
  | .agg parts => uptoBulkAll parts + 1
  | .iface _ d => uptoBulk d + 1
  | .map entries => uptoBulkEntries entries + 1
  | .held _ => 1
def uptoBulkAll {H : Type} : List (DataW H) → Nat
  | [] => 0
  | d :: r => uptoBulk d + uptoBulkAll r
def uptoBulkEntries {H : Type} : List (Lit × DataW H) → Nat
  | [] => 0
  | x :: r => uptoBulkEntry x + uptoBulkEntries r
def uptoBulkEntry {H : Type} : Lit × DataW H → Nat
  | (.string bytes, d) => bytes.length + uptoBulk d + 1
  | (_, d) => uptoBulk d + 1
 end
def uptoSmall : (H : Type) → List (DataW H) → Bool := fun _ ds => decide (uptoBulkAll ds ≤ 1048576)
def OpenSpec.upto (s : _root_.Go.ChangeSpec) : _root_.Go.OpenSpec := { _root_.Go.OpenSpec.ofChange s with cond := some uptoSmall }

/-- 'laws.FnExactReadPacket', WHERE WHAT IT READS IS OF BULK AT MOST 1048576: true; the input reads as it did. -/
def fnExactReadPacketUptoRow : OpenClaim := { program := "ytdmlhfbnhhafmabdoor", sum := "3a5385652d94066a3109b7bfe5ee0fece4866164889f10b334baa28c7355e591", func := "loop.example/kilnwind/laws.FnExactReadPacket", spec := "fnExactReadPacket", inPlace := ["internal/reflectlite.ValueOf", "(internal/reflectlite.Value).Type", "(internal/reflectlite.Value).IsNil", "internal/reflectlite.TypeOf", "(internal/reflectlite.Value).Elem", "(internal/reflectlite.Value).Set"], unfollowed := true, recurses := true, named := ["loop.example/kilnwind/impl.errSeal", "loop.example/kilnwind/impl.errShort", "loop.example/kilnwind/impl.errTag", "loop.example/kilnwind/impl.errSize", "loop.example/kilnwind/impl.errRange", "errors.errorType", "loop.example/kilnwind/impl.errMark"], ifaces := true, apart := false, laid := [("errors.errorType", laid_errors_errorType), ("loop.example/kilnwind/impl.errSeal", laid_loop_example_kilnwind_impl_errSeal), ("loop.example/kilnwind/impl.errShort", laid_loop_example_kilnwind_impl_errShort), ("loop.example/kilnwind/impl.errSize", laid_loop_example_kilnwind_impl_errSize), ("loop.example/kilnwind/impl.errTag", laid_loop_example_kilnwind_impl_errTag), ("loop.example/kilnwind/impl.errMark", laid_loop_example_kilnwind_impl_errMark), ("loop.example/kilnwind/impl.errRange", laid_loop_example_kilnwind_impl_errRange)], narrowed := true }
def FnExactReadPacketUptoSaid : Prop := fnExactReadPacketUptoRow.holds Tryd.pinned (OpenSpec.upto fnExactReadPacketSpec)

end Rows
end Go.Proofs.YtdmlhfbnhhafmabDoor

/-
  NARROWER THAN 'FOR EVERY INPUT', by the rows' own cells (each row's printed sentence says how): FnVolumes: ifaces, laid · FnExactReadIn: ifaces, laid · FnExactWriteIn: ifaces, laid · FnExactStepIn: ifaces, laid · FnExactCloseIn: ifaces, laid.
  DERIVED. THE GIVEN ROWS OF THIS SEAT. 5 by the template 'for every input the law returns true; each argument reads behind the call as it read before'; 0 by the template 'total and deterministic' (their statements: YtgaecedhkbneaaaGreatDoorTotals.lean).
  GIVEN WITH THE SEED: the statements are not yours to turn. If you find one false, say at which input.
  Laid BY PROGRAM, IN A SANDBOX (cutbox-rows.mjs): the forced cells as the released guide's own fill.sh prints them over the translation 9b5ab5d2e03bbb01… (all of the seat's roots in one cut). By AI agents, Wed Nov 11 2026. No macro, syntax, notation, axiom, sorry.
-/
import Derived.Test.YtgaecedhkbneaaaGreatDoorChecked
import GoSem.Claim
import GoSem.ClaimJoined
import GoSem.ClaimMapViews
import Derived.JoinedTies
import Derived.KernelRfl
namespace Go.Proofs.YtgaecedhkbneaaaGreatDoor
/- THE CELL 'sum', in the pinned program and in every row, IS THE sha256 OF THE DUMP (.gsa) THAT YtgaecedhkbneaaaGreatDoorProg.lean LOADS. Nothing in Lean hashes anything: it is a label: what it is worth is what the hold of that sum in a sandbox is worth. -/
noncomputable def Tryz.pinned : Pinned := { name := "ytgaecedhkbneaaagreatdoor", sum := "9b5ab5d2e03bbb0111f907665b2c5179fdc393270519215a816102c2f1de1974", checked := Tryz.checked }
namespace Rows
def none {H : Type} : Left H := { results := [], args := [] }

/- WHAT THE LISTED PACKAGE-LEVEL VARIABLES READ AS WHEN THE CALL BEGINS. Each datum BY PROGRAM (the guide's laid-datum.mjs) off the statement by which the dump's own 'gosem.cut.vars' lays the variable. In a bare row this is a premise. The card (YtgaecedhkbneaaaGreatDoorCards.lean) ties it to the program's text. -/
def laid_errors_errorType {H : Type} : DataW H := .iface "internal/reflectlite.rtype" (.agg [.ptr (.lit (.string [101, 114, 114, 111, 114]))])
def laid_loop_example_g00775_impl_errBad {H : Type} : DataW H := .iface "*errors.errorString" (.ptr (.agg [.lit (.string [110, 111, 116, 32, 114, 105, 103, 104, 116])]))
def laid_loop_example_g00775_impl_errFailed {H : Type} : DataW H := .iface "*errors.errorString" (.ptr (.agg [.lit (.string [102, 97, 105, 108, 101, 100, 32, 98, 101, 102, 111, 114, 101])]))
def laid_loop_example_g00775_impl_errSpent {H : Type} : DataW H := .iface "*errors.errorString" (.ptr (.agg [.lit (.string [105, 116, 115, 32, 116, 105, 109, 101, 32, 105, 115, 32, 111, 118, 101, 114])]))
def laid_loop_example_g00775_impl_errCaught {H : Type} : DataW H := .iface "*errors.errorString" (.ptr (.agg [.lit (.string [108, 97, 116, 101, 114, 32, 116, 104, 97, 110, 32, 116, 104, 101, 32, 99, 108, 111, 99, 107])]))

/-- 'laws.FnVolumes': WHATEVER THE INPUT: true; the input reads as it did. -/
def fnVolumesSpec : ChangeSpec := { name := "fnVolumes", vars := ["loop.example/g00775/impl.errBad", "loop.example/g00775/impl.errFailed", "loop.example/g00775/impl.errSpent", "loop.example/g00775/impl.errCaught"], fn := fun _ => fun
  | [d, g1, g2, g3, g4] => { results := [.lit (.bool true)], args := [d], vars := [g1, g2, g3, g4] }
  | _ => none }
def fnVolumesRow : OpenClaim := { program := "ytgaecedhkbneaaagreatdoor", sum := "9b5ab5d2e03bbb0111f907665b2c5179fdc393270519215a816102c2f1de1974", func := "loop.example/g00775/laws.FnVolumes", spec := "fnVolumes", inPlace := ["internal/reflectlite.ValueOf", "(internal/reflectlite.Value).Type", "(internal/reflectlite.Value).IsNil", "internal/reflectlite.TypeOf", "(internal/reflectlite.Value).Elem", "(internal/reflectlite.Value).Set"], unfollowed := true, recurses := true, named := ["loop.example/g00775/impl.errBad", "loop.example/g00775/impl.errFailed", "loop.example/g00775/impl.errSpent", "loop.example/g00775/impl.errCaught", "errors.errorType"], ifaces := true, plainKeys := false, apart := false, laid := [("errors.errorType", laid_errors_errorType), ("loop.example/g00775/impl.errBad", laid_loop_example_g00775_impl_errBad), ("loop.example/g00775/impl.errFailed", laid_loop_example_g00775_impl_errFailed), ("loop.example/g00775/impl.errSpent", laid_loop_example_g00775_impl_errSpent), ("loop.example/g00775/impl.errCaught", laid_loop_example_g00775_impl_errCaught)] }
def FnVolumesSaid : Prop := fnVolumesRow.holds Tryz.pinned (OpenSpec.ofChange fnVolumesSpec)

/-- ITS FALSE NEIGHBOUR: 'it returns false'. Refute it at one input. -/
def fnVolumesWrong : ChangeSpec := { name := "fnVolumes", vars := ["loop.example/g00775/impl.errBad", "loop.example/g00775/impl.errFailed", "loop.example/g00775/impl.errSpent", "loop.example/g00775/impl.errCaught"], fn := fun _ => fun
  | [d, g1, g2, g3, g4] => { results := [.lit (.bool false)], args := [d], vars := [g1, g2, g3, g4] }
  | _ => none }
def FnVolumesWrongFalsely : Prop := fnVolumesRow.holds Tryz.pinned (OpenSpec.ofChange fnVolumesWrong)

/-- 'laws.FnExactReadIn': WHATEVER THE INPUT: true; the input reads as it did. -/
def fnExactReadInSpec : ChangeSpec := { name := "fnExactReadIn", vars := ["loop.example/g00775/impl.errBad", "loop.example/g00775/impl.errFailed", "loop.example/g00775/impl.errSpent", "loop.example/g00775/impl.errCaught"], fn := fun _ => fun
  | [d1, d2, g1, g2, g3, g4] => { results := [.lit (.bool true)], args := [d1, d2], vars := [g1, g2, g3, g4] }
  | _ => none }
def fnExactReadInRow : OpenClaim := { program := "ytgaecedhkbneaaagreatdoor", sum := "9b5ab5d2e03bbb0111f907665b2c5179fdc393270519215a816102c2f1de1974", func := "loop.example/g00775/laws.FnExactReadIn", spec := "fnExactReadIn", inPlace := ["internal/reflectlite.ValueOf", "(internal/reflectlite.Value).Type", "(internal/reflectlite.Value).IsNil", "internal/reflectlite.TypeOf", "(internal/reflectlite.Value).Elem", "(internal/reflectlite.Value).Set"], unfollowed := true, recurses := true, named := ["loop.example/g00775/impl.errBad", "loop.example/g00775/impl.errFailed", "loop.example/g00775/impl.errSpent", "loop.example/g00775/impl.errCaught", "errors.errorType"], ifaces := true, plainKeys := false, apart := false, laid := [("errors.errorType", laid_errors_errorType), ("loop.example/g00775/impl.errBad", laid_loop_example_g00775_impl_errBad), ("loop.example/g00775/impl.errFailed", laid_loop_example_g00775_impl_errFailed), ("loop.example/g00775/impl.errSpent", laid_loop_example_g00775_impl_errSpent), ("loop.example/g00775/impl.errCaught", laid_loop_example_g00775_impl_errCaught)] }
def FnExactReadInSaid : Prop := fnExactReadInRow.holds Tryz.pinned (OpenSpec.ofChange fnExactReadInSpec)

/-- ITS FALSE NEIGHBOUR: 'it returns false'. Refute it at one input. -/
def fnExactReadInWrong : ChangeSpec := { name := "fnExactReadIn", vars := ["loop.example/g00775/impl.errBad", "loop.example/g00775/impl.errFailed", "loop.example/g00775/impl.errSpent", "loop.example/g00775/impl.errCaught"], fn := fun _ => fun
  | [d1, d2, g1, g2, g3, g4] => { results := [.lit (.bool false)], args := [d1, d2], vars := [g1, g2, g3, g4] }
  | _ => none }
def FnExactReadInWrongFalsely : Prop := fnExactReadInRow.holds Tryz.pinned (OpenSpec.ofChange fnExactReadInWrong)

/-- 'laws.FnExactWriteIn': WHATEVER THE INPUT: true; the input reads as it did. -/
def fnExactWriteInSpec : ChangeSpec := { name := "fnExactWriteIn", vars := ["loop.example/g00775/impl.errBad", "loop.example/g00775/impl.errFailed", "loop.example/g00775/impl.errSpent", "loop.example/g00775/impl.errCaught"], fn := fun _ => fun
  | [d1, d2, d3, g1, g2, g3, g4] => { results := [.lit (.bool true)], args := [d1, d2, d3], vars := [g1, g2, g3, g4] }
  | _ => none }
def fnExactWriteInRow : OpenClaim := { program := "ytgaecedhkbneaaagreatdoor", sum := "9b5ab5d2e03bbb0111f907665b2c5179fdc393270519215a816102c2f1de1974", func := "loop.example/g00775/laws.FnExactWriteIn", spec := "fnExactWriteIn", inPlace := ["internal/reflectlite.ValueOf", "(internal/reflectlite.Value).Type", "(internal/reflectlite.Value).IsNil", "internal/reflectlite.TypeOf", "(internal/reflectlite.Value).Elem", "(internal/reflectlite.Value).Set"], unfollowed := true, recurses := true, named := ["loop.example/g00775/impl.errBad", "loop.example/g00775/impl.errFailed", "loop.example/g00775/impl.errSpent", "loop.example/g00775/impl.errCaught", "errors.errorType"], ifaces := true, plainKeys := false, apart := false, laid := [("errors.errorType", laid_errors_errorType), ("loop.example/g00775/impl.errBad", laid_loop_example_g00775_impl_errBad), ("loop.example/g00775/impl.errFailed", laid_loop_example_g00775_impl_errFailed), ("loop.example/g00775/impl.errSpent", laid_loop_example_g00775_impl_errSpent), ("loop.example/g00775/impl.errCaught", laid_loop_example_g00775_impl_errCaught)] }
def FnExactWriteInSaid : Prop := fnExactWriteInRow.holds Tryz.pinned (OpenSpec.ofChange fnExactWriteInSpec)

/-- ITS FALSE NEIGHBOUR: 'it returns false'. Refute it at one input. -/
def fnExactWriteInWrong : ChangeSpec := { name := "fnExactWriteIn", vars := ["loop.example/g00775/impl.errBad", "loop.example/g00775/impl.errFailed", "loop.example/g00775/impl.errSpent", "loop.example/g00775/impl.errCaught"], fn := fun _ => fun
  | [d1, d2, d3, g1, g2, g3, g4] => { results := [.lit (.bool false)], args := [d1, d2, d3], vars := [g1, g2, g3, g4] }
  | _ => none }
def FnExactWriteInWrongFalsely : Prop := fnExactWriteInRow.holds Tryz.pinned (OpenSpec.ofChange fnExactWriteInWrong)

/-- 'laws.FnExactStepIn': WHATEVER THE INPUT: true; the input reads as it did. -/
def fnExactStepInSpec : ChangeSpec := { name := "fnExactStepIn", vars := ["loop.example/g00775/impl.errBad", "loop.example/g00775/impl.errFailed", "loop.example/g00775/impl.errSpent", "loop.example/g00775/impl.errCaught"], fn := fun _ => fun
  | [d1, d2, g1, g2, g3, g4] => { results := [.lit (.bool true)], args := [d1, d2], vars := [g1, g2, g3, g4] }
  | _ => none }
def fnExactStepInRow : OpenClaim := { program := "ytgaecedhkbneaaagreatdoor", sum := "9b5ab5d2e03bbb0111f907665b2c5179fdc393270519215a816102c2f1de1974", func := "loop.example/g00775/laws.FnExactStepIn", spec := "fnExactStepIn", inPlace := ["internal/reflectlite.ValueOf", "(internal/reflectlite.Value).Type", "(internal/reflectlite.Value).IsNil", "internal/reflectlite.TypeOf", "(internal/reflectlite.Value).Elem", "(internal/reflectlite.Value).Set"], unfollowed := true, recurses := true, named := ["loop.example/g00775/impl.errBad", "loop.example/g00775/impl.errFailed", "loop.example/g00775/impl.errSpent", "loop.example/g00775/impl.errCaught", "errors.errorType"], ifaces := true, plainKeys := false, apart := false, laid := [("errors.errorType", laid_errors_errorType), ("loop.example/g00775/impl.errBad", laid_loop_example_g00775_impl_errBad), ("loop.example/g00775/impl.errFailed", laid_loop_example_g00775_impl_errFailed), ("loop.example/g00775/impl.errSpent", laid_loop_example_g00775_impl_errSpent), ("loop.example/g00775/impl.errCaught", laid_loop_example_g00775_impl_errCaught)] }
def FnExactStepInSaid : Prop := fnExactStepInRow.holds Tryz.pinned (OpenSpec.ofChange fnExactStepInSpec)

/-- ITS FALSE NEIGHBOUR: 'it returns false'. Refute it at one input. -/
def fnExactStepInWrong : ChangeSpec := { name := "fnExactStepIn", vars := ["loop.example/g00775/impl.errBad", "loop.example/g00775/impl.errFailed", "loop.example/g00775/impl.errSpent", "loop.example/g00775/impl.errCaught"], fn := fun _ => fun
  | [d1, d2, g1, g2, g3, g4] => { results := [.lit (.bool false)], args := [d1, d2], vars := [g1, g2, g3, g4] }
  | _ => none }
def FnExactStepInWrongFalsely : Prop := fnExactStepInRow.holds Tryz.pinned (OpenSpec.ofChange fnExactStepInWrong)

/-- 'laws.FnExactCloseIn': WHATEVER THE INPUT: true; the input reads as it did. -/
def fnExactCloseInSpec : ChangeSpec := { name := "fnExactCloseIn", vars := ["loop.example/g00775/impl.errBad", "loop.example/g00775/impl.errFailed", "loop.example/g00775/impl.errSpent", "loop.example/g00775/impl.errCaught"], fn := fun _ => fun
  | [d1, d2, g1, g2, g3, g4] => { results := [.lit (.bool true)], args := [d1, d2], vars := [g1, g2, g3, g4] }
  | _ => none }
def fnExactCloseInRow : OpenClaim := { program := "ytgaecedhkbneaaagreatdoor", sum := "9b5ab5d2e03bbb0111f907665b2c5179fdc393270519215a816102c2f1de1974", func := "loop.example/g00775/laws.FnExactCloseIn", spec := "fnExactCloseIn", inPlace := ["internal/reflectlite.ValueOf", "(internal/reflectlite.Value).Type", "(internal/reflectlite.Value).IsNil", "internal/reflectlite.TypeOf", "(internal/reflectlite.Value).Elem", "(internal/reflectlite.Value).Set"], unfollowed := true, recurses := true, named := ["loop.example/g00775/impl.errBad", "loop.example/g00775/impl.errFailed", "loop.example/g00775/impl.errSpent", "loop.example/g00775/impl.errCaught", "errors.errorType"], ifaces := true, plainKeys := false, apart := false, laid := [("errors.errorType", laid_errors_errorType), ("loop.example/g00775/impl.errBad", laid_loop_example_g00775_impl_errBad), ("loop.example/g00775/impl.errFailed", laid_loop_example_g00775_impl_errFailed), ("loop.example/g00775/impl.errSpent", laid_loop_example_g00775_impl_errSpent), ("loop.example/g00775/impl.errCaught", laid_loop_example_g00775_impl_errCaught)] }
def FnExactCloseInSaid : Prop := fnExactCloseInRow.holds Tryz.pinned (OpenSpec.ofChange fnExactCloseInSpec)

/-- ITS FALSE NEIGHBOUR: 'it returns false'. Refute it at one input. -/
def fnExactCloseInWrong : ChangeSpec := { name := "fnExactCloseIn", vars := ["loop.example/g00775/impl.errBad", "loop.example/g00775/impl.errFailed", "loop.example/g00775/impl.errSpent", "loop.example/g00775/impl.errCaught"], fn := fun _ => fun
  | [d1, d2, g1, g2, g3, g4] => { results := [.lit (.bool false)], args := [d1, d2], vars := [g1, g2, g3, g4] }
  | _ => none }
def FnExactCloseInWrongFalsely : Prop := fnExactCloseInRow.holds Tryz.pinned (OpenSpec.ofChange fnExactCloseInWrong)

/- THE SECOND FORM. 'bulk': how many values and letters a reading holds, each counted each time it is reached (what is shared counts as often as it is met; a slice's spare places count too). A statement '..UptoSaid' is the law's where the arguments, and the package variables that the reading takes, are together of bulk at most 1048576: NARROWER than '..Said'. Prove '..Said' where nothing that the law and all that it calls make is longer than what came in: it says more and counts as full. Else prove '..UptoSaid'. A law counts once. -/
mutual
def uptoBulk {H : Type} : DataW H → Nat
  | .lit (.string bytes) => bytes.length + 1
  | .lit _ => 1
  | .nil => 1
  | .ptr d => uptoBulk d + 1
  | .slice elems spare => uptoBulkAll elems + uptoBulkAll spare + 1
  | .agg parts => uptoBulkAll parts + 1
  | .iface _ d => uptoBulk d + 1
  | .map entries => uptoBulkEntries entries + 1
  | .held _ => 1
def uptoBulkAll {H : Type} : List (DataW H) → Nat
  | [] => 0
  | d :: r => uptoBulk d + uptoBulkAll r
def uptoBulkEntries {H : Type} : List (Lit × DataW H) → Nat
  | [] => 0
  | x :: r => uptoBulkEntry x + uptoBulkEntries r
def uptoBulkEntry {H : Type} : Lit × DataW H → Nat
  | (.string bytes, d) => bytes.length + uptoBulk d + 1
  | (_, d) => uptoBulk d + 1
 end
def uptoSmall : (H : Type) → List (DataW H) → Bool := fun _ ds => decide (uptoBulkAll ds ≤ 1048576)
def OpenSpec.upto (s : _root_.Go.ChangeSpec) : _root_.Go.OpenSpec := { _root_.Go.OpenSpec.ofChange s with cond := some uptoSmall }

/-- 'laws.FnVolumes', WHERE WHAT IT READS IS OF BULK AT MOST 1048576: true; the input reads as it did. -/
def fnVolumesUptoRow : OpenClaim := { program := "ytgaecedhkbneaaagreatdoor", sum := "9b5ab5d2e03bbb0111f907665b2c5179fdc393270519215a816102c2f1de1974", func := "loop.example/g00775/laws.FnVolumes", spec := "fnVolumes", inPlace := ["internal/reflectlite.ValueOf", "(internal/reflectlite.Value).Type", "(internal/reflectlite.Value).IsNil", "internal/reflectlite.TypeOf", "(internal/reflectlite.Value).Elem", "(internal/reflectlite.Value).Set"], unfollowed := true, recurses := true, named := ["loop.example/g00775/impl.errBad", "loop.example/g00775/impl.errFailed", "loop.example/g00775/impl.errSpent", "loop.example/g00775/impl.errCaught", "errors.errorType"], ifaces := true, plainKeys := false, apart := false, laid := [("errors.errorType", laid_errors_errorType), ("loop.example/g00775/impl.errBad", laid_loop_example_g00775_impl_errBad), ("loop.example/g00775/impl.errFailed", laid_loop_example_g00775_impl_errFailed), ("loop.example/g00775/impl.errSpent", laid_loop_example_g00775_impl_errSpent), ("loop.example/g00775/impl.errCaught", laid_loop_example_g00775_impl_errCaught)], narrowed := true }
def FnVolumesUptoSaid : Prop := fnVolumesUptoRow.holds Tryz.pinned (OpenSpec.upto fnVolumesSpec)

/-- 'laws.FnExactReadIn', WHERE WHAT IT READS IS OF BULK AT MOST 1048576: true; the input reads as it did. -/
def fnExactReadInUptoRow : OpenClaim := { program := "ytgaecedhkbneaaagreatdoor", sum := "9b5ab5d2e03bbb0111f907665b2c5179fdc393270519215a816102c2f1de1974", func := "loop.example/g00775/laws.FnExactReadIn", spec := "fnExactReadIn", inPlace := ["internal/reflectlite.ValueOf", "(internal/reflectlite.Value).Type", "(internal/reflectlite.Value).IsNil", "internal/reflectlite.TypeOf", "(internal/reflectlite.Value).Elem", "(internal/reflectlite.Value).Set"], unfollowed := true, recurses := true, named := ["loop.example/g00775/impl.errBad", "loop.example/g00775/impl.errFailed", "loop.example/g00775/impl.errSpent", "loop.example/g00775/impl.errCaught", "errors.errorType"], ifaces := true, plainKeys := false, apart := false, laid := [("errors.errorType", laid_errors_errorType), ("loop.example/g00775/impl.errBad", laid_loop_example_g00775_impl_errBad), ("loop.example/g00775/impl.errFailed", laid_loop_example_g00775_impl_errFailed), ("loop.example/g00775/impl.errSpent", laid_loop_example_g00775_impl_errSpent), ("loop.example/g00775/impl.errCaught", laid_loop_example_g00775_impl_errCaught)], narrowed := true }
def FnExactReadInUptoSaid : Prop := fnExactReadInUptoRow.holds Tryz.pinned (OpenSpec.upto fnExactReadInSpec)

/-- 'laws.FnExactWriteIn', WHERE WHAT IT READS IS OF BULK AT MOST 1048576: true; the input reads as it did. -/
def fnExactWriteInUptoRow : OpenClaim := { program := "ytgaecedhkbneaaagreatdoor", sum := "9b5ab5d2e03bbb0111f907665b2c5179fdc393270519215a816102c2f1de1974", func := "loop.example/g00775/laws.FnExactWriteIn", spec := "fnExactWriteIn", inPlace := ["internal/reflectlite.ValueOf", "(internal/reflectlite.Value).Type", "(internal/reflectlite.Value).IsNil", "internal/reflectlite.TypeOf", "(internal/reflectlite.Value).Elem", "(internal/reflectlite.Value).Set"], unfollowed := true, recurses := true, named := ["loop.example/g00775/impl.errBad", "loop.example/g00775/impl.errFailed", "loop.example/g00775/impl.errSpent", "loop.example/g00775/impl.errCaught", "errors.errorType"], ifaces := true, plainKeys := false, apart := false, laid := [("errors.errorType", laid_errors_errorType), ("loop.example/g00775/impl.errBad", laid_loop_example_g00775_impl_errBad), ("loop.example/g00775/impl.errFailed", laid_loop_example_g00775_impl_errFailed), ("loop.example/g00775/impl.errSpent", laid_loop_example_g00775_impl_errSpent), ("loop.example/g00775/impl.errCaught", laid_loop_example_g00775_impl_errCaught)], narrowed := true }
def FnExactWriteInUptoSaid : Prop := fnExactWriteInUptoRow.holds Tryz.pinned (OpenSpec.upto fnExactWriteInSpec)

/-- 'laws.FnExactStepIn', WHERE WHAT IT READS IS OF BULK AT MOST 1048576: true; the input reads as it did. -/
def fnExactStepInUptoRow : OpenClaim := { program := "ytgaecedhkbneaaagreatdoor", sum := "9b5ab5d2e03bbb0111f907665b2c5179fdc393270519215a816102c2f1de1974", func := "loop.example/g00775/laws.FnExactStepIn", spec := "fnExactStepIn", inPlace := ["internal/reflectlite.ValueOf", "(internal/reflectlite.Value).Type", "(internal/reflectlite.Value).IsNil", "internal/reflectlite.TypeOf", "(internal/reflectlite.Value).Elem", "(internal/reflectlite.Value).Set"], unfollowed := true, recurses := true, named := ["loop.example/g00775/impl.errBad", "loop.example/g00775/impl.errFailed", "loop.example/g00775/impl.errSpent", "loop.example/g00775/impl.errCaught", "errors.errorType"], ifaces := true, plainKeys := false, apart := false, laid := [("errors.errorType", laid_errors_errorType), ("loop.example/g00775/impl.errBad", laid_loop_example_g00775_impl_errBad), ("loop.example/g00775/impl.errFailed", laid_loop_example_g00775_impl_errFailed), ("loop.example/g00775/impl.errSpent", laid_loop_example_g00775_impl_errSpent), ("loop.example/g00775/impl.errCaught", laid_loop_example_g00775_impl_errCaught)], narrowed := true }
def FnExactStepInUptoSaid : Prop := fnExactStepInUptoRow.holds Tryz.pinned (OpenSpec.upto fnExactStepInSpec)

/-- 'laws.FnExactCloseIn', WHERE WHAT IT READS IS OF BULK AT MOST 1048576: true; the input reads as it did. -/
def fnExactCloseInUptoRow : OpenClaim := { program := "ytgaecedhkbneaaagreatdoor", sum := "9b5ab5d2e03bbb0111f907665b2c5179fdc393270519215a816102c2f1de1974", func := "loop.example/g00775/laws.FnExactCloseIn", spec := "fnExactCloseIn", inPlace := ["internal/reflectlite.ValueOf", "(internal/reflectlite.Value).Type", "(internal/reflectlite.Value).IsNil", "internal/reflectlite.TypeOf", "(internal/reflectlite.Value).Elem", "(internal/reflectlite.Value).Set"], unfollowed := true, recurses := true, named := ["loop.example/g00775/impl.errBad", "loop.example/g00775/impl.errFailed", "loop.example/g00775/impl.errSpent", "loop.example/g00775/impl.errCaught", "errors.errorType"], ifaces := true, plainKeys := false, apart := false, laid := [("errors.errorType", laid_errors_errorType), ("loop.example/g00775/impl.errBad", laid_loop_example_g00775_impl_errBad), ("loop.example/g00775/impl.errFailed", laid_loop_example_g00775_impl_errFailed), ("loop.example/g00775/impl.errSpent", laid_loop_example_g00775_impl_errSpent), ("loop.example/g00775/impl.errCaught", laid_loop_example_g00775_impl_errCaught)], narrowed := true }
def FnExactCloseInUptoSaid : Prop := fnExactCloseInUptoRow.holds Tryz.pinned (OpenSpec.upto fnExactCloseInSpec)

end Rows
end Go.Proofs.YtgaecedhkbneaaaGreatDoor

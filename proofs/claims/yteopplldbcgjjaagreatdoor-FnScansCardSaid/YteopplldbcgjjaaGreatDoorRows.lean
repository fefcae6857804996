/-
  NARROWER THAN 'FOR EVERY INPUT', by the rows' own cells (each row's printed sentence says how): FnTouched: ifaces, laid · FnScans: ifaces, laid · FnExactTouched: ifaces, laid · FnExactScanned: ifaces, laid.
  DERIVED. THE GIVEN ROWS OF THIS SEAT. 4 by the template 'for every input the law returns true; each argument reads behind the call as it read before'; 0 by the template 'total and deterministic' (their statements: YteopplldbcgjjaaGreatDoorTotals.lean).
  GIVEN WITH THE SEED: the statements are not yours to turn. If you find one false, say at which input.
  Laid BY PROGRAM, IN A SANDBOX (cutbox-rows.mjs): the forced cells as the released guide's own fill.sh prints them over the translation d657e25a2a8fa8bd… (all of the seat's roots in one cut). By AI agents, Wed Nov 11 2026. No macro, syntax, notation, axiom, sorry.
-/
import Derived.Test.YteopplldbcgjjaaGreatDoorChecked
import GoSem.Claim
import GoSem.ClaimJoined
import GoSem.ClaimMapViews
import Derived.JoinedTies
import Derived.KernelRfl
namespace Go.Proofs.YteopplldbcgjjaaGreatDoor
/- THE CELL 'sum', in the pinned program and in every row, IS THE sha256 OF THE DUMP (.gsa) THAT YteopplldbcgjjaaGreatDoorProg.lean LOADS. Nothing in Lean hashes anything: it is a label: what it is worth is what the hold of that sum in a sandbox is worth. -/
noncomputable def Tryz.pinned : Pinned := { name := "yteopplldbcgjjaagreatdoor", sum := "d657e25a2a8fa8bd900a8db8c2dc182fb16012d5e1f69e9699e2d1795dbb9747", checked := Tryz.checked }
namespace Rows
def none {H : Type} : Left H := { results := [], args := [] }

/- WHAT THE LISTED PACKAGE-LEVEL VARIABLES READ AS WHEN THE CALL BEGINS. Each datum BY PROGRAM (the guide's laid-datum.mjs) off the statement by which the dump's own 'gosem.cut.vars' lays the variable. In a bare row this is a premise. The card (YteopplldbcgjjaaGreatDoorCards.lean) ties it to the program's text. -/
def laid_errors_errorType {H : Type} : DataW H := .iface "internal/reflectlite.rtype" (.agg [.ptr (.lit (.string [101, 114, 114, 111, 114]))])
def laid_loop_example_g00775_impl_errBad {H : Type} : DataW H := .iface "*errors.errorString" (.ptr (.agg [.lit (.string [110, 111, 116, 32, 114, 105, 103, 104, 116])]))
def laid_loop_example_g00775_impl_errFailed {H : Type} : DataW H := .iface "*errors.errorString" (.ptr (.agg [.lit (.string [102, 97, 105, 108, 101, 100, 32, 98, 101, 102, 111, 114, 101])]))
def laid_loop_example_g00775_impl_errSpent {H : Type} : DataW H := .iface "*errors.errorString" (.ptr (.agg [.lit (.string [105, 116, 115, 32, 116, 105, 109, 101, 32, 105, 115, 32, 111, 118, 101, 114])]))
def laid_loop_example_g00775_impl_errCaught {H : Type} : DataW H := .iface "*errors.errorString" (.ptr (.agg [.lit (.string [108, 97, 116, 101, 114, 32, 116, 104, 97, 110, 32, 116, 104, 101, 32, 99, 108, 111, 99, 107])]))

/-- 'laws.FnTouched': WHATEVER THE INPUT: true; the input reads as it did. -/
def fnTouchedSpec : ChangeSpec := { name := "fnTouched", vars := ["loop.example/g00775/impl.errBad", "loop.example/g00775/impl.errFailed", "loop.example/g00775/impl.errSpent", "loop.example/g00775/impl.errCaught"], fn := fun _ => fun
  | [d, g1, g2, g3, g4] => { results := [.lit (.bool true)], args := [d], vars := [g1, g2, g3, g4] }
  | _ => none }
def fnTouchedRow : OpenClaim := { program := "yteopplldbcgjjaagreatdoor", sum := "d657e25a2a8fa8bd900a8db8c2dc182fb16012d5e1f69e9699e2d1795dbb9747", func := "loop.example/g00775/laws.FnTouched", spec := "fnTouched", inPlace := ["internal/reflectlite.ValueOf", "(internal/reflectlite.Value).Type", "(internal/reflectlite.Value).IsNil", "internal/reflectlite.TypeOf", "(internal/reflectlite.Value).Elem", "(internal/reflectlite.Value).Set"], unfollowed := true, recurses := true, named := ["loop.example/g00775/impl.errBad", "loop.example/g00775/impl.errFailed", "loop.example/g00775/impl.errSpent", "loop.example/g00775/impl.errCaught", "errors.errorType"], ifaces := true, plainKeys := false, apart := false, laid := [("errors.errorType", laid_errors_errorType), ("loop.example/g00775/impl.errBad", laid_loop_example_g00775_impl_errBad), ("loop.example/g00775/impl.errFailed", laid_loop_example_g00775_impl_errFailed), ("loop.example/g00775/impl.errSpent", laid_loop_example_g00775_impl_errSpent), ("loop.example/g00775/impl.errCaught", laid_loop_example_g00775_impl_errCaught)] }
def FnTouchedSaid : Prop := fnTouchedRow.holds Tryz.pinned (OpenSpec.ofChange fnTouchedSpec)

/-- ITS FALSE NEIGHBOUR: 'it returns false'. Refute it at one input. -/
def fnTouchedWrong : ChangeSpec := { name := "fnTouched", vars := ["loop.example/g00775/impl.errBad", "loop.example/g00775/impl.errFailed", "loop.example/g00775/impl.errSpent", "loop.example/g00775/impl.errCaught"], fn := fun _ => fun
  | [d, g1, g2, g3, g4] => { results := [.lit (.bool false)], args := [d], vars := [g1, g2, g3, g4] }
  | _ => none }
def FnTouchedWrongFalsely : Prop := fnTouchedRow.holds Tryz.pinned (OpenSpec.ofChange fnTouchedWrong)

/-- 'laws.FnScans': WHATEVER THE INPUT: true; the input reads as it did. -/
def fnScansSpec : ChangeSpec := { name := "fnScans", vars := ["loop.example/g00775/impl.errBad", "loop.example/g00775/impl.errFailed", "loop.example/g00775/impl.errSpent", "loop.example/g00775/impl.errCaught"], fn := fun _ => fun
  | [d, g1, g2, g3, g4] => { results := [.lit (.bool true)], args := [d], vars := [g1, g2, g3, g4] }
  | _ => none }
def fnScansRow : OpenClaim := { program := "yteopplldbcgjjaagreatdoor", sum := "d657e25a2a8fa8bd900a8db8c2dc182fb16012d5e1f69e9699e2d1795dbb9747", func := "loop.example/g00775/laws.FnScans", spec := "fnScans", inPlace := ["internal/reflectlite.ValueOf", "(internal/reflectlite.Value).Type", "(internal/reflectlite.Value).IsNil", "internal/reflectlite.TypeOf", "(internal/reflectlite.Value).Elem", "(internal/reflectlite.Value).Set"], unfollowed := true, recurses := true, named := ["loop.example/g00775/impl.errBad", "loop.example/g00775/impl.errFailed", "loop.example/g00775/impl.errSpent", "loop.example/g00775/impl.errCaught", "errors.errorType"], ifaces := true, plainKeys := false, apart := false, laid := [("errors.errorType", laid_errors_errorType), ("loop.example/g00775/impl.errBad", laid_loop_example_g00775_impl_errBad), ("loop.example/g00775/impl.errFailed", laid_loop_example_g00775_impl_errFailed), ("loop.example/g00775/impl.errSpent", laid_loop_example_g00775_impl_errSpent), ("loop.example/g00775/impl.errCaught", laid_loop_example_g00775_impl_errCaught)] }
def FnScansSaid : Prop := fnScansRow.holds Tryz.pinned (OpenSpec.ofChange fnScansSpec)

/-- ITS FALSE NEIGHBOUR: 'it returns false'. Refute it at one input. -/
def fnScansWrong : ChangeSpec := { name := "fnScans", vars := ["loop.example/g00775/impl.errBad", "loop.example/g00775/impl.errFailed", "loop.example/g00775/impl.errSpent", "loop.example/g00775/impl.errCaught"], fn := fun _ => fun
  | [d, g1, g2, g3, g4] => { results := [.lit (.bool false)], args := [d], vars := [g1, g2, g3, g4] }
  | _ => none }
def FnScansWrongFalsely : Prop := fnScansRow.holds Tryz.pinned (OpenSpec.ofChange fnScansWrong)

/-- 'laws.FnExactTouched': WHATEVER THE INPUT: true; the input reads as it did. -/
def fnExactTouchedSpec : ChangeSpec := { name := "fnExactTouched", vars := ["loop.example/g00775/impl.errBad", "loop.example/g00775/impl.errFailed", "loop.example/g00775/impl.errSpent", "loop.example/g00775/impl.errCaught"], fn := fun _ => fun
  | [d1, d2, d3, d4, d5, g1, g2, g3, g4] => { results := [.lit (.bool true)], args := [d1, d2, d3, d4, d5], vars := [g1, g2, g3, g4] }
  | _ => none }
def fnExactTouchedRow : OpenClaim := { program := "yteopplldbcgjjaagreatdoor", sum := "d657e25a2a8fa8bd900a8db8c2dc182fb16012d5e1f69e9699e2d1795dbb9747", func := "loop.example/g00775/laws.FnExactTouched", spec := "fnExactTouched", inPlace := ["internal/reflectlite.ValueOf", "(internal/reflectlite.Value).Type", "(internal/reflectlite.Value).IsNil", "internal/reflectlite.TypeOf", "(internal/reflectlite.Value).Elem", "(internal/reflectlite.Value).Set"], unfollowed := true, recurses := true, named := ["loop.example/g00775/impl.errBad", "loop.example/g00775/impl.errFailed", "loop.example/g00775/impl.errSpent", "loop.example/g00775/impl.errCaught", "errors.errorType"], ifaces := true, plainKeys := false, apart := false, laid := [("errors.errorType", laid_errors_errorType), ("loop.example/g00775/impl.errBad", laid_loop_example_g00775_impl_errBad), ("loop.example/g00775/impl.errFailed", laid_loop_example_g00775_impl_errFailed), ("loop.example/g00775/impl.errSpent", laid_loop_example_g00775_impl_errSpent), ("loop.example/g00775/impl.errCaught", laid_loop_example_g00775_impl_errCaught)] }
def FnExactTouchedSaid : Prop := fnExactTouchedRow.holds Tryz.pinned (OpenSpec.ofChange fnExactTouchedSpec)

/-- ITS FALSE NEIGHBOUR: 'it returns false'. Refute it at one input. -/
def fnExactTouchedWrong : ChangeSpec := { name := "fnExactTouched", vars := ["loop.example/g00775/impl.errBad", "loop.example/g00775/impl.errFailed", "loop.example/g00775/impl.errSpent", "loop.example/g00775/impl.errCaught"], fn := fun _ => fun
  | [d1, d2, d3, d4, d5, g1, g2, g3, g4] => { results := [.lit (.bool false)], args := [d1, d2, d3, d4, d5], vars := [g1, g2, g3, g4] }
  | _ => none }
def FnExactTouchedWrongFalsely : Prop := fnExactTouchedRow.holds Tryz.pinned (OpenSpec.ofChange fnExactTouchedWrong)

/-- 'laws.FnExactScanned': WHATEVER THE INPUT: true; the input reads as it did. -/
def fnExactScannedSpec : ChangeSpec := { name := "fnExactScanned", vars := ["loop.example/g00775/impl.errBad", "loop.example/g00775/impl.errFailed", "loop.example/g00775/impl.errSpent", "loop.example/g00775/impl.errCaught"], fn := fun _ => fun
  | [d1, d2, d3, d4, g1, g2, g3, g4] => { results := [.lit (.bool true)], args := [d1, d2, d3, d4], vars := [g1, g2, g3, g4] }
  | _ => none }
def fnExactScannedRow : OpenClaim := { program := "yteopplldbcgjjaagreatdoor", sum := "d657e25a2a8fa8bd900a8db8c2dc182fb16012d5e1f69e9699e2d1795dbb9747", func := "loop.example/g00775/laws.FnExactScanned", spec := "fnExactScanned", inPlace := ["internal/reflectlite.ValueOf", "(internal/reflectlite.Value).Type", "(internal/reflectlite.Value).IsNil", "internal/reflectlite.TypeOf", "(internal/reflectlite.Value).Elem", "(internal/reflectlite.Value).Set"], unfollowed := true, recurses := true, named := ["loop.example/g00775/impl.errBad", "loop.example/g00775/impl.errFailed", "loop.example/g00775/impl.errSpent", "loop.example/g00775/impl.errCaught", "errors.errorType"], ifaces := true, plainKeys := false, apart := false, laid := [("errors.errorType", laid_errors_errorType), ("loop.example/g00775/impl.errBad", laid_loop_example_g00775_impl_errBad), ("loop.example/g00775/impl.errFailed", laid_loop_example_g00775_impl_errFailed), ("loop.example/g00775/impl.errSpent", laid_loop_example_g00775_impl_errSpent), ("loop.example/g00775/impl.errCaught", laid_loop_example_g00775_impl_errCaught)] }
def FnExactScannedSaid : Prop := fnExactScannedRow.holds Tryz.pinned (OpenSpec.ofChange fnExactScannedSpec)

/-- ITS FALSE NEIGHBOUR: 'it returns false'. Refute it at one input. -/
def fnExactScannedWrong : ChangeSpec := { name := "fnExactScanned", vars := ["loop.example/g00775/impl.errBad", "loop.example/g00775/impl.errFailed", "loop.example/g00775/impl.errSpent", "loop.example/g00775/impl.errCaught"], fn := fun _ => fun
  | [d1, d2, d3, d4, g1, g2, g3, g4] => { results := [.lit (.bool false)], args := [d1, d2, d3, d4], vars := [g1, g2, g3, g4] }
  | _ => none }
def FnExactScannedWrongFalsely : Prop := fnExactScannedRow.holds Tryz.pinned (OpenSpec.ofChange fnExactScannedWrong)

/- THE SECOND FORM. 'bulk': how many values and letters a reading holds, each counted each time it is reached (what is shared counts as often as it is met; a slice's spare places count too). A statement '..UptoSaid' is the law's where the arguments, and the package variables that the reading takes, are together of bulk at most 1048576: NARROWER than '..Said'. Prove '..Said' where nothing that the law and all that it calls make is longer than what came in: it says more and counts as full. Else prove '..UptoSaid'. A law counts once. -/
mutual
def uptoBulk {H : Type} : DataW H → Nat
  | .lit (.string bytes) => bytes.length + 1
  | .lit _ => 1
  | .nil => 1
  | .ptr d => uptoBulk d + 1
  | .slice elems spare => uptoBulkAll elems + uptoBulkAll spare + 1
  | .agg parts => uptoBulkAll parts + 1
  | .iface _ d => uptoBulk d + 1
  | .map entries => uptoBulkEntries entries + 1
  | .held _ => 1
def uptoBulkAll {H : Type} : List (DataW H) → Nat
  | [] => 0
  | d :: r => uptoBulk d + uptoBulkAll r
def uptoBulkEntries {H : Type} : List (Lit × DataW H) → Nat
  | [] => 0
  | x :: r => uptoBulkEntry x + uptoBulkEntries r
def uptoBulkEntry {H : Type} : Lit × DataW H → Nat
  | (.string bytes, d) => bytes.length + uptoBulk d + 1
  | (_, d) => uptoBulk d + 1
 end
def uptoSmall : (H : Type) → List (DataW H) → Bool := fun _ ds => decide (uptoBulkAll ds ≤ 1048576)
def OpenSpec.upto (s : _root_.Go.ChangeSpec) : _root_.Go.OpenSpec := { _root_.Go.OpenSpec.ofChange s with cond := some uptoSmall }

/-- 'laws.FnTouched', WHERE WHAT IT READS IS OF BULK AT MOST 1048576: true; the input reads as it did. -/
def fnTouchedUptoRow : OpenClaim := { program := "yteopplldbcgjjaagreatdoor", sum := "d657e25a2a8fa8bd900a8db8c2dc182fb16012d5e1f69e9699e2d1795dbb9747", func := "loop.example/g00775/laws.FnTouched", spec := "fnTouched", inPlace := ["internal/reflectlite.ValueOf", "(internal/reflectlite.Value).Type", "(internal/reflectlite.Value).IsNil", "internal/reflectlite.TypeOf", "(internal/reflectlite.Value).Elem", "(internal/reflectlite.Value).Set"], unfollowed := true, recurses := true, named := ["loop.example/g00775/impl.errBad", "loop.example/g00775/impl.errFailed", "loop.example/g00775/impl.errSpent", "loop.example/g00775/impl.errCaught", "errors.errorType"], ifaces := true, plainKeys := false, apart := false, laid := [("errors.errorType", laid_errors_errorType), ("loop.example/g00775/impl.errBad", laid_loop_example_g00775_impl_errBad), ("loop.example/g00775/impl.errFailed", laid_loop_example_g00775_impl_errFailed), ("loop.example/g00775/impl.errSpent", laid_loop_example_g00775_impl_errSpent), ("loop.example/g00775/impl.errCaught", laid_loop_example_g00775_impl_errCaught)], narrowed := true }
def FnTouchedUptoSaid : Prop := fnTouchedUptoRow.holds Tryz.pinned (OpenSpec.upto fnTouchedSpec)

/-- 'laws.FnScans', WHERE WHAT IT READS IS OF BULK AT MOST 1048576: true; the input reads as it did. -/
def fnScansUptoRow : OpenClaim := { program := "yteopplldbcgjjaagreatdoor", sum := "d657e25a2a8fa8bd900a8db8c2dc182fb16012d5e1f69e9699e2d1795dbb9747", func := "loop.example/g00775/laws.FnScans", spec := "fnScans", inPlace := ["internal/reflectlite.ValueOf", "(internal/reflectlite.Value).Type", "(internal/reflectlite.Value).IsNil", "internal/reflectlite.TypeOf", "(internal/reflectlite.Value).Elem", "(internal/reflectlite.Value).Set"], unfollowed := true, recurses := true, named := ["loop.example/g00775/impl.errBad", "loop.example/g00775/impl.errFailed", "loop.example/g00775/impl.errSpent", "loop.example/g00775/impl.errCaught", "errors.errorType"], ifaces := true, plainKeys := false, apart := false, laid := [("errors.errorType", laid_errors_errorType), ("loop.example/g00775/impl.errBad", laid_loop_example_g00775_impl_errBad), ("loop.example/g00775/impl.errFailed", laid_loop_example_g00775_impl_errFailed), ("loop.example/g00775/impl.errSpent", laid_loop_example_g00775_impl_errSpent), ("loop.example/g00775/impl.errCaught", laid_loop_example_g00775_impl_errCaught)], narrowed := true }
def FnScansUptoSaid : Prop := fnScansUptoRow.holds Tryz.pinned (OpenSpec.upto fnScansSpec)

/-- 'laws.FnExactTouched', WHERE WHAT IT READS IS OF BULK AT MOST 1048576: true; the input reads as it did. -/
def fnExactTouchedUptoRow : OpenClaim := { program := "yteopplldbcgjjaagreatdoor", sum := "d657e25a2a8fa8bd900a8db8c2dc182fb16012d5e1f69e9699e2d1795dbb9747", func := "loop.example/g00775/laws.FnExactTouched", spec := "fnExactTouched", inPlace := ["internal/reflectlite.ValueOf", "(internal/reflectlite.Value).Type", "(internal/reflectlite.Value).IsNil", "internal/reflectlite.TypeOf", "(internal/reflectlite.Value).Elem", "(internal/reflectlite.Value).Set"], unfollowed := true, recurses := true, named := ["loop.example/g00775/impl.errBad", "loop.example/g00775/impl.errFailed", "loop.example/g00775/impl.errSpent", "loop.example/g00775/impl.errCaught", "errors.errorType"], ifaces := true, plainKeys := false, apart := false, laid := [("errors.errorType", laid_errors_errorType), ("loop.example/g00775/impl.errBad", laid_loop_example_g00775_impl_errBad), ("loop.example/g00775/impl.errFailed", laid_loop_example_g00775_impl_errFailed), ("loop.example/g00775/impl.errSpent", laid_loop_example_g00775_impl_errSpent), ("loop.example/g00775/impl.errCaught", laid_loop_example_g00775_impl_errCaught)], narrowed := true }
def FnExactTouchedUptoSaid : Prop := fnExactTouchedUptoRow.holds Tryz.pinned (OpenSpec.upto fnExactTouchedSpec)

/-- 'laws.FnExactScanned', WHERE WHAT IT READS IS OF BULK AT MOST 1048576: true; the input reads as it did. -/
def fnExactScannedUptoRow : OpenClaim := { program := "yteopplldbcgjjaagreatdoor", sum := "d657e25a2a8fa8bd900a8db8c2dc182fb16012d5e1f69e9699e2d1795dbb9747", func := "loop.example/g00775/laws.FnExactScanned", spec := "fnExactScanned", inPlace := ["internal/reflectlite.ValueOf", "(internal/reflectlite.Value).Type", "(internal/reflectlite.Value).IsNil", "internal/reflectlite.TypeOf", "(internal/reflectlite.Value).Elem", "(internal/reflectlite.Value).Set"], unfollowed := true, recurses := true, named := ["loop.example/g00775/impl.errBad", "loop.example/g00775/impl.errFailed", "loop.example/g00775/impl.errSpent", "loop.example/g00775/impl.errCaught", "errors.errorType"], ifaces := true, plainKeys := false, apart := false, laid := [("errors.errorType", laid_errors_errorType), ("loop.example/g00775/impl.errBad", laid_loop_example_g00775_impl_errBad), ("loop.example/g00775/impl.errFailed", laid_loop_example_g00775_impl_errFailed), ("loop.example/g00775/impl.errSpent", laid_loop_example_g00775_impl_errSpent), ("loop.example/g00775/impl.errCaught", laid_loop_example_g00775_impl_errCaught)], narrowed := true }
def FnExactScannedUptoSaid : Prop := fnExactScannedUptoRow.holds Tryz.pinned (OpenSpec.upto fnExactScannedSpec)

end Rows
end Go.Proofs.YteopplldbcgjjaaGreatDoor

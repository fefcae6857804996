/-
  NARROWER THAN 'FOR EVERY INPUT', by the rows' own cells (each row's printed sentence says how): FnTouched: ifaces, laid · FnExactTouched: ifaces, laid.
  DERIVED. THE GIVEN ROWS OF THIS SEAT. 2 by the template 'for every input the law returns true; each argument reads behind the call as it read before'; 0 by the template 'total and deterministic' (their statements: YthbkccagpggljaaGreatDoorTotals.lean).
  GIVEN WITH THE SEED: the statements are not yours to turn. If you find one false, say at which input.
  Laid BY PROGRAM, IN A SANDBOX (cutbox-rows.mjs): the forced cells as the released guide's own fill.sh prints them over the translation 6cf5492407fbf858… (all of the seat's roots in one cut). By AI agents, Wed Nov 11 2026. No macro, syntax, notation, axiom, sorry.
-/
import Derived.Test.YthbkccagpggljaaGreatDoorChecked
import GoSem.Claim
import GoSem.ClaimJoined
import GoSem.ClaimMapViews
import Derived.JoinedTies
import Derived.KernelRfl
namespace Go.Proofs.YthbkccagpggljaaGreatDoor
/- THE CELL 'sum', in the pinned program and in every row, IS THE sha256 OF THE DUMP (.gsa) THAT YthbkccagpggljaaGreatDoorProg.lean LOADS. Nothing in Lean hashes anything: it is a label: what it is worth is what the hold of that sum in a sandbox is worth. -/
noncomputable def Tryz.pinned : Pinned := { name := "ythbkccagpggljaagreatdoor", sum := "6cf5492407fbf858b20010fc72701ebd8f65b15203d043f259a7b8aee7fdbdae", checked := Tryz.checked }
namespace Rows
def none {H : Type} : Left H := { results := [], args := [] }

/- WHAT THE LISTED PACKAGE-LEVEL VARIABLES READ AS WHEN THE CALL BEGINS. Each datum BY PROGRAM (the guide's laid-datum.mjs) off the statement by which the dump's own 'gosem.cut.vars' lays the variable. In a bare row this is a premise. The card (YthbkccagpggljaaGreatDoorCards.lean) ties it to the program's text. -/
def laid_errors_errorType {H : Type} : DataW H := .iface "internal/reflectlite.rtype" (.agg [.ptr (.lit (.string [101, 114, 114, 111, 114]))])
def laid_loop_example_g00775_impl_errBad {H : Type} : DataW H := .iface "*errors.errorString" (.ptr (.agg [.lit (.string [110, 111, 116, 32, 114, 105, 103, 104, 116])]))
def laid_loop_example_g00775_impl_errFailed {H : Type} : DataW H := .iface "*errors.errorString" (.ptr (.agg [.lit (.string [102, 97, 105, 108, 101, 100, 32, 98, 101, 102, 111, 114, 101])]))
def laid_loop_example_g00775_impl_errSpent {H : Type} : DataW H := .iface "*errors.errorString" (.ptr (.agg [.lit (.string [105, 116, 115, 32, 116, 105, 109, 101, 32, 105, 115, 32, 111, 118, 101, 114])]))
def laid_loop_example_g00775_impl_errCaught {H : Type} : DataW H := .iface "*errors.errorString" (.ptr (.agg [.lit (.string [108, 97, 116, 101, 114, 32, 116, 104, 97, 110, 32, 116, 104, 101, 32, 99, 108, 111, 99, 107])]))

/-- 'laws.FnTouched': WHATEVER THE INPUT: true; the input reads as it did. -/
def fnTouchedSpec : ChangeSpec := { name := "fnTouched", vars := ["loop.example/g00775/impl.errBad", "loop.example/g00775/impl.errFailed", "loop.example/g00775/impl.errSpent", "loop.example/g00775/impl.errCaught"], fn := fun _ => fun
  | [d, g1, g2, g3, g4] => { results := [.lit (.bool true)], args := [d], vars := [g1, g2, g3, g4] }
  | _ => none }
def fnTouchedRow : OpenClaim := { program := "ythbkccagpggljaagreatdoor", sum := "6cf5492407fbf858b20010fc72701ebd8f65b15203d043f259a7b8aee7fdbdae", func := "loop.example/g00775/laws.FnTouched", spec := "fnTouched", inPlace := ["internal/reflectlite.ValueOf", "(internal/reflectlite.Value).Type", "(internal/reflectlite.Value).IsNil", "internal/reflectlite.TypeOf", "(internal/reflectlite.Value).Elem", "(internal/reflectlite.Value).Set"], unfollowed := true, recurses := true, named := ["loop.example/g00775/impl.errBad", "loop.example/g00775/impl.errFailed", "loop.example/g00775/impl.errSpent", "loop.example/g00775/impl.errCaught", "errors.errorType"], ifaces := true, plainKeys := false, apart := false, laid := [("errors.errorType", laid_errors_errorType), ("loop.example/g00775/impl.errBad", laid_loop_example_g00775_impl_errBad), ("loop.example/g00775/impl.errFailed", laid_loop_example_g00775_impl_errFailed), ("loop.example/g00775/impl.errSpent", laid_loop_example_g00775_impl_errSpent), ("loop.example/g00775/impl.errCaught", laid_loop_example_g00775_impl_errCaught)] }
def FnTouchedSaid : Prop := fnTouchedRow.holds Tryz.pinned (OpenSpec.ofChange fnTouchedSpec)

/-- ITS FALSE NEIGHBOUR: 'it returns false'. Refute it at one input. -/
def fnTouchedWrong : ChangeSpec := { name := "fnTouched", vars := ["loop.example/g00775/impl.errBad", "loop.example/g00775/impl.errFailed", "loop.example/g00775/impl.errSpent", "loop.example/g00775/impl.errCaught"], fn := fun _ => fun
  | [d, g1, g2, g3, g4] => { results := [.lit (.bool false)], args := [d], vars := [g1, g2, g3, g4] }
  | _ => none }
def FnTouchedWrongFalsely : Prop := fnTouchedRow.holds Tryz.pinned (OpenSpec.ofChange fnTouchedWrong)

/-- 'laws.FnExactTouched': WHATEVER THE INPUT: true; the input reads as it did. -/
def fnExactTouchedSpec : ChangeSpec := { name := "fnExactTouched", vars := ["loop.example/g00775/impl.errBad", "loop.example/g00775/impl.errFailed", "loop.example/g00775/impl.errSpent", "loop.example/g00775/impl.errCaught"], fn := fun _ => fun
  | [d1, d2, d3, d4, d5, g1, g2, g3, g4] => { results := [.lit (.bool true)], args := [d1, d2, d3, d4, d5], vars := [g1, g2, g3, g4] }
  | _ => none }
def fnExactTouchedRow : OpenClaim := { program := "ythbkccagpggljaagreatdoor", sum := "6cf5492407fbf858b20010fc72701ebd8f65b15203d043f259a7b8aee7fdbdae", func := "loop.example/g00775/laws.FnExactTouched", spec := "fnExactTouched", inPlace := ["internal/reflectlite.ValueOf", "(internal/reflectlite.Value).Type", "(internal/reflectlite.Value).IsNil", "internal/reflectlite.TypeOf", "(internal/reflectlite.Value).Elem", "(internal/reflectlite.Value).Set"], unfollowed := true, recurses := true, named := ["loop.example/g00775/impl.errBad", "loop.example/g00775/impl.errFailed", "loop.example/g00775/impl.errSpent", "loop.example/g00775/impl.errCaught", "errors.errorType"], ifaces := true, plainKeys := false, apart := false, laid := [("errors.errorType", laid_errors_errorType), ("loop.example/g00775/impl.errBad", laid_loop_example_g00775_impl_errBad), ("loop.example/g00775/impl.errFailed", laid_loop_example_g00775_impl_errFailed), ("loop.example/g00775/impl.errSpent", laid_loop_example_g00775_impl_errSpent), ("loop.example/g00775/impl.errCaught", laid_loop_example_g00775_impl_errCaught)] }
def FnExactTouchedSaid : Prop := fnExactTouchedRow.holds Tryz.pinned (OpenSpec.ofChange fnExactTouchedSpec)

/-- ITS FALSE NEIGHBOUR: 'it returns false'. Refute it at one input. -/
def fnExactTouchedWrong : ChangeSpec := { name := "fnExactTouched", vars := ["loop.example/g00775/impl.errBad", "loop.example/g00775/impl.errFailed", "loop.example/g00775/impl.errSpent", "loop.example/g00775/impl.errCaught"], fn := fun _ => fun
  | [d1, d2, d3, d4, d5, g1, g2, g3, g4] => { results := [.lit (.bool false)], args := [d1, d2, d3, d4, d5], vars := [g1, g2, g3, g4] }
  | _ => none }
def FnExactTouchedWrongFalsely : Prop := fnExactTouchedRow.holds Tryz.pinned (OpenSpec.ofChange fnExactTouchedWrong)

/- THE SECOND FORM. 'bulk': how many values and letters a reading holds, each counted each time it is reached (what is shared counts as often as it is met; a slice's spare places count too). A statement '..UptoSaid' is the law's where the arguments, and the package variables that the reading takes, are together of bulk at most 1048576: NARROWER than '..Said'. Prove '..Said' where nothing that the law and all that it calls make is longer than what came in: it says more and counts as full. Else prove '..UptoSaid'. A law counts once. -/
mutual
def uptoBulk {H : Type} : DataW H → Nat
  | .lit (.string bytes) => bytes.length + 1
  | .lit _ => 1
  | .nil => 1
  | .ptr d => uptoBulk d + 1
  | .slice elems spare => uptoBulkAll elems + uptoBulkAll spare + 1
  | .agg parts => uptoBulkAll parts + 1
  | .iface _ d => uptoBulk d + 1
  | .map entries => uptoBulkEntries entries + 1
  | .held _ => 1
def uptoBulkAll {H : Type} : List (DataW H) → Nat
  | [] => 0
  | d :: r => uptoBulk d + uptoBulkAll r
def uptoBulkEntries {H : Type} : List (Lit × DataW H) → Nat
  | [] => 0
  | x :: r => uptoBulkEntry x + uptoBulkEntries r
def uptoBulkEntry {H : Type} : Lit × DataW H → Nat
  | (.string bytes, d) => bytes.length + uptoBulk d + 1
  | (_, d) => uptoBulk d + 1
 end
def uptoSmall : (H : Type) → List (DataW H) → Bool := fun _ ds => decide (uptoBulkAll ds ≤ 1048576)
def OpenSpec.upto (s : _root_.Go.ChangeSpec) : _root_.Go.OpenSpec := { _root_.Go.OpenSpec.ofChange s with cond := some uptoSmall }

/-- 'laws.FnTouched', WHERE WHAT IT READS IS OF BULK AT MOST 1048576: true; the input reads as it did. -/
def fnTouchedUptoRow : OpenClaim := { program := "ythbkccagpggljaagreatdoor", sum := "6cf5492407fbf858b20010fc72701ebd8f65b15203d043f259a7b8aee7fdbdae", func := "loop.example/g00775/laws.FnTouched", spec := "fnTouched", inPlace := ["internal/reflectlite.ValueOf", "(internal/reflectlite.Value).Type", "(internal/reflectlite.Value).IsNil", "internal/reflectlite.TypeOf", "(internal/reflectlite.Value).Elem", "(internal/reflectlite.Value).Set"], unfollowed := true, recurses := true, named := ["loop.example/g00775/impl.errBad", "loop.example/g00775/impl.errFailed", "loop.example/g00775/impl.errSpent", "loop.example/g00775/impl.errCaught", "errors.errorType"], ifaces := true, plainKeys := false, apart := false, laid := [("errors.errorType", laid_errors_errorType), ("loop.example/g00775/impl.errBad", laid_loop_example_g00775_impl_errBad), ("loop.example/g00775/impl.errFailed", laid_loop_example_g00775_impl_errFailed), ("loop.example/g00775/impl.errSpent", laid_loop_example_g00775_impl_errSpent), ("loop.example/g00775/impl.errCaught", laid_loop_example_g00775_impl_errCaught)], narrowed := true }
def FnTouchedUptoSaid : Prop := fnTouchedUptoRow.holds Tryz.pinned (OpenSpec.upto fnTouchedSpec)

/-- 'laws.FnExactTouched', WHERE WHAT IT READS IS OF BULK AT MOST 1048576: true; the input reads as it did. -/
def fnExactTouchedUptoRow : OpenClaim := { program := "ythbkccagpggljaagreatdoor", sum := "6cf5492407fbf858b20010fc72701ebd8f65b15203d043f259a7b8aee7fdbdae", func := "loop.example/g00775/laws.FnExactTouched", spec := "fnExactTouched", inPlace := ["internal/reflectlite.ValueOf", "(internal/reflectlite.Value).Type", "(internal/reflectlite.Value).IsNil", "internal/reflectlite.TypeOf", "(internal/reflectlite.Value).Elem", "(internal/reflectlite.Value).Set"], unfollowed := true, recurses := true, named := ["loop.example/g00775/impl.errBad", "loop.example/g00775/impl.errFailed", "loop.example/g00775/impl.errSpent", "loop.example/g00775/impl.errCaught", "errors.errorType"], ifaces := true, plainKeys := false, apart := false, laid := [("errors.errorType", laid_errors_errorType), ("loop.example/g00775/impl.errBad", laid_loop_example_g00775_impl_errBad), ("loop.example/g00775/impl.errFailed", laid_loop_example_g00775_impl_errFailed), ("loop.example/g00775/impl.errSpent", laid_loop_example_g00775_impl_errSpent), ("loop.example/g00775/impl.errCaught", laid_loop_example_g00775_impl_errCaught)], narrowed := true }
def FnExactTouchedUptoSaid : Prop := fnExactTouchedUptoRow.holds Tryz.pinned (OpenSpec.upto fnExactTouchedSpec)

end Rows
end Go.Proofs.YthbkccagpggljaaGreatDoor

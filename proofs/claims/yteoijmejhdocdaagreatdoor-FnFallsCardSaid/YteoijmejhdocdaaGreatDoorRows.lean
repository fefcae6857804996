/-
  NARROWER THAN 'FOR EVERY INPUT', by the rows' own cells (each row's printed sentence says how): FnVolumes: ifaces, laid · FnFalls: ifaces, laid · FnExactSavedTo: ifaces, laid · FnExactFallen: ifaces, laid · FnExactSpoilt: ifaces, laid.
  DERIVED. THE GIVEN ROWS OF THIS SEAT. 5 by the template 'for every input the law returns true; each argument reads behind the call as it read before'; 0 by the template 'total and deterministic' (their statements: YteoijmejhdocdaaGreatDoorTotals.lean).
  GIVEN WITH THE SEED: the statements are not yours to turn. If you find one false, say at which input.
  Laid BY PROGRAM, IN A SANDBOX (cutbox-rows.mjs): the forced cells as the released guide's own fill.sh prints them over the translation 0dcef1664f388518… (all of the seat's roots in one cut). By AI agents, Wed Nov 11 2026. No macro, syntax, notation, axiom, sorry.
-/
import Derived.Test.YteoijmejhdocdaaGreatDoorChecked
import GoSem.Claim
import GoSem.ClaimJoined
import GoSem.ClaimMapViews
import Derived.JoinedTies
import Derived.KernelRfl
namespace Go.Proofs.YteoijmejhdocdaaGreatDoor
/- THE CELL 'sum', in the pinned program and in every row, IS THE sha256 OF THE DUMP (.gsa) THAT YteoijmejhdocdaaGreatDoorProg.lean LOADS. Nothing in Lean hashes anything: it is a label: what it is worth is what the hold of that sum in a sandbox is worth. -/
noncomputable def Tryz.pinned : Pinned := { name := "yteoijmejhdocdaagreatdoor", sum := "0dcef1664f38851827ec1d077cef06233668036c9a63afe184add3cd5b85b6fb", checked := Tryz.checked }
namespace Rows
def none {H : Type} : Left H := { results := [], args := [] }

/- WHAT THE LISTED PACKAGE-LEVEL VARIABLES READ AS WHEN THE CALL BEGINS. Each datum BY PROGRAM (the guide's laid-datum.mjs) off the statement by which the dump's own 'gosem.cut.vars' lays the variable. In a bare row this is a premise. The card (YteoijmejhdocdaaGreatDoorCards.lean) ties it to the program's text. -/
def laid_errors_errorType {H : Type} : DataW H := .iface "internal/reflectlite.rtype" (.agg [.ptr (.lit (.string [101, 114, 114, 111, 114]))])
def laid_loop_example_g00775_impl_errBad {H : Type} : DataW H := .iface "*errors.errorString" (.ptr (.agg [.lit (.string [110, 111, 116, 32, 114, 105, 103, 104, 116])]))
def laid_loop_example_g00775_impl_errFailed {H : Type} : DataW H := .iface "*errors.errorString" (.ptr (.agg [.lit (.string [102, 97, 105, 108, 101, 100, 32, 98, 101, 102, 111, 114, 101])]))
def laid_loop_example_g00775_impl_errSpent {H : Type} : DataW H := .iface "*errors.errorString" (.ptr (.agg [.lit (.string [105, 116, 115, 32, 116, 105, 109, 101, 32, 105, 115, 32, 111, 118, 101, 114])]))
def laid_loop_example_g00775_impl_errCaught {H : Type} : DataW H := .iface "*errors.errorString" (.ptr (.agg [.lit (.string [108, 97, 116, 101, 114, 32, 116, 104, 97, 110, 32, 116, 104, 101, 32, 99, 108, 111, 99, 107])]))

/-- 'laws.FnVolumes': WHATEVER THE INPUT: true; the input reads as it did. -/
def fnVolumesSpec : ChangeSpec := { name := "fnVolumes", vars := ["loop.example/g00775/impl.errBad", "loop.example/g00775/impl.errFailed", "loop.example/g00775/impl.errSpent", "loop.example/g00775/impl.errCaught"], fn := fun _ => fun
  | [d, g1, g2, g3, g4] => { results := [.lit (.bool true)], args := [d], vars := [g1, g2, g3, g4] }
  | _ => none }
def fnVolumesRow : OpenClaim := { program := "yteoijmejhdocdaagreatdoor", sum := "0dcef1664f38851827ec1d077cef06233668036c9a63afe184add3cd5b85b6fb", func := "loop.example/g00775/laws.FnVolumes", spec := "fnVolumes", inPlace := ["internal/reflectlite.ValueOf", "(internal/reflectlite.Value).Type", "(internal/reflectlite.Value).IsNil", "internal/reflectlite.TypeOf", "(internal/reflectlite.Value).Elem", "(internal/reflectlite.Value).Set"], unfollowed := true, recurses := true, named := ["loop.example/g00775/impl.errBad", "loop.example/g00775/impl.errFailed", "loop.example/g00775/impl.errSpent", "loop.example/g00775/impl.errCaught", "errors.errorType"], ifaces := true, plainKeys := false, apart := false, laid := [("errors.errorType", laid_errors_errorType), ("loop.example/g00775/impl.errBad", laid_loop_example_g00775_impl_errBad), ("loop.example/g00775/impl.errFailed", laid_loop_example_g00775_impl_errFailed), ("loop.example/g00775/impl.errSpent", laid_loop_example_g00775_impl_errSpent), ("loop.example/g00775/impl.errCaught", laid_loop_example_g00775_impl_errCaught)] }
def FnVolumesSaid : Prop := fnVolumesRow.holds Tryz.pinned (OpenSpec.ofChange fnVolumesSpec)

/-- ITS FALSE NEIGHBOUR: 'it returns false'. Refute it at one input. -/
def fnVolumesWrong : ChangeSpec := { name := "fnVolumes", vars := ["loop.example/g00775/impl.errBad", "loop.example/g00775/impl.errFailed", "loop.example/g00775/impl.errSpent", "loop.example/g00775/impl.errCaught"], fn := fun _ => fun
  | [d, g1, g2, g3, g4] => { results := [.lit (.bool false)], args := [d], vars := [g1, g2, g3, g4] }
  | _ => none }
def FnVolumesWrongFalsely : Prop := fnVolumesRow.holds Tryz.pinned (OpenSpec.ofChange fnVolumesWrong)

/-- 'laws.FnFalls': WHATEVER THE INPUT: true; the input reads as it did. -/
def fnFallsSpec : ChangeSpec := { name := "fnFalls", vars := ["loop.example/g00775/impl.errBad"], fn := fun _ => fun
  | [d, g1] => { results := [.lit (.bool true)], args := [d], vars := [g1] }
  | _ => none }
def fnFallsRow : OpenClaim := { program := "yteoijmejhdocdaagreatdoor", sum := "0dcef1664f38851827ec1d077cef06233668036c9a63afe184add3cd5b85b6fb", func := "loop.example/g00775/laws.FnFalls", spec := "fnFalls", unfollowed := true, recurses := true, named := ["loop.example/g00775/impl.errBad"], ifaces := true, plainKeys := false, apart := false, laid := [("loop.example/g00775/impl.errBad", laid_loop_example_g00775_impl_errBad)] }
def FnFallsSaid : Prop := fnFallsRow.holds Tryz.pinned (OpenSpec.ofChange fnFallsSpec)

/-- ITS FALSE NEIGHBOUR: 'it returns false'. Refute it at one input. -/
def fnFallsWrong : ChangeSpec := { name := "fnFalls", vars := ["loop.example/g00775/impl.errBad"], fn := fun _ => fun
  | [d, g1] => { results := [.lit (.bool false)], args := [d], vars := [g1] }
  | _ => none }
def FnFallsWrongFalsely : Prop := fnFallsRow.holds Tryz.pinned (OpenSpec.ofChange fnFallsWrong)

/-- 'laws.FnExactSavedTo': WHATEVER THE INPUT: true; the input reads as it did. -/
def fnExactSavedToSpec : ChangeSpec := { name := "fnExactSavedTo", vars := ["loop.example/g00775/impl.errBad"], fn := fun _ => fun
  | [d1, d2, g1] => { results := [.lit (.bool true)], args := [d1, d2], vars := [g1] }
  | _ => none }
def fnExactSavedToRow : OpenClaim := { program := "yteoijmejhdocdaagreatdoor", sum := "0dcef1664f38851827ec1d077cef06233668036c9a63afe184add3cd5b85b6fb", func := "loop.example/g00775/laws.FnExactSavedTo", spec := "fnExactSavedTo", unfollowed := true, recurses := true, named := ["loop.example/g00775/impl.errBad"], ifaces := true, plainKeys := false, apart := false, laid := [("loop.example/g00775/impl.errBad", laid_loop_example_g00775_impl_errBad)] }
def FnExactSavedToSaid : Prop := fnExactSavedToRow.holds Tryz.pinned (OpenSpec.ofChange fnExactSavedToSpec)

/-- ITS FALSE NEIGHBOUR: 'it returns false'. Refute it at one input. -/
def fnExactSavedToWrong : ChangeSpec := { name := "fnExactSavedTo", vars := ["loop.example/g00775/impl.errBad"], fn := fun _ => fun
  | [d1, d2, g1] => { results := [.lit (.bool false)], args := [d1, d2], vars := [g1] }
  | _ => none }
def FnExactSavedToWrongFalsely : Prop := fnExactSavedToRow.holds Tryz.pinned (OpenSpec.ofChange fnExactSavedToWrong)

/-- 'laws.FnExactFallen': WHATEVER THE INPUT: true; the input reads as it did. -/
def fnExactFallenSpec : ChangeSpec := { name := "fnExactFallen", vars := ["loop.example/g00775/impl.errBad"], fn := fun _ => fun
  | [d, g1] => { results := [.lit (.bool true)], args := [d], vars := [g1] }
  | _ => none }
def fnExactFallenRow : OpenClaim := { program := "yteoijmejhdocdaagreatdoor", sum := "0dcef1664f38851827ec1d077cef06233668036c9a63afe184add3cd5b85b6fb", func := "loop.example/g00775/laws.FnExactFallen", spec := "fnExactFallen", unfollowed := true, recurses := true, named := ["loop.example/g00775/impl.errBad"], ifaces := true, plainKeys := false, apart := false, laid := [("loop.example/g00775/impl.errBad", laid_loop_example_g00775_impl_errBad)] }
def FnExactFallenSaid : Prop := fnExactFallenRow.holds Tryz.pinned (OpenSpec.ofChange fnExactFallenSpec)

/-- ITS FALSE NEIGHBOUR: 'it returns false'. Refute it at one input. -/
def fnExactFallenWrong : ChangeSpec := { name := "fnExactFallen", vars := ["loop.example/g00775/impl.errBad"], fn := fun _ => fun
  | [d, g1] => { results := [.lit (.bool false)], args := [d], vars := [g1] }
  | _ => none }
def FnExactFallenWrongFalsely : Prop := fnExactFallenRow.holds Tryz.pinned (OpenSpec.ofChange fnExactFallenWrong)

/-- 'laws.FnExactSpoilt': WHATEVER THE INPUT: true; the input reads as it did. -/
def fnExactSpoiltSpec : ChangeSpec := { name := "fnExactSpoilt", vars := ["loop.example/g00775/impl.errBad"], fn := fun _ => fun
  | [d1, d2, g1] => { results := [.lit (.bool true)], args := [d1, d2], vars := [g1] }
  | _ => none }
def fnExactSpoiltRow : OpenClaim := { program := "yteoijmejhdocdaagreatdoor", sum := "0dcef1664f38851827ec1d077cef06233668036c9a63afe184add3cd5b85b6fb", func := "loop.example/g00775/laws.FnExactSpoilt", spec := "fnExactSpoilt", unfollowed := true, recurses := true, named := ["loop.example/g00775/impl.errBad"], ifaces := true, plainKeys := false, apart := false, laid := [("loop.example/g00775/impl.errBad", laid_loop_example_g00775_impl_errBad)] }
def FnExactSpoiltSaid : Prop := fnExactSpoiltRow.holds Tryz.pinned (OpenSpec.ofChange fnExactSpoiltSpec)

/-- ITS FALSE NEIGHBOUR: 'it returns false'. Refute it at one input. -/
def fnExactSpoiltWrong : ChangeSpec := { name := "fnExactSpoilt", vars := ["loop.example/g00775/impl.errBad"], fn := fun _ => fun
  | [d1, d2, g1] => { results := [.lit (.bool false)], args := [d1, d2], vars := [g1] }
  | _ => none }
def FnExactSpoiltWrongFalsely : Prop := fnExactSpoiltRow.holds Tryz.pinned (OpenSpec.ofChange fnExactSpoiltWrong)

/- THE SECOND FORM. 'bulk': how many values and letters a reading holds, each counted each time it is reached (what is shared counts as often as it is met; a slice's spare places count too). A statement '..UptoSaid' is the law's where the arguments, and the package variables that the reading takes, are together of bulk at most 1048576: NARROWER than '..Said'. Prove '..Said' where nothing that the law and all that it calls make is longer than what came in: it says more and counts as full. Else prove '..UptoSaid'. A law counts once. -/
mutual
def uptoBulk {H : Type} : DataW H → Nat
  | .lit (.string bytes) => bytes.length + 1
  | .lit _ => 1
  | .nil => 1
  | .ptr d => uptoBulk d + 1
  | .slice elems spare => uptoBulkAll elems + uptoBulkAll spare + 1
  | .agg parts => uptoBulkAll parts + 1
  | .iface _ d => uptoBulk d + 1
  | .map entries => uptoBulkEntries entries + 1
  | .held _ => 1
def uptoBulkAll {H : Type} : List (DataW H) → Nat
  | [] => 0
  | d :: r => uptoBulk d + uptoBulkAll r
def uptoBulkEntries {H : Type} : List (Lit × DataW H) → Nat
  | [] => 0
  | x :: r => uptoBulkEntry x + uptoBulkEntries r
def uptoBulkEntry {H : Type} : Lit × DataW H → Nat
  | (.string bytes, d) => bytes.length + uptoBulk d + 1
  | (_, d) => uptoBulk d + 1
 end
def uptoSmall : (H : Type) → List (DataW H) → Bool := fun _ ds => decide (uptoBulkAll ds ≤ 1048576)
def OpenSpec.upto (s : _root_.Go.ChangeSpec) : _root_.Go.OpenSpec := { _root_.Go.OpenSpec.ofChange s with cond := some uptoSmall }

/-- 'laws.FnVolumes', WHERE WHAT IT READS IS OF BULK AT MOST 1048576: true; the input reads as it did. -/
def fnVolumesUptoRow : OpenClaim := { program := "yteoijmejhdocdaagreatdoor", sum := "0dcef1664f38851827ec1d077cef06233668036c9a63afe184add3cd5b85b6fb", func := "loop.example/g00775/laws.FnVolumes", spec := "fnVolumes", inPlace := ["internal/reflectlite.ValueOf", "(internal/reflectlite.Value).Type", "(internal/reflectlite.Value).IsNil", "internal/reflectlite.TypeOf", "(internal/reflectlite.Value).Elem", "(internal/reflectlite.Value).Set"], unfollowed := true, recurses := true, named := ["loop.example/g00775/impl.errBad", "loop.example/g00775/impl.errFailed", "loop.example/g00775/impl.errSpent", "loop.example/g00775/impl.errCaught", "errors.errorType"], ifaces := true, plainKeys := false, apart := false, laid := [("errors.errorType", laid_errors_errorType), ("loop.example/g00775/impl.errBad", laid_loop_example_g00775_impl_errBad), ("loop.example/g00775/impl.errFailed", laid_loop_example_g00775_impl_errFailed), ("loop.example/g00775/impl.errSpent", laid_loop_example_g00775_impl_errSpent), ("loop.example/g00775/impl.errCaught", laid_loop_example_g00775_impl_errCaught)], narrowed := true }
def FnVolumesUptoSaid : Prop := fnVolumesUptoRow.holds Tryz.pinned (OpenSpec.upto fnVolumesSpec)

/-- 'laws.FnFalls', WHERE WHAT IT READS IS OF BULK AT MOST 1048576: true; the input reads as it did. -/
def fnFallsUptoRow : OpenClaim := { program := "yteoijmejhdocdaagreatdoor", sum := "0dcef1664f38851827ec1d077cef06233668036c9a63afe184add3cd5b85b6fb", func := "loop.example/g00775/laws.FnFalls", spec := "fnFalls", unfollowed := true, recurses := true, named := ["loop.example/g00775/impl.errBad"], ifaces := true, plainKeys := false, apart := false, laid := [("loop.example/g00775/impl.errBad", laid_loop_example_g00775_impl_errBad)], narrowed := true }
def FnFallsUptoSaid : Prop := fnFallsUptoRow.holds Tryz.pinned (OpenSpec.upto fnFallsSpec)

/-- 'laws.FnExactSavedTo', WHERE WHAT IT READS IS OF BULK AT MOST 1048576: true; the input reads as it did. -/
def fnExactSavedToUptoRow : OpenClaim := { program := "yteoijmejhdocdaagreatdoor", sum := "0dcef1664f38851827ec1d077cef06233668036c9a63afe184add3cd5b85b6fb", func := "loop.example/g00775/laws.FnExactSavedTo", spec := "fnExactSavedTo", unfollowed := true, recurses := true, named := ["loop.example/g00775/impl.errBad"], ifaces := true, plainKeys := false, apart := false, laid := [("loop.example/g00775/impl.errBad", laid_loop_example_g00775_impl_errBad)], narrowed := true }
def FnExactSavedToUptoSaid : Prop := fnExactSavedToUptoRow.holds Tryz.pinned (OpenSpec.upto fnExactSavedToSpec)

/-- 'laws.FnExactFallen', WHERE WHAT IT READS IS OF BULK AT MOST 1048576: true; the input reads as it did. -/
def fnExactFallenUptoRow : OpenClaim := { program := "yteoijmejhdocdaagreatdoor", sum := "0dcef1664f38851827ec1d077cef06233668036c9a63afe184add3cd5b85b6fb", func := "loop.example/g00775/laws.FnExactFallen", spec := "fnExactFallen", unfollowed := true, recurses := true, named := ["loop.example/g00775/impl.errBad"], ifaces := true, plainKeys := false, apart := false, laid := [("loop.example/g00775/impl.errBad", laid_loop_example_g00775_impl_errBad)], narrowed := true }
def FnExactFallenUptoSaid : Prop := fnExactFallenUptoRow.holds Tryz.pinned (OpenSpec.upto fnExactFallenSpec)

/-- 'laws.FnExactSpoilt', WHERE WHAT IT READS IS OF BULK AT MOST 1048576: true; the input reads as it did. -/
def fnExactSpoiltUptoRow : OpenClaim := { program := "yteoijmejhdocdaagreatdoor", sum := "0dcef1664f38851827ec1d077cef06233668036c9a63afe184add3cd5b85b6fb", func := "loop.example/g00775/laws.FnExactSpoilt", spec := "fnExactSpoilt", unfollowed := true, recurses := true, named := ["loop.example/g00775/impl.errBad"], ifaces := true, plainKeys := false, apart := false, laid := [("loop.example/g00775/impl.errBad", laid_loop_example_g00775_impl_errBad)], narrowed := true }
def FnExactSpoiltUptoSaid : Prop := fnExactSpoiltUptoRow.holds Tryz.pinned (OpenSpec.upto fnExactSpoiltSpec)

end Rows
end Go.Proofs.YteoijmejhdocdaaGreatDoor

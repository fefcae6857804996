/- A REGION THAT DRAWS ITS ORDER, WHOSE OPERATIONS ARE QUIET IN A CLASS OF WORLDS ('nothing that was there has turned, these cells hold this'): one walk in the order of the text; callees may make memory. No program in sight. -/
import Derived.Test.YthbkccagpggljaaMem
import Derived.Deep.QuietTactic
import Derived.BigQuiet
namespace Go.Proofs.Ythbkccagpggljaa.Mx
open Go.RowKit
set_option linter.unusedVariables false

/-- The library's law of quiet regions, at whatever class of worlds. -/
theorem wp_region_class {P : Program} {C : World → Prop} {id : Nat} {Q : Exit → Act → World → Prop} {a : Act} {w : World} {l : List Oper} (hm : P.follows .mixedOrders = true) (hB : Region.lexB .any l.toArray = true) (hC : C w.drew)
    (h : wpQuiet P l.toArray C (fun a' => ∀ w', C w' → Q .normal a' w') l a) : (Code.region id l.toArray true).wp P Q a w :=
  wp_region_quiet (C := C) hm hB hC (by simpa using h)
/-- A callee that hands back the world that it got. -/
theorem class_same {P : Program} {C : World → Prop} {f : FuncId} {args : Array Value} {u : World} {v : Value} (hu : C u) (h : Calls P f args u fun e w' => e = .returned v ∧ u = w') : Calls P f args u fun e w' => e = .returned v ∧ C w' :=
  h.mono fun e w' ⟨he, hw⟩ => ⟨he, hw ▸ hu⟩
end Go.Proofs.Ythbkccagpggljaa.Mx

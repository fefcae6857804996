/- THE WALKS OF laws.FnExactCellOk, CellOf, ValueIn, TripleIn, GIVEN WHAT THE CODE'S FOUR FUNCTIONS ANSWER: each returns true at every argument, and writes nothing that was there. -/
import Derived.Test.YthbkccagpggljaaCellS
namespace Go.Proofs.Ythbkccagpggljaa.Mx
open Go.ChangeShapes Go.WideShapes Go.ChangeAt Go.RowKit
set_option linter.unusedVariables false

def AnsCellOf : Prop := ∀ (key a t v : Int) (w : World), I64 key → I64 a → I64 t → I64 v → Calls Try.prog 44 #[.int .i64 key, .int .i64 a, .int .i64 t, .int .i64 v] w fun e w' => e = .returned (.agg #[.int .i64 (cellOf key a t v).1, .int .i64 (cellOf key a t v).2]) ∧ Below w.heap.size w w'
def AnsTripleIn : Prop := ∀ (a t v : Int) (w : World), I64 a → I64 t → I64 v → Calls Try.prog 54 #[.int .i64 a, .agg #[.int .i64 t, .int .i64 v]] w fun e w' => e = .returned (.agg #[.int .i64 (tripleIn a t v).1, .int .i64 (tripleIn a t v).2.1, .int .i64 (tripleIn a t v).2.2]) ∧ Below w.heap.size w w'

/-- Two that read alike are called equal. -/
theorem eqCel_same (t v : Int) (w : World) :
    Calls Try.prog 23 #[.agg #[.int .i64 t, .int .i64 v], .agg #[.int .i64 t, .int .i64 v]] w fun e w' => e = .returned (.bool true) ∧ Below w.heap.size w w' := by
  have hk := ((Kept.refl w).new 43 #[.int .i64 t, .int .i64 v]).new 43 #[.int .i64 t, .int .i64 v]
  rw [show (w.alloc (.cells #[.int .i64 t, .int .i64 v] 43)).heap.size = w.heap.size + 1 by simp] at hk
  have HK := Lib.hid hk
  clear hk
  have et : (t != t) = false := by simp
  have ev : (v != v) = false := by simp
  go_enter Try.func23, Try.ntmps23
  go_wp2_with fail
  go_ret
  exact ⟨rfl, HK.out.1⟩
end Go.Proofs.Ythbkccagpggljaa.Mx

/- CONTRACTS OF laws.toTrust (a copy) AND laws.eqTrust (at two that read alike: true). -/
import Derived.Test.YthbkccagpggljaaKept
import Derived.Test.YthbkccagpggljaaStreamA
import Derived.Test.YthbkccagpggljaaMixL
namespace Go.Proofs.Ythbkccagpggljaa.Mx
open Go.ChangeShapes Go.WideShapes Go.ChangeAt Go.RowKit
set_option linter.unusedVariables false

set_option maxHeartbeats 2000000 in
/-- Two that read alike are called equal. -/
theorem eqTrust_same (t0 t1 t2 t3 t4 t5 t6 : Int) (t7 : Bool) (w : World) :
    Calls Try.prog 8 #[.agg #[.int .i64 t0, .int .i64 t1, .int .i64 t2, .int .i64 t3, .int .i64 t4, .int .i64 t5, .int .i64 t6, .bool t7], .agg #[.int .i64 t0, .int .i64 t1, .int .i64 t2, .int .i64 t3, .int .i64 t4, .int .i64 t5, .int .i64 t6, .bool t7]] w fun e w' => e = .returned (.bool true) ∧ Below w.heap.size w w' := by
  have hk := ((Kept.refl w).new 27 #[.int .i64 t0, .int .i64 t1, .int .i64 t2, .int .i64 t3, .int .i64 t4, .int .i64 t5, .int .i64 t6, .bool t7]).new 27 #[.int .i64 t0, .int .i64 t1, .int .i64 t2, .int .i64 t3, .int .i64 t4, .int .i64 t5, .int .i64 t6, .bool t7]
  rw [show (w.alloc (.cells #[.int .i64 t0, .int .i64 t1, .int .i64 t2, .int .i64 t3, .int .i64 t4, .int .i64 t5, .int .i64 t6, .bool t7] 27)).heap.size = w.heap.size + 1 by simp] at hk
  have HK := Lib.hid hk
  clear hk
  have n0 : (t0 != t0) = false := by simp
  have n1 : (t1 != t1) = false := by simp
  have n2 : (t2 != t2) = false := by simp
  have n3 : (t3 != t3) = false := by simp
  have n4 : (t4 != t4) = false := by simp
  have n5 : (t5 != t5) = false := by simp
  have n6 : (t6 != t6) = false := by simp
  have n7 : (t7 != t7) = false := by simp
  go_enter Try.func8, Try.ntmps8
  go_wp2_with fail
  go_ret
  exact ⟨rfl, HK.out.1⟩
end Go.Proofs.Ythbkccagpggljaa.Mx

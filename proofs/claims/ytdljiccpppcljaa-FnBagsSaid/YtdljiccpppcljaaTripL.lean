/- THE WALKS OF laws.FnExactTripleOk, FnExactTagOf: each returns true at every argument, and writes nothing that was there. -/
import Derived.Test.YtdljiccpppcljaaTripB
namespace Go.Proofs.Ytdljiccpppcljaa.Mx
open Go.ChangeShapes Go.WideShapes Go.ChangeAt Go.RowKit Go.Maps
set_option linter.unusedVariables false

/-- A triple of the laws' own type, copied. -/
theorem toTriple_calls (a t v : Int) (w : World) :
    Calls Try.prog 39 #[.agg #[.int .i64 a, .int .i64 t, .int .i64 v]] w fun e w' => e = .returned (.agg #[.int .i64 a, .int .i64 t, .int .i64 v]) ∧ Below w.heap.size w w' := by
  go_enter Try.func39, Try.ntmps39
  go_wp2_with fail
  exact bodyPost_ret (v := .agg #[.int .i64 a, .int .i64 t, .int .i64 v]) (by simp [results, Try.results39, go_sem]) rfl ⟨rfl, (((Below.refl _ _).alloc (Nat.le_refl _) _).alloc (by simp) _).alloc (by simp; omega) _⟩

end Go.Proofs.Ytdljiccpppcljaa.Mx

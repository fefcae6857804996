/- CONTRACTS OF laws.toInt64S (a copy of a list of int64, in new memory) AND laws.eqInt64S (at two slices that read as one list: true). -/
import Derived.Test.YtcipjmenhoeekaaRows
import Derived.Test.YtcipjmenhoeekaaMem
import Derived.Deep.OwnRows
import Derived.Lib.Hide
import Derived.Deep.QuietTactic
import Derived.BigQuiet
namespace Go.Proofs.Ytcipjmenhoeekaa.Mx
open Go.ChangeShapes Go.WideShapes Go.ChangeAt Go.RowKit
set_option linter.unusedVariables false

theorem info_i64 : (Try.prog.info? 2).map (fun i => (i.zero, i.size, i.bytes)) = some (some (.int .i64 0), 1, 8) := by kernel_rfl

/-- A row of the call's own, read as a list. -/
theorem ints_row {w : World} {g t : Nat} {l : List Int} (h : w.rowIs g t l.length (fun i => .int .i64 (l.getD i 0))) : Ints w .i64 (g + 1) (some ⟨g, 0, none⟩) l := by
  intro i hi
  exact ⟨g, 0, rfl, by omega, by rw [Nat.zero_add]; exact h.cell hi⟩

end Go.Proofs.Ytcipjmenhoeekaa.Mx

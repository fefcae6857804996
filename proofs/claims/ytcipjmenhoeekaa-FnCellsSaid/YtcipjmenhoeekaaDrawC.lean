/- CONTRACTS OF spec.DrawMixOf, DrawAddOf: each answers some numbers of type int64 (and a list of such, in new memory); nothing that was there is written. -/
import Derived.Test.YtcipjmenhoeekaaDrawB
namespace Go.Proofs.Ytcipjmenhoeekaa.Mx
open Go.ChangeShapes Go.WideShapes Go.ChangeAt Go.RowKit
set_option linter.unusedVariables false

theorem info_n64 : (Try.prog.info? 2).map (fun i => (i.zero, i.size, i.bytes)) = some (some (.int .i64 0), 1, 8) := by kernel_rfl

/-- A key and a list of numbers are answered, the list in new memory; nothing that was there is written. -/
def KeyList (w : World) (e : Ending) (w' : World) : Prop :=
  ∃ (key : Int) (A : Option Addr) (zs : List Int) (c : Nat), e = .returned (.tuple #[.int .i64 key, .slice A zs.length c]) ∧ Below w.heap.size w w' ∧ Ints w' .i64 w'.heap.size A zs ∧ I64s zs ∧ zs.length ≤ 6

end Go.Proofs.Ytcipjmenhoeekaa.Mx

/- CONTRACTS OF spec.DrawTripleOk, DrawTagOf: each answers a triple of numbers of type int64 (and a key); nothing that was there is written. -/
import Derived.Test.YtdljiccpppcljaaDrawF
namespace Go.Proofs.Ytdljiccpppcljaa.Mx
open Go.ChangeShapes Go.WideShapes Go.ChangeAt Go.RowKit
set_option linter.unusedVariables false

def TriW (w : World) (e : Ending) (w' : World) : Prop :=
  ∃ a t z : Int, e = .returned (.agg #[.int .i64 a, .int .i64 t, .int .i64 z]) ∧ I64 a ∧ I64 t ∧ I64 z ∧ Below w.heap.size w w'
def KeyTriW (w : World) (e : Ending) (w' : World) : Prop :=
  ∃ k a t z : Int, e = .returned (.tuple #[.int .i64 k, .agg #[.int .i64 a, .int .i64 t, .int .i64 z]]) ∧ I64 a ∧ I64 t ∧ I64 z ∧ Below w.heap.size w w'

/-- The result's three cells are written at the end: nothing that was there has turned. -/
theorem tri_out {w w3 : World} {h : Nat} {x y z p q r : Int} (hw : w.heap.size ≤ h) (hk : CellsAt w3 h 32 #[.int .i64 p, .int .i64 q, .int .i64 r]) (hb : Below w.heap.size w w3) :
    ∃ w4, ((w3.setCell ⟨h, 0, none⟩ (.int .i64 x)).setCell ⟨h, 1, none⟩ (.int .i64 y)).setCell ⟨h, 2, none⟩ (.int .i64 z) = w4 ∧ (w4.cell? ⟨h, 0, none⟩ = some (.int .i64 x) ∧ w4.cell? ⟨h, 1, none⟩ = some (.int .i64 y) ∧ w4.cell? ⟨h, 2, none⟩ = some (.int .i64 z)) ∧ Below w.heap.size w w4 := by
  have hk' := ((hk.set_ 0 (.int .i64 x)).set_ 1 (.int .i64 y)).set_ 2 (.int .i64 z)
  exact ⟨_, rfl, ⟨hk'.cell 0, hk'.cell 1, hk'.cell 2⟩, ((hb.setCell hw _).setCell hw _).setCell hw _⟩

end Go.Proofs.Ytdljiccpppcljaa.Mx

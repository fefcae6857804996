/- CONTRACT OF spec.l8Sums: what it answers, at every argument; nothing that was there is written. -/
import Derived.Test.YthbkccagpggljaaBehindS
namespace Go.Proofs.Ythbkccagpggljaa.Mx
open Go.ChangeShapes Go.WideShapes Go.ChangeAt Go.RowKit
set_option linter.unusedVariables false

/-- A trust's block, its eight cells written. -/
theorem trust_end {w w1 : World} {r : Nat} {x0 x1 x2 x3 x4 x5 x6 x7 z0 z1 z2 z3 z4 z5 z6 z7 : Value} (hk : CellsAt w1 r 27 #[z0, z1, z2, z3, z4, z5, z6, z7]) (hb : Below w.heap.size w w1) (hr : w.heap.size ≤ r) :
    ∃ w4, ((((((((w1.setCell ⟨r, 0, none⟩ x0).setCell ⟨r, 1, none⟩ x1).setCell ⟨r, 2, none⟩ x2).setCell ⟨r, 3, none⟩ x3).setCell ⟨r, 4, none⟩ x4).setCell ⟨r, 5, none⟩ x5).setCell ⟨r, 6, none⟩ x6).setCell ⟨r, 7, none⟩ x7) = w4 ∧ (w4.cell? ⟨r, 0, none⟩ = some x0 ∧ w4.cell? ⟨r, 1, none⟩ = some x1 ∧ w4.cell? ⟨r, 2, none⟩ = some x2 ∧ w4.cell? ⟨r, 3, none⟩ = some x3 ∧ w4.cell? ⟨r, 4, none⟩ = some x4 ∧ w4.cell? ⟨r, 5, none⟩ = some x5 ∧ w4.cell? ⟨r, 6, none⟩ = some x6 ∧ w4.cell? ⟨r, 7, none⟩ = some x7) ∧ CellsAt w4 r 27 #[x0, x1, x2, x3, x4, x5, x6, x7] ∧ Below w.heap.size w w4 ∧ w1.grownBy w4 (some r) := by
  have h0 := ((((((((hk.set_ 0 x0).set_ 1 x1).set_ 2 x2).set_ 3 x3).set_ 4 x4).set_ 5 x5).set_ 6 x6).set_ 7 x7)
  simp only [List.setIfInBounds_toArray, List.set_cons_zero, List.set_cons_succ] at h0
  refine ⟨_, rfl, ?_, h0, ((((((((hb.setCell (p := ⟨r, 0, none⟩) hr x0).setCell (p := ⟨r, 1, none⟩) hr x1).setCell (p := ⟨r, 2, none⟩) hr x2).setCell (p := ⟨r, 3, none⟩) hr x3).setCell (p := ⟨r, 4, none⟩) hr x4).setCell (p := ⟨r, 5, none⟩) hr x5).setCell (p := ⟨r, 6, none⟩) hr x6).setCell (p := ⟨r, 7, none⟩) hr x7), (gb_set (gb_set (gb_set (gb_set (gb_set (gb_set (gb_set (gb_set (gb_refl w1 (some r)) 0 x0) 1 x1) 2 x2) 3 x3) 4 x4) 5 x5) 6 x6) 7 x7)⟩
  generalize World.setCell _ _ _ = w4 at h0 ⊢
  exact ⟨h0.cell 0, h0.cell 1, h0.cell 2, h0.cell 3, h0.cell 4, h0.cell 5, h0.cell 6, h0.cell 7⟩

/-- What is read comes to a sum, and what is written to another one: of this epoch, or of the next one. -/
noncomputable def sumsT (key : Int) (t : Tru) (next : Bool) (a b c a' b' c' : Int) : Tru :=
  match next with
  | true => ⟨t.clock, t.epoch, t.cursor, t.read, t.written, addOf t.nread (tagOf key a b c), addOf t.nwritten (tagOf key a' b' c'), t.failed⟩
  | false => ⟨t.clock, t.epoch, t.cursor, addOf t.read (tagOf key a b c), addOf t.written (tagOf key a' b' c'), t.nread, t.nwritten, t.failed⟩

end Go.Proofs.Ythbkccagpggljaa.Mx

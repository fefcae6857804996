/- CONTRACT OF spec.Behind: what it answers, at every argument; nothing that was there is written. -/
import Derived.Test.YthbkccagpggljaaTrustS
namespace Go.Proofs.Ythbkccagpggljaa.Mx
open Go.ChangeShapes Go.WideShapes Go.ChangeAt Go.RowKit
set_option linter.unusedVariables false

theorem IsRegion.up {l : List Int} {x r : Int} (h : IsRegion l x r) (hr : 0 ≤ r) : ∃ i : Nat, r = i ∧ i < l.length ∧ upTo l i ≤ x ∧ x < upTo l (i + 1) := by
  rcases h with ⟨i, hi, rfl, h0, h1⟩ | ⟨rfl, _⟩
  · exact ⟨i, rfl, hi, h0, h1⟩
  · omega
/-- Where a sector has a region: the plan is right, the region is one of it, the sector lies in it. -/
theorem regionOf_up {key x : Int} {l : List Int} (h : 0 ≤ regionOf key l x) : ∃ i : Nat, regionOf key l x = i ∧ i < l.length ∧ planOk key l ∧ 0 ≤ x ∧ upTo l i ≤ x ∧ x < upTo l (i + 1) := by
  by_cases hp : planOk key l ∧ 0 ≤ x
  · have hr : IsRegion l x (regionOf key l x) := by
      unfold regionOf; rw [if_pos hp]
      exact regionFrom_is l.length 0 (by omega) (by rw [upTo_zero]; exact hp.2)
    obtain ⟨i, e, hi, h0, h1⟩ := hr.up h
    exact ⟨i, e, hi, hp.1, hp.2, h0, h1⟩
  · rw [regionOf_no hp] at h; omega
theorem regionOf_bd (key x : Int) (l : List Int) : regionOf key l x = -1 ∨ (0 ≤ regionOf key l x ∧ regionOf key l x ≤ 3) := by
  by_cases h : 0 ≤ regionOf key l x
  · obtain ⟨i, e, hi, hp, _⟩ := regionOf_up h
    have := hp.2.1.2
    right; omega
  · left
    by_cases hp : planOk key l ∧ 0 ≤ x
    · have hr : IsRegion l x (regionOf key l x) := by
        unfold regionOf; rw [if_pos hp]
        exact regionFrom_is l.length 0 (by omega) (by rw [upTo_zero]; exact hp.2)
      rcases hr with ⟨i, hi, e, _⟩ | ⟨e, _⟩
      · omega
      · exact e
    · exact regionOf_no hp
/-- What chapter 7 asks of Behind: is the sector one that has been gone through? -/
noncomputable def behindB (key : Int) (l : List Int) (cursor x : Int) : Bool := decide (0 ≤ regionOf key l x) && decide (x - firstOf key l (regionOf key l x) < cursor)

end Go.Proofs.Ythbkccagpggljaa.Mx

/- THE WALK OF laws.FnExactMixOf: it returns true at every key and every list, and writes nothing that was there. -/
import Derived.Test.YthbkccagpggljaaMixD
import Derived.Test.YthbkccagpggljaaCopyI
namespace Go.Proofs.Ythbkccagpggljaa.Mx
open Go.ChangeShapes Go.WideShapes Go.ChangeAt Go.RowKit
set_option linter.unusedVariables false

/-- A cell that is there lies in a block that is there. -/
theorem lt_of_cell {w : World} {b off : Nat} {s} {v : Value} (h : w.cell? ⟨b, off, s⟩ = some v) : b < w.heap.size := by
  rcases Nat.lt_or_ge b w.heap.size with hlt | hge
  · exact hlt
  · simp [World.cell?, Array.getElem?_eq_none hge] at h

theorem ints_of_row {k : IntKind} {w : World} {x : Addr} {zs : List Int} {len : Nat} (hl : len ≤ zs.length) (hcell : ∀ i, i < zs.length → w.cell? (x.add i) = some (.int k (zs.getD i 0))) :
    Ints w k w.heap.size (some x) (zs.take len) := by
  intro i hi
  have hi' : i < len := by rw [List.length_take] at hi; omega
  have hc := hcell i (by omega)
  obtain ⟨b, off, spot⟩ := x
  have hspot : spot = none := by
    have h0 := hcell 0 (by omega)
    simpa [Addr.add] using World.cell?_spot h0
  subst hspot
  have hg : (zs.take len).getD i 0 = zs.getD i 0 := by
    rw [List.getD_eq_getElem?_getD, List.getD_eq_getElem?_getD, List.getElem?_take, if_pos hi']
  rw [hg]
  have hc' : w.cell? ⟨b, off + i, none⟩ = some (.int k (zs.getD i 0)) := by
    rcases Nat.eq_zero_or_pos i with rfl | hp
    · simpa [Addr.add] using hc
    · have hne : i ≠ 0 := by omega
      simpa [Addr.add, hne] using hc
  exact ⟨b, off, rfl, lt_of_cell hc', hc'⟩

theorem i64s_of_wf {zs : List Int} {len : Nat} (hl : len ≤ zs.length) (hwz : ∀ n ∈ zs, (Lit.int .i64 n).wf = true) : I64s (zs.take len) := by
  intro i hi
  have hi' : i < len := by rw [List.length_take] at hi; omega
  have hz : i < zs.length := by omega
  have hg : (zs.take len).getD i 0 = zs[i] := by
    rw [List.getD_eq_getElem?_getD, List.getElem?_take, if_pos hi', List.getElem?_eq_getElem hz]; rfl
  rw [hg]
  exact bounds_i64 (hwz _ (List.getElem_mem hz))
end Go.Proofs.Ythbkccagpggljaa.Mx

/- THE WALK OF laws.FnExactMixOf: it returns true at every key and every list, and writes nothing that was there. -/
import Derived.Test.YtdikgpgghadalaaMixD
import Derived.Test.YtdikgpgghadalaaCopyI
namespace Go.Proofs.Ytdikgpgghadalaa.Mx
open Go.ChangeShapes Go.WideShapes Go.ChangeAt Go.RowKit
set_option linter.unusedVariables false

theorem mixLaw_calls (key : Int) (A : Option Addr) (l : List Int) (cap : Nat) (w : World) (hn : l.length ≤ maxLen) (hA : Ints w .i64 w.heap.size A l) (hi : I64s l) :
    Calls Try.prog 5 #[.int .i64 key, .slice A l.length cap] w fun e w' => e = .returned (.bool true) ∧ Below w.heap.size w w' := by
  have hm := hn
  unfold maxLen at hm
  by_cases hs : 1048576 < l.length
  · have hs' : (1048576 : Int) < l.length := by omega
    clear hA hi
    go_enter Try.func5, Try.ntmps5
    go_wp2
    go_ret
    exact ⟨rfl, Below.refl _ _⟩
  · have hs' : l.length ≤ 1048576 := by omega
    clear hs
    have HA := Lib.hid hA
    have HI := Lib.hid hi
    have HN := Lib.hid hn
    clear hA hi hn
    go_enter Try.func5, Try.ntmps5
    go_wp2_with fail
    refine (toInt64S_calls A l cap w hs' HA.out).mono ?_; rintro e w1 ⟨rfl, b1, r1⟩
    have z1 := b1.size
    have HB1 := Lib.hid b1
    have HR1 := Lib.hid r1
    clear b1 r1
    go_wp2_with fail
    refine (specMix_calls key _ l l.length (w.heap.size + 1) w1 HN.out (ints_row HR1.out) HI.out).mono ?_; rintro e w' ⟨rfl, rfl⟩
    go_wp2_with fail
    refine (toInt64S_calls A l cap w1 hs' ((HA.out.below HB1.out (Nat.le_refl _)).more z1)).mono ?_; rintro e w2 ⟨rfl, b2, r2⟩
    have z2 := b2.size
    have HB2 := Lib.hid b2
    have HR2 := Lib.hid r2
    clear b2 r2
    go_wp2_with fail
    refine (mix_calls key _ l l.length (w1.heap.size + 1) w2 HN.out (ints_row HR2.out) HI.out).mono ?_; rintro e w' ⟨rfl, rfl⟩
    go_wp2_with fail
    refine (toInt64S_calls A l cap w2 hs' (((HA.out.below HB1.out (Nat.le_refl _)).more z1).below HB2.out (Nat.le_refl _) |>.more z2)).mono ?_; rintro e w3 ⟨rfl, b3, r3⟩
    have z3 := b3.size
    have HB3 := Lib.hid b3
    have HR3 := Lib.hid r3
    clear b3 r3
    go_wp2_with fail
    refine (eqInt64S_same _ _ l l.length l.length w3 hs' (((ints_row HR2.out).more HR2.out.lt).below HB3.out (Nat.le_refl _) |>.more z3) ((ints_row HR3.out).more HR3.out.lt)).mono ?_; rintro e w4 ⟨rfl, b4⟩
    have HB4 := Lib.hid b4
    clear b4
    go_wp2
    go_ret
    exact ⟨rfl, HB1.out.trans ((HB2.out.mono z1).trans ((HB3.out.mono (Nat.le_trans z1 z2)).trans (HB4.out.mono (Nat.le_trans z1 (Nat.le_trans z2 z3)))))⟩

/-- A cell that is there lies in a block that is there. -/
theorem lt_of_cell {w : World} {b off : Nat} {s} {v : Value} (h : w.cell? ⟨b, off, s⟩ = some v) : b < w.heap.size := by
  rcases Nat.lt_or_ge b w.heap.size with hlt | hge
  · exact hlt
  · simp [World.cell?, Array.getElem?_eq_none hge] at h

theorem ints_of_row {k : IntKind} {w : World} {x : Addr} {zs : List Int} {len : Nat} (hl : len ≤ zs.length) (hcell : ∀ i, i < zs.length → w.cell? (x.add i) = some (.int k (zs.getD i 0))) :
    Ints w k w.heap.size (some x) (zs.take len) := by
  intro i hi
  have hi' : i < len := by rw [List.length_take] at hi; omega
  have hc := hcell i (by omega)
  obtain ⟨b, off, spot⟩ := x
  have hspot : spot = none := by
    have h0 := hcell 0 (by omega)
    simpa [Addr.add] using World.cell?_spot h0
  subst hspot
  have hg : (zs.take len).getD i 0 = zs.getD i 0 := by
    rw [List.getD_eq_getElem?_getD, List.getD_eq_getElem?_getD, List.getElem?_take, if_pos hi']
  rw [hg]
  have hc' : w.cell? ⟨b, off + i, none⟩ = some (.int k (zs.getD i 0)) := by
    rcases Nat.eq_zero_or_pos i with rfl | hp
    · simpa [Addr.add] using hc
    · have hne : i ≠ 0 := by omega
      simpa [Addr.add, hne] using hc
  exact ⟨b, off, rfl, lt_of_cell hc', hc'⟩

theorem i64s_of_wf {zs : List Int} {len : Nat} (hl : len ≤ zs.length) (hwz : ∀ n ∈ zs, (Lit.int .i64 n).wf = true) : I64s (zs.take len) := by
  intro i hi
  have hi' : i < len := by rw [List.length_take] at hi; omega
  have hz : i < zs.length := by omega
  have hg : (zs.take len).getD i 0 = zs[i] := by
    rw [List.getD_eq_getElem?_getD, List.getElem?_take, if_pos hi', List.getElem?_eq_getElem hz]; rfl
  rw [hg]
  exact bounds_i64 (hwz _ (List.getElem_mem hz))
end Go.Proofs.Ytdikgpgghadalaa.Mx

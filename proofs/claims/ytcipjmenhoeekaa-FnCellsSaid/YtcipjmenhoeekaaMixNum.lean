/- THE PLAIN LAW OF FnMixed, no program in sight: what is mixed asks for the order, is less than MixMod, and asks for the key. -/
import Derived.Test.YtcipjmenhoeekaaMem
namespace Go.Proofs.Ytcipjmenhoeekaa.Mx
set_option linter.unusedVariables false
theorem fine_two {x y : Int} (hx : 0 ≤ x) (hy : 0 ≤ y) : Fine [x, y] := by
  intro i hi
  match i, hi with
  | 0, _ => exact hx
  | 1, _ => exact hy
theorem fine_one {x : Int} (hx : 0 ≤ x) : Fine [x] := by
  intro i hi
  match i, hi with
  | 0, _ => exact hx
theorem rx1 {s x : Int} (s0 : 0 ≤ s) (s1 : s ≤ 3000) (x0 : 0 ≤ x) (x1 : x ≤ 3000) : roll 131 2147483647 s [x] = s * 131 + x + 1 := by
  show (s * 131 + x % 2147483647 + 1) % 2147483647 = _
  rw [Int.emod_eq_of_lt x0 (by omega), Int.emod_eq_of_lt (by omega) (by omega)]
theorem ry1 {s x : Int} (s0 : 0 ≤ s) (s1 : s ≤ 3000) (x0 : 0 ≤ x) (x1 : x ≤ 3000) : roll 137 2147483629 s [x] = s * 137 + x + 1 := by
  show (s * 137 + x % 2147483629 + 1) % 2147483629 = _
  rw [Int.emod_eq_of_lt x0 (by omega), Int.emod_eq_of_lt (by omega) (by omega)]
theorem rx2 {s x y : Int} (s0 : 0 ≤ s) (s1 : s ≤ 3000) (x0 : 0 ≤ x) (x1 : x ≤ 3000) (y0 : 0 ≤ y) (y1 : y ≤ 3000) : roll 131 2147483647 s [x, y] = (s * 131 + x + 1) * 131 + y + 1 := by
  show ((s * 131 + x % 2147483647 + 1) % 2147483647 * 131 + y % 2147483647 + 1) % 2147483647 = _
  rw [Int.emod_eq_of_lt x0 (by omega), Int.emod_eq_of_lt (a := s * 131 + x + 1) (by omega) (by omega), Int.emod_eq_of_lt y0 (by omega), Int.emod_eq_of_lt (by omega) (by omega)]
theorem ry2 {s x y : Int} (s0 : 0 ≤ s) (s1 : s ≤ 3000) (x0 : 0 ≤ x) (x1 : x ≤ 3000) (y0 : 0 ≤ y) (y1 : y ≤ 3000) : roll 137 2147483629 s [x, y] = (s * 137 + x + 1) * 137 + y + 1 := by
  show ((s * 137 + x % 2147483629 + 1) % 2147483629 * 137 + y % 2147483629 + 1) % 2147483629 = _
  rw [Int.emod_eq_of_lt x0 (by omega), Int.emod_eq_of_lt (a := s * 137 + x + 1) (by omega) (by omega), Int.emod_eq_of_lt y0 (by omega), Int.emod_eq_of_lt (by omega) (by omega)]
theorem mix_order {k x y : Int} (k0 : 0 ≤ k) (k1 : k ≤ 999) (x0 : 0 ≤ x) (x1 : x ≤ 999) (y0 : 0 ≤ y) (y1 : y ≤ 999) : mixOf (1 + k) [x, x + 1 + y] ≠ mixOf (1 + k) [x + 1 + y, x] := by
  rw [mixOf_yes (by omega) (by omega) (fine_two x0 (by omega)), mixOf_yes (by omega) (by omega) (fine_two (by omega) x0)]
  rw [rx2 (by omega) (by omega) (by omega) (by omega) (by omega) (by omega), rx2 (by omega) (by omega) (by omega) (by omega) (by omega) (by omega), ry2 (by omega) (by omega) (by omega) (by omega) (by omega) (by omega), ry2 (by omega) (by omega) (by omega) (by omega) (by omega) (by omega)]
  omega
theorem mix_small {k x : Int} (k0 : 0 ≤ k) (k1 : k ≤ 999) (x0 : 0 ≤ x) (x1 : x ≤ 999) : mixOf (1 + k) [x] < 4611686018427387904 := by
  rw [mixOf_yes (by omega) (by omega) (fine_one x0), rx1 (by omega) (by omega) (by omega) (by omega), ry1 (by omega) (by omega) (by omega) (by omega)]
  omega
theorem mix_keys {k x : Int} (k0 : 0 ≤ k) (k1 : k ≤ 999) (x0 : 0 ≤ x) (x1 : x ≤ 999) : mixOf (1 + k) [x] ≠ mixOf (1 + k + 1) [x] := by
  rw [mixOf_yes (by omega) (by omega) (fine_one x0), mixOf_yes (by omega) (by omega) (fine_one x0)]
  rw [rx1 (by omega) (by omega) (by omega) (by omega), ry1 (by omega) (by omega) (by omega) (by omega), rx1 (by omega) (by omega) (by omega) (by omega), ry1 (by omega) (by omega) (by omega) (by omega)]
  omega
end Go.Proofs.Ytcipjmenhoeekaa.Mx

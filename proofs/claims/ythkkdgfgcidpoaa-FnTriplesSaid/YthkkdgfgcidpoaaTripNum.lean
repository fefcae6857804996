/- THE PLAIN LAW OF FnTriples, no program in sight: in the draw's range each tag is above 0, and triples that differ in one number have other tags. -/
import Derived.Test.YthkkdgfgcidpoaaTripA
namespace Go.Proofs.Ythkkdgfgcidpoaa.Mx
set_option linter.unusedVariables false
theorem fine_four {x y z u : Int} (hx : 0 ≤ x) (hy : 0 ≤ y) (hz : 0 ≤ z) (hu : 0 ≤ u) : Fine [x, y, z, u] := by
  intro i hi
  match i, hi with
  | 0, _ => exact hx
  | 1, _ => exact hy
  | 2, _ => exact hz
  | 3, _ => exact hu
theorem rx4 {q a t v : Int} (q0 : 0 ≤ q) (q1 : q ≤ 999) (a0 : 0 ≤ a) (a1 : a ≤ 20) (t0 : 0 ≤ t) (t1 : t ≤ 1000) (v0 : 0 ≤ v) (v1 : v ≤ 1000) :
    roll 131 2147483647 (7 + (1 + q)) [2, a, t, v] = ((((((q + 8) * 131 + 3) * 131 + a + 1) * 131 + t + 1) % 2147483647) * 131 + v + 1) % 2147483647 := by
  show (((((7 + (1 + q)) * 131 + 2 % 2147483647 + 1) % 2147483647 * 131 + a % 2147483647 + 1) % 2147483647 * 131 + t % 2147483647 + 1) % 2147483647 * 131 + v % 2147483647 + 1) % 2147483647 = _
  rw [Int.emod_eq_of_lt a0 (by omega), Int.emod_eq_of_lt t0 (by omega), Int.emod_eq_of_lt v0 (by omega), show (2 : Int) % 2147483647 = 2 from rfl]
  rw [Int.emod_eq_of_lt (a := (7 + (1 + q)) * 131 + 2 + 1) (by omega) (by omega)]
  rw [Int.emod_eq_of_lt (a := ((7 + (1 + q)) * 131 + 2 + 1) * 131 + a + 1) (by omega) (by omega)]
  congr 1
  congr 3
  congr 1
  omega
theorem ne_mid {u d v : Int} (d0 : 1 ≤ d) (d1 : d ≤ 200) : ((u % 2147483647) * 131 + v + 1) % 2147483647 ≠ (((u + d) % 2147483647) * 131 + v + 1) % 2147483647 := by omega
theorem ne_end {u d v : Int} (d0 : 1 ≤ d) (d1 : d ≤ 200) : (u + v + 1) % 2147483647 ≠ (u + (v + d) + 1) % 2147483647 := by omega
theorem none_nought : ∀ q : Nat, q < 1000 → (294499921 * (q + 8) + 6744273) % 2147483647 < 2147021627 ∨ 2147466354 < (294499921 * (q + 8) + 6744273) % 2147483647 := by decide +kernel
theorem upper_pos {q a t v : Int} (q0 : 0 ≤ q) (q1 : q ≤ 999) (a0 : 0 ≤ a) (a1 : a ≤ 19) (t0 : 0 ≤ t) (t1 : t ≤ 899) (v0 : 0 ≤ v) (v1 : v ≤ 899) :
    0 < ((((((q + 8) * 131 + 3) * 131 + a + 1) * 131 + t + 1) % 2147483647) * 131 + v + 1) % 2147483647 := by
  obtain ⟨n, rfl⟩ := Int.eq_ofNat_of_zero_le q0
  have h := none_nought n (by omega)
  have e : ((((((n : Int) + 8) * 131 + 3) * 131 + a + 1) * 131 + t + 1) % 2147483647 * 131 + v + 1) % 2147483647 = (((294499921 * (n + 8) + 6744273) % 2147483647 : Nat) + ((a + 1) * 17161 + (t + 1) * 131 + v + 1)) % 2147483647 := by
    generalize hu : ((((n : Int) + 8) * 131 + 3) * 131 + a + 1) * 131 + t + 1 = u
    rw [show (u % 2147483647 * 131 + v + 1) % 2147483647 = (u * 131 + v + 1) % 2147483647 by omega]
    rw [show u * 131 + v + 1 = ((294499921 * (n + 8) + 6744273 : Nat) : Int) + ((a + 1) * 17161 + (t + 1) * 131 + v + 1) by omega]
    generalize (a + 1) * 17161 + (t + 1) * 131 + v + 1 = s
    omega
  rw [e]
  clear e
  have s0 : 17293 ≤ (a + 1) * 17161 + (t + 1) * 131 + v + 1 := by omega
  have s1 : (a + 1) * 17161 + (t + 1) * 131 + v + 1 ≤ 462020 := by omega
  have hc : (294499921 * (n + 8) + 6744273) % 2147483647 < 2147483647 := Nat.mod_lt _ (by omega)
  generalize (a + 1) * 17161 + (t + 1) * 131 + v + 1 = s at s0 s1
  generalize (294499921 * (n + 8) + 6744273) % 2147483647 = c at h hc
  clear q0 q1 a0 a1 t0 t1 v0 v1
  rcases h with h | h
  · rw [Int.emod_eq_of_lt (by omega) (by omega)]; omega
  · rw [show (c : Int) + s = (c + s - 2147483647) + 2147483647 by omega, Int.add_emod_right, Int.emod_eq_of_lt (by omega) (by omega)]; omega
/-- A tag in the draw's range: its halves. -/
theorem tag_halves {q a t v : Int} (q0 : 0 ≤ q) (q1 : q ≤ 999) (a0 : 0 ≤ a) (a1 : a ≤ 20) (t0 : 0 ≤ t) (t1 : t ≤ 1000) (v0 : 0 ≤ v) (v1 : v ≤ 1000) :
    ∃ y, (0 ≤ y ∧ y < 2147483648) ∧ tagOf (1 + q) a t v = (((((((q + 8) * 131 + 3) * 131 + a + 1) * 131 + t + 1) % 2147483647) * 131 + v + 1) % 2147483647) * 2147483648 + y := by
  rw [tagOf_yes ⟨⟨by omega, by omega⟩, ⟨by omega, by omega⟩, ⟨by omega, by omega⟩⟩, mixOf_yes (by omega) (by omega) (fine_four (by omega) a0 t0 v0), rx4 q0 q1 a0 a1 t0 t1 v0 v1]
  have Y := roll_bd 137 2147483629 (11 + 2 * (1 + q)) [2, a, t, v] (by omega) (by omega) (by omega)
  exact ⟨_, ⟨Y.1, by omega⟩, rfl⟩
theorem tag_pos {q a t v : Int} (q0 : 0 ≤ q) (q1 : q ≤ 999) (a0 : 0 ≤ a) (a1 : a ≤ 19) (t0 : 0 ≤ t) (t1 : t ≤ 899) (v0 : 0 ≤ v) (v1 : v ≤ 899) : 0 < tagOf (1 + q) a t v := by
  obtain ⟨y, ⟨y0, y1⟩, h⟩ := tag_halves q0 q1 a0 (by omega) t0 (by omega) v0 (by omega)
  have hp := upper_pos q0 q1 a0 a1 t0 t1 v0 v1
  rw [h]
  generalize ((((((q + 8) * 131 + 3) * 131 + a + 1) * 131 + t + 1) % 2147483647) * 131 + v + 1) % 2147483647 = X at hp
  omega
theorem halves_ne {X X' y y' : Int} (h : X ≠ X') (y0 : 0 ≤ y) (y1 : y < 2147483648) (z0 : 0 ≤ y') (z1 : y' < 2147483648) : X * 2147483648 + y ≠ X' * 2147483648 + y' := by omega
theorem tag_at {q a t v : Int} (q0 : 0 ≤ q) (q1 : q ≤ 999) (a0 : 0 ≤ a) (a1 : a ≤ 19) (t0 : 0 ≤ t) (t1 : t ≤ 899) (v0 : 0 ≤ v) (v1 : v ≤ 899) : tagOf (1 + q) a t v ≠ tagOf (1 + q) (a + 1) t v := by
  obtain ⟨y, ⟨y0, y1⟩, h⟩ := tag_halves q0 q1 a0 (by omega) t0 (by omega) v0 (by omega)
  obtain ⟨z, ⟨z0, z1⟩, h'⟩ := tag_halves (a := a + 1) q0 q1 (by omega) (by omega) t0 (by omega) v0 (by omega)
  rw [h, h', show (((q + 8) * 131 + 3) * 131 + (a + 1) + 1) * 131 + t + 1 = ((((q + 8) * 131 + 3) * 131 + a + 1) * 131 + t + 1) + 131 by omega]
  exact halves_ne (ne_mid (by omega) (by omega)) y0 y1 z0 z1
theorem tag_time {q a t v d : Int} (q0 : 0 ≤ q) (q1 : q ≤ 999) (a0 : 0 ≤ a) (a1 : a ≤ 19) (t0 : 0 ≤ t) (t1 : t ≤ 899) (v0 : 0 ≤ v) (v1 : v ≤ 899) (d0 : 0 ≤ d) (d1 : d ≤ 49) : tagOf (1 + q) a t v ≠ tagOf (1 + q) a (t + 1 + d) v := by
  obtain ⟨y, ⟨y0, y1⟩, h⟩ := tag_halves q0 q1 a0 (by omega) t0 (by omega) v0 (by omega)
  obtain ⟨z, ⟨z0, z1⟩, h'⟩ := tag_halves (t := t + 1 + d) q0 q1 a0 (by omega) (by omega) (by omega) v0 (by omega)
  rw [h, h', show (((q + 8) * 131 + 3) * 131 + a + 1) * 131 + (t + 1 + d) + 1 = ((((q + 8) * 131 + 3) * 131 + a + 1) * 131 + t + 1) + (1 + d) by omega]
  exact halves_ne (ne_mid (by omega) (by omega)) y0 y1 z0 z1
theorem tag_value {q a t v d : Int} (q0 : 0 ≤ q) (q1 : q ≤ 999) (a0 : 0 ≤ a) (a1 : a ≤ 19) (t0 : 0 ≤ t) (t1 : t ≤ 899) (v0 : 0 ≤ v) (v1 : v ≤ 899) (d0 : 0 ≤ d) (d1 : d ≤ 49) : tagOf (1 + q) a t v ≠ tagOf (1 + q) a t (v + 1 + d) := by
  obtain ⟨y, ⟨y0, y1⟩, h⟩ := tag_halves q0 q1 a0 (by omega) t0 (by omega) v0 (by omega)
  obtain ⟨z, ⟨z0, z1⟩, h'⟩ := tag_halves (v := v + 1 + d) q0 q1 a0 (by omega) t0 (by omega) (by omega) (by omega)
  rw [h, h', show v + 1 + d = v + (1 + d) by omega]
  exact halves_ne (ne_end (by omega) (by omega)) y0 y1 z0 z1
end Go.Proofs.Ythkkdgfgcidpoaa.Mx

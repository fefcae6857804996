/- CONTRACT OF spec.MixOf: it answers 'mixOf', at every key and every list; the world stays. -/
import Derived.Test.YthbkccagpggljaaMixC
namespace Go.Proofs.Ythbkccagpggljaa.Mx
open Go.ChangeShapes Go.WideShapes Go.ChangeAt Go.RowKit
set_option linter.unusedVariables false

theorem l1Key_yes (s : Int) (w : World) (h0 : 1 ≤ s) (h1 : s ≤ 1000000) :
    Calls Try.prog 29 #[.int .i64 s] w fun e w' => e = .returned (.bool true) ∧ w = w' := by
  go_enter Try.func29, Try.ntmps29
  go_wp2_with (go_at_call 27; refine (l1In_yes _ _ _ _ h0 h1).mono ?_; rintro e w' ⟨rfl, rfl⟩)
  go_ret
  exact ⟨rfl, rfl⟩

theorem l1Key_no (s : Int) (w : World) (h : s < 1 ∨ 1000000 < s) :
    Calls Try.prog 29 #[.int .i64 s] w fun e w' => e = .returned (.bool false) ∧ w = w' := by
  go_enter Try.func29, Try.ntmps29
  go_wp2_with (go_at_call 27; refine (l1In_no _ _ _ _ h).mono ?_; rintro e w' ⟨rfl, rfl⟩)
  go_ret
  exact ⟨rfl, rfl⟩

theorem specMix_fine (key : Int) (A : Option Addr) (l : List Int) (cap B : Nat) (w : World) (hn : l.length ≤ maxLen) (hA : Ints w .i64 B A l) (hi : I64s l) (hf : Fine l) (k0 : 1 ≤ key) (k1 : key ≤ 1000000) :
    Calls Try.prog 41 #[.int .i64 key, .slice A l.length cap] w fun e w' => e = .returned (.int .i64 (mixOf key l)) ∧ w = w' := by
  unfold maxLen at hn
  rw [mixOf_yes k0 k1 hf]
  have FX := roll_bd 131 2147483647 (7 + key) l (by omega) (by omega) (by omega)
  have FY := roll_bd 137 2147483629 (11 + 2 * key) l (by omega) (by omega) (by omega)
  generalize hx : roll 131 2147483647 (7 + key) l = x at FX
  generalize hy : roll 137 2147483629 (11 + 2 * key) l = y at FY
  have HX := Lib.hid hx
  have HY := Lib.hid hy
  clear hx hy
  obtain ⟨fx0, fx1⟩ := FX
  obtain ⟨fy0, fy1⟩ := FY
  go_enter Try.func41, Try.ntmps41
  go_wp2_with (go_at_call 29; refine (l1Key_yes _ _ k0 k1).mono ?_; rintro e w' ⟨rfl, rfl⟩)
  go_loop [5, 6, 7] (fun x y i => ∃ k : Nat, k ≤ l.length ∧ i = .int .i64 k ∧ x = .int .i64 (roll 131 2147483647 (7 + key) (l.take k)) ∧ y = .int .i64 (roll 137 2147483629 (11 + 2 * key) (l.take k))) (fun _ _ i => l.length - (intOf i).toNat)
  case atStart => exact ⟨0, Nat.zero_le _, rfl, rfl, rfl⟩
  case round =>
    obtain ⟨k, hk, rfl, rfl, rfl⟩ := hrel
    have X := roll_bd 131 2147483647 (7 + key) (l.take k) (by omega) (by omega) (by omega)
    have Y := roll_bd 137 2147483629 (11 + 2 * key) (l.take k) (by omega) (by omega) (by omega)
    by_cases hlt : k < l.length
    · obtain ⟨b, off, rfl, hb, hc⟩ := hA k hlt
      have hv0 := hf k hlt
      have hv1 := (hi k hlt).2
      have HS := Lib.hid (roll_take 131 2147483647 (7 + key) l k hlt)
      have HT := Lib.hid (roll_take 137 2147483629 (11 + 2 * key) l k hlt)
      clear hA hf hi
      generalize l.getD k 0 = v at hc hv0 hv1 HS HT
      generalize roll 131 2147483647 (7 + key) (l.take k) = x at X HS
      generalize roll 137 2147483629 (11 + 2 * key) (l.take k) = y at Y HT
      obtain ⟨x0, x1⟩ := X
      obtain ⟨y0, y1⟩ := Y
      go_wp2
      go_round
      case rel => exact ⟨k + 1, by omega, by go_num, by rw [HS.out]; go_num, by rw [HT.out]; go_num⟩
      case measure => simp [intOf]; omega
    · have hk' : k = l.length := by omega
      clear hA hf hi
      have HR : roll 131 2147483647 (7 + key) (l.take k) = x := by rw [hk', roll_all]; exact HX.out
      have HQ : roll 137 2147483629 (11 + 2 * key) (l.take k) = y := by rw [hk', roll_all]; exact HY.out
      rw [HR, HQ]
      clear HR HQ X Y
      go_wp2
      go_ret
      exact ⟨rfl, rfl⟩

theorem specMix_neg (key : Int) (A : Option Addr) (l : List Int) (cap B : Nat) (w : World) (hn : l.length ≤ maxLen) (hA : Ints w .i64 B A l) (hf : ∃ i, i < l.length ∧ l.getD i 0 < 0) (k0 : 1 ≤ key) (k1 : key ≤ 1000000) :
    Calls Try.prog 41 #[.int .i64 key, .slice A l.length cap] w fun e w' => e = .returned (.int .i64 (-1)) ∧ w = w' := by
  unfold maxLen at hn
  obtain ⟨j, hj, hjv⟩ := hf
  go_enter Try.func41, Try.ntmps41
  go_wp2_with (go_at_call 29; refine (l1Key_yes _ _ k0 k1).mono ?_; rintro e w' ⟨rfl, rfl⟩)
  go_loop [5, 6, 7] (fun x y i => ∃ k : Nat, k ≤ j ∧ i = .int .i64 k ∧ (∃ X, x = .int .i64 X) ∧ (∃ Y, y = .int .i64 Y)) (fun _ _ i => l.length - (intOf i).toNat)
  case atStart => exact ⟨0, Nat.zero_le _, rfl, ⟨_, rfl⟩, ⟨_, rfl⟩⟩
  case round =>
    obtain ⟨k, hk, rfl, ⟨X, rfl⟩, ⟨Y, rfl⟩⟩ := hrel
    have hlt : k < l.length := by omega
    obtain ⟨b, off, rfl, hb, hc⟩ := hA k hlt
    clear hA
    by_cases hkj : k = j
    · subst hkj
      generalize l.getD k 0 = v at hc hjv
      go_wp2
      go_ret
      exact ⟨rfl, rfl⟩
    · have hkj' : k < j := by omega
      clear hkj hjv
      generalize l.getD k 0 = v at hc
      by_cases hv : v < 0
      · go_wp2
        go_ret
        exact ⟨rfl, rfl⟩
      · go_wp2
        go_round
        case rel => exact ⟨k + 1, by omega, by go_num, ⟨_, rfl⟩, ⟨_, rfl⟩⟩
        case measure => simp [intOf]; omega

theorem specMix_calls (key : Int) (A : Option Addr) (l : List Int) (cap B : Nat) (w : World) (hn : l.length ≤ maxLen) (hA : Ints w .i64 B A l) (hi : I64s l) :
    Calls Try.prog 41 #[.int .i64 key, .slice A l.length cap] w fun e w' => e = .returned (.int .i64 (mixOf key l)) ∧ w = w' := by
  by_cases hk : 1 ≤ key ∧ key ≤ 1000000
  · obtain ⟨k0, k1⟩ := hk
    by_cases hf : Fine l
    · exact specMix_fine key A l cap B w hn hA hi hf k0 k1
    · rw [mixOf_neg hf]
      exact specMix_neg key A l cap B w hn hA (not_fine hf) k0 k1
  · have hk' : key < 1 ∨ 1000000 < key := by omega
    rw [mixOf_key hk']
    clear hA hi hn hk
    go_enter Try.func41, Try.ntmps41
    go_wp2_with (go_at_call 29; refine (l1Key_no _ _ hk').mono ?_; rintro e w' ⟨rfl, rfl⟩)
    go_ret
    exact ⟨rfl, rfl⟩
end Go.Proofs.Ythbkccagpggljaa.Mx

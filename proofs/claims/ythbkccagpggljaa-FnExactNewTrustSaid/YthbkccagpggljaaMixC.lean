/- CONTRACTS OF impl.rolled[int64], impl.mixed, impl.MixOf: MixOf answers 'mixOf', at every key and every list; the world stays. -/
import Derived.Test.YthbkccagpggljaaMixB
namespace Go.Proofs.Ythbkccagpggljaa.Mx
open Go.ChangeShapes Go.WideShapes Go.ChangeAt Go.RowKit
set_option linter.unusedVariables false

theorem rolled_x (s : Int) (A : Option Addr) (l : List Int) (cap B : Nat) (w : World) (hn : l.length ≤ maxLen) (hA : Ints w .i64 B A l) (hf : Fine l) (hi : I64s l) (s0 : 0 ≤ s) (s1 : s ≤ 2147483628) :
    Calls Try.prog 72 #[.int .i64 s, .int .i64 131, .int .i64 2147483647, .slice A l.length cap] w fun e w' => e = .returned (.int .i64 (roll 131 2147483647 s l)) ∧ w = w' := by
  unfold maxLen at hn
  go_enter Try.func72, Try.ntmps72
  go_wp2
  go_loop [9, 15] (fun r i => ∃ k : Nat, k ≤ l.length ∧ i = .int .i64 k ∧ r = .int .i64 (roll 131 2147483647 s (l.take k))) (fun _ i => l.length - (intOf i).toNat)
  case atStart => exact ⟨0, Nat.zero_le _, rfl, rfl⟩
  case round =>
    obtain ⟨k, hk, rfl, rfl⟩ := hrel
    by_cases hlt : k < l.length
    · obtain ⟨b, off, rfl, hb, hc⟩ := hA k hlt
      have hv0 := hf k hlt
      have hv1 := (hi k hlt).2
      have hR := roll_bd 131 2147483647 s (l.take k) (by omega) s0 (by omega)
      have hst := roll_take 131 2147483647 s l k hlt
      have HS := Lib.hid hst
      clear hst hA hf hi
      generalize l.getD k 0 = v at hc hv0 hv1 HS
      generalize roll 131 2147483647 s (l.take k) = R at hR HS
      obtain ⟨hR0, hR1⟩ := hR
      go_wp2
      go_round
      case rel => exact ⟨k + 1, by omega, by go_num, by rw [HS.out]⟩
      case measure => simp [intOf]; omega
    · have hk' : k = l.length := by omega
      clear hA hf hi
      have HR : roll 131 2147483647 s (l.take k) = roll 131 2147483647 s l := by rw [hk', roll_all]
      rw [HR]; clear HR
      go_wp2
      go_ret
      exact ⟨rfl, rfl⟩

theorem rolled_y (s : Int) (A : Option Addr) (l : List Int) (cap B : Nat) (w : World) (hn : l.length ≤ maxLen) (hA : Ints w .i64 B A l) (hf : Fine l) (hi : I64s l) (s0 : 0 ≤ s) (s1 : s ≤ 2147483628) :
    Calls Try.prog 72 #[.int .i64 s, .int .i64 137, .int .i64 2147483629, .slice A l.length cap] w fun e w' => e = .returned (.int .i64 (roll 137 2147483629 s l)) ∧ w = w' := by
  unfold maxLen at hn
  go_enter Try.func72, Try.ntmps72
  go_wp2
  go_loop [9, 15] (fun r i => ∃ k : Nat, k ≤ l.length ∧ i = .int .i64 k ∧ r = .int .i64 (roll 137 2147483629 s (l.take k))) (fun _ i => l.length - (intOf i).toNat)
  case atStart => exact ⟨0, Nat.zero_le _, rfl, rfl⟩
  case round =>
    obtain ⟨k, hk, rfl, rfl⟩ := hrel
    by_cases hlt : k < l.length
    · obtain ⟨b, off, rfl, hb, hc⟩ := hA k hlt
      have hv0 := hf k hlt
      have hv1 := (hi k hlt).2
      have hR := roll_bd 137 2147483629 s (l.take k) (by omega) s0 (by omega)
      have hst := roll_take 137 2147483629 s l k hlt
      have HS := Lib.hid hst
      clear hst hA hf hi
      generalize l.getD k 0 = v at hc hv0 hv1 HS
      generalize roll 137 2147483629 s (l.take k) = R at hR HS
      obtain ⟨hR0, hR1⟩ := hR
      go_wp2
      go_round
      case rel => exact ⟨k + 1, by omega, by go_num, by rw [HS.out]⟩
      case measure => simp [intOf]; omega
    · have hk' : k = l.length := by omega
      clear hA hf hi
      have HR : roll 137 2147483629 s (l.take k) = roll 137 2147483629 s l := by rw [hk', roll_all]
      rw [HR]; clear HR
      go_wp2
      go_ret
      exact ⟨rfl, rfl⟩

theorem mixed_calls (key : Int) (A : Option Addr) (l : List Int) (cap B : Nat) (w : World) (hn : l.length ≤ maxLen) (hA : Ints w .i64 B A l) (hi : I64s l) :
    Calls Try.prog 68 #[.int .i64 key, .slice A l.length cap] w fun e w' => e = .returned (.int .i64 (mixOf key l)) ∧ w = w' := by
  by_cases hk : 1 ≤ key ∧ key ≤ 1000000
  · obtain ⟨k0, k1⟩ := hk
    by_cases hf : Fine l
    · rw [mixOf_yes k0 k1 hf]
      have X := roll_bd 131 2147483647 (7 + key) l (by omega) (by omega) (by omega)
      have Y := roll_bd 137 2147483629 (11 + 2 * key) l (by omega) (by omega) (by omega)
      have C1 := Lib.hid (fun w h => rolled_x (7 + key) A l cap B w hn h hf hi (by omega) (by omega))
      have C2 := Lib.hid (fun w h => rolled_y (11 + 2 * key) A l cap B w hn h hf hi (by omega) (by omega))
      have C0 := Lib.hid (anyNegative_no A l cap B w hn hA hf)
      have HA := Lib.hid hA
      clear hA hf hi hn
      generalize roll 131 2147483647 (7 + key) l = x at X C1
      generalize roll 137 2147483629 (11 + 2 * key) l = y at Y C2
      obtain ⟨x0, x1⟩ := X
      obtain ⟨y0, y1⟩ := Y
      go_enter Try.func68, Try.ntmps68
      go_wp2_with fail
      refine (isKey_yes _ _ k0 k1).mono ?_; rintro e w' ⟨rfl, rfl⟩
      go_wp2_with fail
      refine C0.out.mono ?_; rintro e w' ⟨rfl, rfl⟩
      go_wp2_with fail
      refine (C1.out _ HA.out).mono ?_; rintro e w' ⟨rfl, rfl⟩
      go_wp2_with fail
      refine (C2.out _ HA.out).mono ?_; rintro e w' ⟨rfl, rfl⟩
      go_wp2
      go_ret
      exact ⟨rfl, rfl⟩
    · rw [mixOf_neg hf]
      have hf' := not_fine hf
      have C0 := Lib.hid (anyNegative_yes A l cap B w hn hA hf')
      clear hA hf hi hn hf'
      go_enter Try.func68, Try.ntmps68
      go_wp2_with fail
      refine (isKey_yes _ _ k0 k1).mono ?_; rintro e w' ⟨rfl, rfl⟩
      go_wp2_with fail
      refine C0.out.mono ?_; rintro e w' ⟨rfl, rfl⟩
      go_wp2
      go_ret
      exact ⟨rfl, rfl⟩
  · have hk' : key < 1 ∨ 1000000 < key := by omega
    rw [mixOf_key hk']
    clear hA hi hn hk
    go_enter Try.func68, Try.ntmps68
    go_wp2_with fail
    refine (isKey_no _ _ hk').mono ?_; rintro e w' ⟨rfl, rfl⟩
    go_wp2
    go_ret
    exact ⟨rfl, rfl⟩

end Go.Proofs.Ythbkccagpggljaa.Mx

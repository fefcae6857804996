import Derived.Test.YtjbnknccnhdapaaE02
import Derived.Test.YtjbnknccnhdapaaE01
import Derived.Lib.Hide
import Derived.Outline
import Derived.Deep.RegionWith
namespace Go.Proofs.Ytjbnknccnhdapaa.Mx
open Go.ChangeShapes Go.WideShapes Go.ChangeAt Go.RowKit
set_option linter.unusedVariables false
theorem isKey_yes (s : Int) (w : World) (h0 : 1 ≤ s) (h1 : s ≤ 1000000) :
    Calls Try.prog 68 #[.int .i64 s] w fun e w' => e = .returned (.bool true) ∧ w = w' := by
  go_enter Try.func68, Try.ntmps68
  go_wp2
  go_ret
  exact ⟨rfl, rfl⟩
theorem isKey_no (s : Int) (w : World) (h : s < 1 ∨ 1000000 < s) :
    Calls Try.prog 68 #[.int .i64 s] w fun e w' => e = .returned (.bool false) ∧ w = w' := by
  by_cases h0 : 1 ≤ s
  · have h2 : ¬ s ≤ 1000000 := by omega
    clear h
    go_enter Try.func68, Try.ntmps68
    go_wp2
    go_ret
    exact ⟨rfl, rfl⟩
  · clear h
    go_enter Try.func68, Try.ntmps68
    go_wp2
    go_ret
    exact ⟨rfl, rfl⟩
theorem anyNegative_no (A : Option Addr) (l : List Int) (cap B : Nat) (w : World) (hn : l.length ≤ maxLen) (hA : Ints w .i64 B A l) (hf : Fine l) :
    Calls Try.prog 78 #[.slice A l.length cap] w fun e w' => e = .returned (.bool false) ∧ w = w' := by
  unfold maxLen at hn
  go_enter Try.func78, Try.ntmps78
  go_wp2
  go_loop [7] (fun i => ∃ k : Nat, k ≤ l.length ∧ i = .int .i64 k) (fun i => l.length - (intOf i).toNat)
  case atStart => exact ⟨0, Nat.zero_le _, rfl⟩
  case round =>
    obtain ⟨k, hk, rfl⟩ := hrel
    by_cases hlt : k < l.length
    · obtain ⟨b, off, rfl, hb, hc⟩ := hA k hlt
      have hv0 := hf k hlt
      generalize l.getD k 0 = v at hc hv0
      clear hA hf
      go_wp2
      go_round
      case rel => exact ⟨k + 1, by omega, by go_num⟩
      case measure => simp [intOf]; omega
    · clear hA hf
      go_wp2
      go_ret
      exact ⟨rfl, rfl⟩
theorem anyNegative_yes (A : Option Addr) (l : List Int) (cap B : Nat) (w : World) (hn : l.length ≤ maxLen) (hA : Ints w .i64 B A l) (hf : ∃ i, i < l.length ∧ l.getD i 0 < 0) :
    Calls Try.prog 78 #[.slice A l.length cap] w fun e w' => e = .returned (.bool true) ∧ w = w' := by
  unfold maxLen at hn
  obtain ⟨j, hj, hjv⟩ := hf
  go_enter Try.func78, Try.ntmps78
  go_wp2
  go_loop [7] (fun i => ∃ k : Nat, k ≤ j ∧ i = .int .i64 k) (fun i => l.length - (intOf i).toNat)
  case atStart => exact ⟨0, Nat.zero_le _, rfl⟩
  case round =>
    obtain ⟨k, hk, rfl⟩ := hrel
    have hlt : k < l.length := by omega
    obtain ⟨b, off, rfl, hb, hc⟩ := hA k hlt
    clear hA
    by_cases hkj : k = j
    · subst hkj
      generalize l.getD k 0 = v at hc hjv
      go_wp2
      go_ret
      exact ⟨rfl, rfl⟩
    · have hkj' : k < j := by omega
      clear hkj hjv
      generalize l.getD k 0 = v at hc
      by_cases hv : v < 0
      · go_wp2
        go_ret
        exact ⟨rfl, rfl⟩
      · go_wp2
        go_round
        case rel => exact ⟨k + 1, by omega, by go_num⟩
        case measure => simp [intOf]; omega
end Go.Proofs.Ytjbnknccnhdapaa.Mx
namespace Go.Proofs.Ytjbnknccnhdapaa.Mx
open Go.ChangeShapes Go.WideShapes Go.ChangeAt Go.RowKit
set_option linter.unusedVariables false
theorem rolled_x (s : Int) (A : Option Addr) (l : List Int) (cap B : Nat) (w : World) (hn : l.length ≤ maxLen) (hA : Ints w .i64 B A l) (hf : Fine l) (hi : I64s l) (s0 : 0 ≤ s) (s1 : s ≤ 2147483628) :
    Calls Try.prog 79 #[.int .i64 s, .int .i64 131, .int .i64 2147483647, .slice A l.length cap] w fun e w' => e = .returned (.int .i64 (roll 131 2147483647 s l)) ∧ w = w' := by
  unfold maxLen at hn
  go_enter Try.func79, Try.ntmps79
  go_wp2
  go_loop [9, 15] (fun r i => ∃ k : Nat, k ≤ l.length ∧ i = .int .i64 k ∧ r = .int .i64 (roll 131 2147483647 s (l.take k))) (fun _ i => l.length - (intOf i).toNat)
  case atStart => exact ⟨0, Nat.zero_le _, rfl, rfl⟩
  case round =>
    obtain ⟨k, hk, rfl, rfl⟩ := hrel
    by_cases hlt : k < l.length
    · obtain ⟨b, off, rfl, hb, hc⟩ := hA k hlt
      have hv0 := hf k hlt
      have hv1 := (hi k hlt).2
      have hR := roll_bd 131 2147483647 s (l.take k) (by omega) s0 (by omega)
      have hst := roll_take 131 2147483647 s l k hlt
      have HS := Lib.hid hst
      clear hst hA hf hi
      generalize l.getD k 0 = v at hc hv0 hv1 HS
      generalize roll 131 2147483647 s (l.take k) = R at hR HS
      obtain ⟨hR0, hR1⟩ := hR
      go_wp2
      go_round
      case rel => exact ⟨k + 1, by omega, by go_num, by rw [HS.out]⟩
      case measure => simp [intOf]; omega
    · have hk' : k = l.length := by omega
      clear hA hf hi
      have HR : roll 131 2147483647 s (l.take k) = roll 131 2147483647 s l := by rw [hk', roll_all]
      rw [HR]; clear HR
      go_wp2
      go_ret
      exact ⟨rfl, rfl⟩
theorem rolled_y (s : Int) (A : Option Addr) (l : List Int) (cap B : Nat) (w : World) (hn : l.length ≤ maxLen) (hA : Ints w .i64 B A l) (hf : Fine l) (hi : I64s l) (s0 : 0 ≤ s) (s1 : s ≤ 2147483628) :
    Calls Try.prog 79 #[.int .i64 s, .int .i64 137, .int .i64 2147483629, .slice A l.length cap] w fun e w' => e = .returned (.int .i64 (roll 137 2147483629 s l)) ∧ w = w' := by
  unfold maxLen at hn
  go_enter Try.func79, Try.ntmps79
  go_wp2
  go_loop [9, 15] (fun r i => ∃ k : Nat, k ≤ l.length ∧ i = .int .i64 k ∧ r = .int .i64 (roll 137 2147483629 s (l.take k))) (fun _ i => l.length - (intOf i).toNat)
  case atStart => exact ⟨0, Nat.zero_le _, rfl, rfl⟩
  case round =>
    obtain ⟨k, hk, rfl, rfl⟩ := hrel
    by_cases hlt : k < l.length
    · obtain ⟨b, off, rfl, hb, hc⟩ := hA k hlt
      have hv0 := hf k hlt
      have hv1 := (hi k hlt).2
      have hR := roll_bd 137 2147483629 s (l.take k) (by omega) s0 (by omega)
      have hst := roll_take 137 2147483629 s l k hlt
      have HS := Lib.hid hst
      clear hst hA hf hi
      generalize l.getD k 0 = v at hc hv0 hv1 HS
      generalize roll 137 2147483629 s (l.take k) = R at hR HS
      obtain ⟨hR0, hR1⟩ := hR
      go_wp2
      go_round
      case rel => exact ⟨k + 1, by omega, by go_num, by rw [HS.out]⟩
      case measure => simp [intOf]; omega
    · have hk' : k = l.length := by omega
      clear hA hf hi
      have HR : roll 137 2147483629 s (l.take k) = roll 137 2147483629 s l := by rw [hk', roll_all]
      rw [HR]; clear HR
      go_wp2
      go_ret
      exact ⟨rfl, rfl⟩
theorem mixed_calls (key : Int) (A : Option Addr) (l : List Int) (cap B : Nat) (w : World) (hn : l.length ≤ maxLen) (hA : Ints w .i64 B A l) (hi : I64s l) :
    Calls Try.prog 67 #[.int .i64 key, .slice A l.length cap] w fun e w' => e = .returned (.int .i64 (mixOf key l)) ∧ w = w' := by
  by_cases hk : 1 ≤ key ∧ key ≤ 1000000
  · obtain ⟨k0, k1⟩ := hk
    by_cases hf : Fine l
    · rw [mixOf_yes k0 k1 hf]
      have X := roll_bd 131 2147483647 (7 + key) l (by omega) (by omega) (by omega)
      have Y := roll_bd 137 2147483629 (11 + 2 * key) l (by omega) (by omega) (by omega)
      have C1 := Lib.hid (fun w h => rolled_x (7 + key) A l cap B w hn h hf hi (by omega) (by omega))
      have C2 := Lib.hid (fun w h => rolled_y (11 + 2 * key) A l cap B w hn h hf hi (by omega) (by omega))
      have C0 := Lib.hid (anyNegative_no A l cap B w hn hA hf)
      have HA := Lib.hid hA
      clear hA hf hi hn
      generalize roll 131 2147483647 (7 + key) l = x at X C1
      generalize roll 137 2147483629 (11 + 2 * key) l = y at Y C2
      obtain ⟨x0, x1⟩ := X
      obtain ⟨y0, y1⟩ := Y
      go_enter Try.func67, Try.ntmps67
      go_wp2_with fail
      refine (isKey_yes _ _ k0 k1).mono ?_; rintro e w' ⟨rfl, rfl⟩
      go_wp2_with fail
      refine C0.out.mono ?_; rintro e w' ⟨rfl, rfl⟩
      go_wp2_with fail
      refine (C1.out _ HA.out).mono ?_; rintro e w' ⟨rfl, rfl⟩
      go_wp2_with fail
      refine (C2.out _ HA.out).mono ?_; rintro e w' ⟨rfl, rfl⟩
      go_wp2
      go_ret
      exact ⟨rfl, rfl⟩
    · rw [mixOf_neg hf]
      have hf' := not_fine hf
      have C0 := Lib.hid (anyNegative_yes A l cap B w hn hA hf')
      clear hA hf hi hn hf'
      go_enter Try.func67, Try.ntmps67
      go_wp2_with fail
      refine (isKey_yes _ _ k0 k1).mono ?_; rintro e w' ⟨rfl, rfl⟩
      go_wp2_with fail
      refine C0.out.mono ?_; rintro e w' ⟨rfl, rfl⟩
      go_wp2
      go_ret
      exact ⟨rfl, rfl⟩
  · have hk' : key < 1 ∨ 1000000 < key := by omega
    rw [mixOf_key hk']
    clear hA hi hn hk
    go_enter Try.func67, Try.ntmps67
    go_wp2_with fail
    refine (isKey_no _ _ hk').mono ?_; rintro e w' ⟨rfl, rfl⟩
    go_wp2
    go_ret
    exact ⟨rfl, rfl⟩
end Go.Proofs.Ytjbnknccnhdapaa.Mx
namespace Go.Proofs.Ytjbnknccnhdapaa.Mx
open Go.ChangeShapes Go.WideShapes Go.ChangeAt Go.RowKit
set_option linter.unusedVariables false
theorem l1Key_yes (s : Int) (w : World) (h0 : 1 ≤ s) (h1 : s ≤ 1000000) :
    Calls Try.prog 64 #[.int .i64 s] w fun e w' => e = .returned (.bool true) ∧ w = w' := by
  go_enter Try.func64, Try.ntmps64
  go_wp2_with (go_at_call 34; refine (l1In_yes _ _ _ _ h0 h1).mono ?_; rintro e w' ⟨rfl, rfl⟩)
  go_ret
  exact ⟨rfl, rfl⟩
theorem l1Key_no (s : Int) (w : World) (h : s < 1 ∨ 1000000 < s) :
    Calls Try.prog 64 #[.int .i64 s] w fun e w' => e = .returned (.bool false) ∧ w = w' := by
  go_enter Try.func64, Try.ntmps64
  go_wp2_with (go_at_call 34; refine (l1In_no _ _ _ _ h).mono ?_; rintro e w' ⟨rfl, rfl⟩)
  go_ret
  exact ⟨rfl, rfl⟩
theorem specMix_fine (key : Int) (A : Option Addr) (l : List Int) (cap B : Nat) (w : World) (hn : l.length ≤ maxLen) (hA : Ints w .i64 B A l) (hi : I64s l) (hf : Fine l) (k0 : 1 ≤ key) (k1 : key ≤ 1000000) :
    Calls Try.prog 49 #[.int .i64 key, .slice A l.length cap] w fun e w' => e = .returned (.int .i64 (mixOf key l)) ∧ w = w' := by
  unfold maxLen at hn
  rw [mixOf_yes k0 k1 hf]
  have FX := roll_bd 131 2147483647 (7 + key) l (by omega) (by omega) (by omega)
  have FY := roll_bd 137 2147483629 (11 + 2 * key) l (by omega) (by omega) (by omega)
  generalize hx : roll 131 2147483647 (7 + key) l = x at FX
  generalize hy : roll 137 2147483629 (11 + 2 * key) l = y at FY
  have HX := Lib.hid hx
  have HY := Lib.hid hy
  clear hx hy
  obtain ⟨fx0, fx1⟩ := FX
  obtain ⟨fy0, fy1⟩ := FY
  go_enter Try.func49, Try.ntmps49
  go_wp2_with (go_at_call 64; refine (l1Key_yes _ _ k0 k1).mono ?_; rintro e w' ⟨rfl, rfl⟩)
  go_loop [5, 6, 7] (fun x y i => ∃ k : Nat, k ≤ l.length ∧ i = .int .i64 k ∧ x = .int .i64 (roll 131 2147483647 (7 + key) (l.take k)) ∧ y = .int .i64 (roll 137 2147483629 (11 + 2 * key) (l.take k))) (fun _ _ i => l.length - (intOf i).toNat)
  case atStart => exact ⟨0, Nat.zero_le _, rfl, rfl, rfl⟩
  case round =>
    obtain ⟨k, hk, rfl, rfl, rfl⟩ := hrel
    have X := roll_bd 131 2147483647 (7 + key) (l.take k) (by omega) (by omega) (by omega)
    have Y := roll_bd 137 2147483629 (11 + 2 * key) (l.take k) (by omega) (by omega) (by omega)
    by_cases hlt : k < l.length
    · obtain ⟨b, off, rfl, hb, hc⟩ := hA k hlt
      have hv0 := hf k hlt
      have hv1 := (hi k hlt).2
      have HS := Lib.hid (roll_take 131 2147483647 (7 + key) l k hlt)
      have HT := Lib.hid (roll_take 137 2147483629 (11 + 2 * key) l k hlt)
      clear hA hf hi
      generalize l.getD k 0 = v at hc hv0 hv1 HS HT
      generalize roll 131 2147483647 (7 + key) (l.take k) = x at X HS
      generalize roll 137 2147483629 (11 + 2 * key) (l.take k) = y at Y HT
      obtain ⟨x0, x1⟩ := X
      obtain ⟨y0, y1⟩ := Y
      go_wp2
      go_round
      case rel => exact ⟨k + 1, by omega, by go_num, by rw [HS.out]; go_num, by rw [HT.out]; go_num⟩
      case measure => simp [intOf]; omega
    · have hk' : k = l.length := by omega
      clear hA hf hi
      have HR : roll 131 2147483647 (7 + key) (l.take k) = x := by rw [hk', roll_all]; exact HX.out
      have HQ : roll 137 2147483629 (11 + 2 * key) (l.take k) = y := by rw [hk', roll_all]; exact HY.out
      rw [HR, HQ]
      clear HR HQ X Y
      go_wp2
      go_ret
      exact ⟨rfl, rfl⟩
theorem specMix_neg (key : Int) (A : Option Addr) (l : List Int) (cap B : Nat) (w : World) (hn : l.length ≤ maxLen) (hA : Ints w .i64 B A l) (hf : ∃ i, i < l.length ∧ l.getD i 0 < 0) (k0 : 1 ≤ key) (k1 : key ≤ 1000000) :
    Calls Try.prog 49 #[.int .i64 key, .slice A l.length cap] w fun e w' => e = .returned (.int .i64 (-1)) ∧ w = w' := by
  unfold maxLen at hn
  obtain ⟨j, hj, hjv⟩ := hf
  go_enter Try.func49, Try.ntmps49
  go_wp2_with (go_at_call 64; refine (l1Key_yes _ _ k0 k1).mono ?_; rintro e w' ⟨rfl, rfl⟩)
  go_loop [5, 6, 7] (fun x y i => ∃ k : Nat, k ≤ j ∧ i = .int .i64 k ∧ (∃ X, x = .int .i64 X) ∧ (∃ Y, y = .int .i64 Y)) (fun _ _ i => l.length - (intOf i).toNat)
  case atStart => exact ⟨0, Nat.zero_le _, rfl, ⟨_, rfl⟩, ⟨_, rfl⟩⟩
  case round =>
    obtain ⟨k, hk, rfl, ⟨X, rfl⟩, ⟨Y, rfl⟩⟩ := hrel
    have hlt : k < l.length := by omega
    obtain ⟨b, off, rfl, hb, hc⟩ := hA k hlt
    clear hA
    by_cases hkj : k = j
    · subst hkj
      generalize l.getD k 0 = v at hc hjv
      go_wp2
      go_ret
      exact ⟨rfl, rfl⟩
    · have hkj' : k < j := by omega
      clear hkj hjv
      generalize l.getD k 0 = v at hc
      by_cases hv : v < 0
      · go_wp2
        go_ret
        exact ⟨rfl, rfl⟩
      · go_wp2
        go_round
        case rel => exact ⟨k + 1, by omega, by go_num, ⟨_, rfl⟩, ⟨_, rfl⟩⟩
        case measure => simp [intOf]; omega
theorem specMix_calls (key : Int) (A : Option Addr) (l : List Int) (cap B : Nat) (w : World) (hn : l.length ≤ maxLen) (hA : Ints w .i64 B A l) (hi : I64s l) :
    Calls Try.prog 49 #[.int .i64 key, .slice A l.length cap] w fun e w' => e = .returned (.int .i64 (mixOf key l)) ∧ w = w' := by
  by_cases hk : 1 ≤ key ∧ key ≤ 1000000
  · obtain ⟨k0, k1⟩ := hk
    by_cases hf : Fine l
    · exact specMix_fine key A l cap B w hn hA hi hf k0 k1
    · rw [mixOf_neg hf]
      exact specMix_neg key A l cap B w hn hA (not_fine hf) k0 k1
  · have hk' : key < 1 ∨ 1000000 < key := by omega
    rw [mixOf_key hk']
    clear hA hi hn hk
    go_enter Try.func49, Try.ntmps49
    go_wp2_with (go_at_call 64; refine (l1Key_no _ _ hk').mono ?_; rintro e w' ⟨rfl, rfl⟩)
    go_ret
    exact ⟨rfl, rfl⟩
end Go.Proofs.Ytjbnknccnhdapaa.Mx
namespace Go.Proofs.Ytjbnknccnhdapaa.Mx
open Go.ChangeShapes Go.WideShapes Go.ChangeAt Go.RowKit
set_option linter.unusedVariables false
def I64 (x : Int) : Prop := -9223372036854775808 ≤ x ∧ x ≤ 9223372036854775807
def isVal (v : Int) : Prop := 0 ≤ v ∧ v ≤ 10006
theorem isValue_yes (s : Int) (w : World) (h : isVal s) :
    Calls Try.prog 82 #[.int .i64 s] w fun e w' => e = .returned (.bool true) ∧ w = w' := by
  obtain ⟨h0, h1⟩ := h
  have h2 : s < 10007 := by omega
  go_enter Try.func82, Try.ntmps82
  go_wp2
  go_ret
  exact ⟨rfl, rfl⟩
theorem isValue_no (s : Int) (w : World) (h : ¬ isVal s) :
    Calls Try.prog 82 #[.int .i64 s] w fun e w' => e = .returned (.bool false) ∧ w = w' := by
  unfold isVal at h
  by_cases h0 : 0 ≤ s
  · have h2 : ¬ s < 10007 := by omega
    clear h
    go_enter Try.func82, Try.ntmps82
    go_wp2
    go_ret
    exact ⟨rfl, rfl⟩
  · clear h
    go_enter Try.func82, Try.ntmps82
    go_wp2
    go_ret
    exact ⟨rfl, rfl⟩
theorem l2Value_yes (s : Int) (w : World) (h : isVal s) :
    Calls Try.prog 51 #[.int .i64 s] w fun e w' => e = .returned (.bool true) ∧ w = w' := by
  obtain ⟨h0, h1⟩ := h
  go_enter Try.func51, Try.ntmps51
  go_wp2_with (go_at_call 34; refine (l1In_yes _ _ _ _ h0 h1).mono ?_; rintro e w' ⟨rfl, rfl⟩)
  go_ret
  exact ⟨rfl, rfl⟩
theorem l2Value_no (s : Int) (w : World) (h : ¬ isVal s) :
    Calls Try.prog 51 #[.int .i64 s] w fun e w' => e = .returned (.bool false) ∧ w = w' := by
  unfold isVal at h
  have h' : s < 0 ∨ 10006 < s := by omega
  clear h
  go_enter Try.func51, Try.ntmps51
  go_wp2_with (go_at_call 34; refine (l1In_no _ _ _ _ h').mono ?_; rintro e w' ⟨rfl, rfl⟩)
  go_ret
  exact ⟨rfl, rfl⟩
end Go.Proofs.Ytjbnknccnhdapaa.Mx
namespace Go.Proofs.Ytjbnknccnhdapaa.Mx
open Go.ChangeShapes Go.WideShapes Go.ChangeAt Go.RowKit
set_option linter.unusedVariables false
def isTm (t : Int) : Prop := 0 ≤ t ∧ t ≤ 100000
instance (a : Int) : Decidable (isTm a) := inferInstanceAs (Decidable (_ ∧ _))
instance (a : Int) : Decidable (isVal a) := inferInstanceAs (Decidable (_ ∧ _))
theorem isTime_yes (s : Int) (w : World) (h : isTm s) :
    Calls Try.prog 85 #[.int .i64 s] w fun e w' => e = .returned (.bool true) ∧ w = w' := by
  obtain ⟨h0, h1⟩ := h
  go_enter Try.func85, Try.ntmps85
  go_wp2
  go_ret
  exact ⟨rfl, rfl⟩
theorem isTime_no (s : Int) (w : World) (h : ¬ isTm s) :
    Calls Try.prog 85 #[.int .i64 s] w fun e w' => e = .returned (.bool false) ∧ w = w' := by
  unfold isTm at h
  by_cases h0 : 0 ≤ s
  · have h2 : ¬ s ≤ 100000 := by omega
    clear h
    go_enter Try.func85, Try.ntmps85
    go_wp2
    go_ret
    exact ⟨rfl, rfl⟩
  · clear h
    go_enter Try.func85, Try.ntmps85
    go_wp2
    go_ret
    exact ⟨rfl, rfl⟩
theorem l3Time_yes (s : Int) (w : World) (h : isTm s) :
    Calls Try.prog 50 #[.int .i64 s] w fun e w' => e = .returned (.bool true) ∧ w = w' := by
  obtain ⟨h0, h1⟩ := h
  go_enter Try.func50, Try.ntmps50
  go_wp2_with (go_at_call 34; refine (l1In_yes _ _ _ _ h0 h1).mono ?_; rintro e w' ⟨rfl, rfl⟩)
  go_ret
  exact ⟨rfl, rfl⟩
theorem l3Time_no (s : Int) (w : World) (h : ¬ isTm s) :
    Calls Try.prog 50 #[.int .i64 s] w fun e w' => e = .returned (.bool false) ∧ w = w' := by
  unfold isTm at h
  have h' : s < 0 ∨ 100000 < s := by omega
  clear h
  go_enter Try.func50, Try.ntmps50
  go_wp2_with (go_at_call 34; refine (l1In_no _ _ _ _ h').mono ?_; rintro e w' ⟨rfl, rfl⟩)
  go_ret
  exact ⟨rfl, rfl⟩
end Go.Proofs.Ytjbnknccnhdapaa.Mx
namespace Go.Proofs.Ytjbnknccnhdapaa.Mx
open Go.ChangeShapes Go.WideShapes Go.ChangeAt Go.RowKit
set_option linter.unusedVariables false
end Go.Proofs.Ytjbnknccnhdapaa.Mx
namespace Go.Proofs.Ytjbnknccnhdapaa.Mx
open Go.ChangeShapes Go.WideShapes Go.ChangeAt Go.RowKit
set_option linter.unusedVariables false
end Go.Proofs.Ytjbnknccnhdapaa.Mx
namespace Go.Proofs.Ytjbnknccnhdapaa.Mx
open Go.ChangeShapes Go.WideShapes Go.ChangeAt Go.RowKit
set_option linter.unusedVariables false
def isCell (t v : Int) : Prop := isTm t ∧ isVal v
instance (t v : Int) : Decidable (isCell t v) := inferInstanceAs (Decidable (_ ∧ _))
theorem specCellOk_calls (t v : Int) (w : World) :
    Calls Try.prog 36 #[.agg #[.int .i64 t, .int .i64 v]] w fun e w' => e = .returned (.bool (decide (isCell t v))) ∧ Below w.heap.size w w' := by
  by_cases ht : isTm t
  · have D := Lib.hid (fun w => l3Time_yes t w ht)
    by_cases hv : isVal v
    · have E := Lib.hid (fun w => l2Value_yes v w hv)
      rw [decide_eq_true (show isCell t v from ⟨ht, hv⟩)]
      clear ht hv
      go_enter Try.func36, Try.ntmps36
      go_wp2_with fail
      refine (D.out _).mono ?_; rintro e w' ⟨rfl, rfl⟩
      go_wp2_with fail
      refine (E.out _).mono ?_; rintro e w' ⟨rfl, rfl⟩
      go_wp2_with fail
      go_ret
      exact ⟨rfl, (Below.refl _ _).alloc (Nat.le_refl _) _⟩
    · have E := Lib.hid (fun w => l2Value_no v w hv)
      rw [decide_eq_false (show ¬ isCell t v from fun h => hv h.2)]
      clear ht hv
      go_enter Try.func36, Try.ntmps36
      go_wp2_with fail
      refine (D.out _).mono ?_; rintro e w' ⟨rfl, rfl⟩
      go_wp2_with fail
      refine (E.out _).mono ?_; rintro e w' ⟨rfl, rfl⟩
      go_wp2_with fail
      go_ret
      exact ⟨rfl, (Below.refl _ _).alloc (Nat.le_refl _) _⟩
  · have D := Lib.hid (fun w => l3Time_no t w ht)
    rw [decide_eq_false (show ¬ isCell t v from fun h => ht h.1)]
    clear ht
    go_enter Try.func36, Try.ntmps36
    go_wp2_with fail
    refine (D.out _).mono ?_; rintro e w' ⟨rfl, rfl⟩
    go_wp2_with fail
    go_ret
    exact ⟨rfl, (Below.refl _ _).alloc (Nat.le_refl _) _⟩
end Go.Proofs.Ytjbnknccnhdapaa.Mx
namespace Go.Proofs.Ytjbnknccnhdapaa.Mx
set_option linter.unusedVariables false
def upTo (l : List Int) (k : Nat) : Int := (l.take k).foldl (· + ·) 0
theorem upTo_zero (l : List Int) : upTo l 0 = 0 := by simp [upTo]
theorem upTo_succ (l : List Int) {k : Nat} (h : k < l.length) : upTo l (k + 1) = upTo l k + l.getD k 0 := by
  unfold upTo
  rw [List.take_succ_eq_append_getElem h, List.foldl_append, List.getD_eq_getElem?_getD, List.getElem?_eq_getElem h]
  rfl
def CountsOk (l : List Int) : Prop := ∀ i, i < l.length → 1 ≤ l.getD i 0 ∧ l.getD i 0 ≤ 8
def planOk (key : Int) (l : List Int) : Prop := (1 ≤ key ∧ key ≤ 1000000) ∧ (1 ≤ l.length ∧ l.length ≤ 4) ∧ CountsOk l ∧ upTo l l.length ≤ 24
theorem upTo_bd {l : List Int} (h : CountsOk l) {k : Nat} (hk : k ≤ l.length) : 0 ≤ upTo l k ∧ upTo l k ≤ 8 * k := by
  induction k with
  | zero => rw [upTo_zero]; omega
  | succ k ih =>
    have h1 := ih (by omega)
    have h2 := h k (by omega)
    rw [upTo_succ l (by omega)]
    omega
open Classical in
noncomputable def sectorsOf (key : Int) (l : List Int) : Int := if planOk key l then upTo l l.length else -1
open Classical in
noncomputable def firstOf (key : Int) (l : List Int) (r : Int) : Int := if planOk key l ∧ 0 ≤ r ∧ r < l.length then upTo l r.toNat else -1
theorem firstOf_yes {key : Int} {l : List Int} {r : Nat} (h : planOk key l) (hr : r < l.length) : firstOf key l r = upTo l r := by
  unfold firstOf; rw [if_pos ⟨h, by omega, by omega⟩]; simp
theorem firstOf_no {key : Int} {l : List Int} {r : Int} (h : ¬ (planOk key l ∧ 0 ≤ r ∧ r < l.length)) : firstOf key l r = -1 := by unfold firstOf; rw [if_neg h]
theorem sectorsOf_yes {key : Int} {l : List Int} (h : planOk key l) : sectorsOf key l = upTo l l.length := by unfold sectorsOf; rw [if_pos h]
theorem sectorsOf_no {key : Int} {l : List Int} (h : ¬ planOk key l) : sectorsOf key l = -1 := by unfold sectorsOf; rw [if_neg h]
end Go.Proofs.Ytjbnknccnhdapaa.Mx
namespace Go.Proofs.Ytjbnknccnhdapaa.Mx
open Go.ChangeShapes Go.WideShapes Go.ChangeAt Go.RowKit
set_option linter.unusedVariables false
theorem isNoCount_no (c : Int) (w : World) (h0 : 1 ≤ c) (h1 : c ≤ 8) :
    Calls Try.prog 70 #[.int .i64 c] w fun e w' => e = .returned (.bool false) ∧ w = w' := by
  have h2 : ¬ c < 1 := by omega
  have h3 : ¬ 8 < c := by omega
  clear h0 h1
  go_enter Try.func70, Try.ntmps70
  go_wp2
  go_ret
  exact ⟨rfl, rfl⟩
theorem isNoCount_yes (c : Int) (w : World) (h : c < 1 ∨ 8 < c) :
    Calls Try.prog 70 #[.int .i64 c] w fun e w' => e = .returned (.bool true) ∧ w = w' := by
  by_cases h0 : c < 1
  · clear h
    go_enter Try.func70, Try.ntmps70
    go_wp2
    go_ret
    exact ⟨rfl, rfl⟩
  · have h1 : 8 < c := by omega
    clear h
    go_enter Try.func70, Try.ntmps70
    go_wp2
    go_ret
    exact ⟨rfl, rfl⟩
theorem not_counts {l : List Int} (h : ¬ CountsOk l) : ∃ i, i < l.length ∧ (l.getD i 0 < 1 ∨ 8 < l.getD i 0) := by
  refine Classical.byContradiction fun hn => h fun i hi => ?_
  refine Classical.byContradiction fun hc => hn ⟨i, hi, by omega⟩
theorem index_none (A : Option Addr) (l : List Int) (cap B : Nat) (w : World) (hn : l.length ≤ maxLen) (hA : Ints w .i64 B A l) (hf : CountsOk l) :
    Calls Try.prog 80 #[.slice A l.length cap, .func (.func 70) #[] #[]] w fun e w' => e = .returned (.int .i64 (-1)) ∧ w = w' := by
  unfold maxLen at hn
  have C := Lib.hid (fun c w (h : 1 ≤ c ∧ c ≤ 8) => isNoCount_no c w h.1 h.2)
  go_enter Try.func80, Try.ntmps80
  go_wp2
  go_loop [8] (fun i => ∃ k : Nat, k ≤ l.length ∧ i = .int .i64 k) (fun i => l.length - (intOf i).toNat)
  case atStart => exact ⟨0, Nat.zero_le _, rfl⟩
  case round =>
    obtain ⟨k, hk, rfl⟩ := hrel
    by_cases hlt : k < l.length
    · obtain ⟨b, off, rfl, hb, hc⟩ := hA k hlt
      have hv := Lib.hid (hf k hlt)
      generalize l.getD k 0 = v at hc hv
      clear hA hf
      go_wp2_with fail
      refine (C.out _ _ hv.out).mono ?_; rintro e w' ⟨rfl, rfl⟩
      go_wp2_with fail
      go_round
      case rel => exact ⟨k + 1, by omega, by go_num⟩
      case measure => simp [intOf]; omega
    · clear hA hf
      go_wp2
      go_ret
      exact ⟨rfl, rfl⟩
theorem index_some (A : Option Addr) (l : List Int) (cap B : Nat) (w : World) (hn : l.length ≤ maxLen) (hA : Ints w .i64 B A l) (hf : ¬ CountsOk l) :
    Calls Try.prog 80 #[.slice A l.length cap, .func (.func 70) #[] #[]] w fun e w' => ∃ i : Nat, e = .returned (.int .i64 i) ∧ i < maxLen ∧ w = w' := by
  unfold maxLen at *
  obtain ⟨j, hj, hjv⟩ := not_counts hf
  clear hf
  have C := Lib.hid (fun c w (h : 1 ≤ c ∧ c ≤ 8) => isNoCount_no c w h.1 h.2)
  have D := Lib.hid (fun c w (h : c < 1 ∨ 8 < c) => isNoCount_yes c w h)
  have HJ := Lib.hid hjv
  clear hjv
  go_enter Try.func80, Try.ntmps80
  go_wp2
  go_loop [8] (fun i => ∃ k : Nat, k ≤ j ∧ i = .int .i64 k) (fun i => l.length - (intOf i).toNat)
  case atStart => exact ⟨0, Nat.zero_le _, rfl⟩
  case round =>
    obtain ⟨k, hk, rfl⟩ := hrel
    have hlt : k < l.length := by omega
    obtain ⟨b, off, rfl, hb, hc⟩ := hA k hlt
    clear hA
    by_cases hbad : l.getD k 0 < 1 ∨ 8 < l.getD k 0
    · have hv := Lib.hid hbad
      clear hbad HJ
      generalize l.getD k 0 = v at hc hv
      go_wp2_with fail
      refine (D.out _ _ hv.out).mono ?_; rintro e w' ⟨rfl, rfl⟩
      go_wp2_with fail
      go_ret
      exact ⟨k, rfl, by omega, rfl⟩
    · have hkj : k < j := by
        rcases Nat.lt_or_ge k j with h | h
        · exact h
        · obtain rfl : k = j := by omega
          exact absurd HJ.out hbad
      have hv := Lib.hid (show 1 ≤ l.getD k 0 ∧ l.getD k 0 ≤ 8 by omega)
      clear hbad HJ
      generalize l.getD k 0 = v at hc hv
      go_wp2_with fail
      refine (C.out _ _ hv.out).mono ?_; rintro e w' ⟨rfl, rfl⟩
      go_wp2_with fail
      go_round
      case rel => exact ⟨k + 1, by omega, by go_num⟩
      case measure => simp [intOf]; omega
theorem contains_none (A : Option Addr) (l : List Int) (cap B : Nat) (w : World) (hn : l.length ≤ maxLen) (hA : Ints w .i64 B A l) (hf : CountsOk l) :
    Calls Try.prog 69 #[.slice A l.length cap, .func (.func 70) #[] #[]] w fun e w' => e = .returned (.bool false) ∧ w = w' := by
  have C := Lib.hid (index_none A l cap B w hn hA hf)
  clear hA hf
  unfold maxLen at hn
  go_enter Try.func69, Try.ntmps69
  go_wp2_with fail
  refine C.out.mono ?_; rintro e w' ⟨rfl, rfl⟩
  go_wp2_with fail
  go_ret
  exact ⟨rfl, rfl⟩
theorem contains_some (A : Option Addr) (l : List Int) (cap B : Nat) (w : World) (hn : l.length ≤ maxLen) (hA : Ints w .i64 B A l) (hf : ¬ CountsOk l) :
    Calls Try.prog 69 #[.slice A l.length cap, .func (.func 70) #[] #[]] w fun e w' => e = .returned (.bool true) ∧ w = w' := by
  have C := Lib.hid (index_some A l cap B w hn hA hf)
  clear hA hf
  unfold maxLen at hn
  go_enter Try.func69, Try.ntmps69
  go_wp2_with fail
  refine C.out.mono ?_; rintro e w' ⟨i, rfl, hi, rfl⟩
  unfold maxLen at hi
  have h0 : (0 : Int) ≤ i := by omega
  go_wp2_with fail
  go_ret
  exact ⟨rfl, rfl⟩
theorem ahead_calls (key : Int) (A : Option Addr) (l : List Int) (cap r : Nat) (w : World) (hl : l.length ≤ 4) (hcap : l.length ≤ cap) (hA : Ints w .i64 w.heap.size A l) (hc : CountsOk l) (hr : r ≤ l.length) (hr0 : 0 < l.length) :
    Calls Try.prog 71 #[.agg #[.int .i64 key, .slice A l.length cap], .int .i64 r] w fun e w' => e = .returned (.int .i64 (upTo l r)) ∧ Below w.heap.size w w' := by
  have HA := Lib.hid hA
  have HC := Lib.hid hc
  obtain ⟨b0, off0, rfl, hb0, _⟩ := hA 0 hr0
  clear hA hc
  go_enter Try.func71, Try.ntmps71
  go_wp2
  go_loopw [5, 13] (fun s i wr => ∃ k : Nat, k ≤ r ∧ i = .int .i64 k ∧ s = .int .i64 (upTo l k) ∧ Below w.heap.size w wr) (fun _ i _ => r - (intOf i).toNat)
  case atStart => exact ⟨0, Nat.zero_le _, rfl, by rw [upTo_zero], (Below.refl _ _).alloc (Nat.le_refl _) _⟩
  case round =>
    obtain ⟨k, hk, rfl, rfl, hbel⟩ := hrel
    have HB := Lib.hid hbel
    clear hbel
    by_cases hlt : k < r
    · obtain ⟨b, off, e1, hb, hc⟩ := (HA.out.below HB.out (Nat.le_refl _)) k (by omega)
      injection e1 with e1
      injection e1 with e1 e2 e3
      subst e1 e2
      have hlt' : (k : Int) < r := by omega
      have hk0 : (0 : Int) ≤ k := by omega
      have HS := Lib.hid (upTo_succ l (show k < l.length by omega))
      have hv := HC.out k (by omega)
      have hu := upTo_bd HC.out (show k ≤ l.length by omega)
      generalize l.getD k 0 = v at hc hv HS
      generalize upTo l k = s at HS hu
      obtain ⟨v0, v1⟩ := hv
      obtain ⟨u0, u1⟩ := hu
      go_wp2
      go_roundw
      case rel => exact ⟨k + 1, by omega, by go_num, by rw [HS.out], HB.out⟩
      case measure => simp [intOf]; omega
    · obtain rfl : k = r := by omega
      go_wp2
      go_ret
      exact ⟨rfl, HB.out⟩
theorem sectors_calls (key : Int) (A : Option Addr) (l : List Int) (cap : Nat) (w : World) (hl : l.length ≤ 4) (hcap : l.length ≤ cap) (hA : Ints w .i64 w.heap.size A l) (hc : CountsOk l) (hr0 : 0 < l.length) :
    Calls Try.prog 59 #[.agg #[.int .i64 key, .slice A l.length cap]] w fun e w' => e = .returned (.int .i64 (upTo l l.length)) ∧ Below w.heap.size w w' := by
  have HA := Lib.hid hA
  have C := Lib.hid (fun w hA => ahead_calls key A l cap l.length w hl hcap hA hc (Nat.le_refl _) hr0)
  clear hA hc
  go_enter Try.func59, Try.ntmps59
  go_wp2_with fail
  refine (C.out _ ((HA.out.below ((Below.refl _ _).alloc (Nat.le_refl _) _) (Nat.le_refl _)).more (by simp))).mono ?_; rintro e w1 ⟨rfl, b1⟩
  have B1 := Lib.hid (((Below.refl w.heap.size w).alloc (Nat.le_refl _) _).trans (b1.mono (by simp)))
  clear b1 C
  go_wp2_with fail
  go_ret
  exact ⟨rfl, B1.out⟩
theorem first_yes (key : Int) (A : Option Addr) (l : List Int) (cap r : Nat) (w : World) (hl : l.length ≤ 4) (hcap : l.length ≤ cap) (hA : Ints w .i64 w.heap.size A l) (hc : CountsOk l) (hr : r < l.length) :
    Calls Try.prog 84 #[.agg #[.int .i64 key, .slice A l.length cap], .int .i64 r] w fun e w' => e = .returned (.int .i64 (upTo l r)) ∧ Below w.heap.size w w' := by
  have HA := Lib.hid hA
  have C := Lib.hid (fun w hA => ahead_calls key A l cap r w hl hcap hA hc (by omega) (by omega))
  have h0 : ¬ (r : Int) < 0 := by omega
  have h1 : ¬ (l.length : Int) ≤ r := by omega
  clear hA hc
  go_enter Try.func84, Try.ntmps84
  go_wp2_with fail
  refine (C.out _ ((HA.out.below ((Below.refl _ _).alloc (Nat.le_refl _) _) (Nat.le_refl _)).more (by simp))).mono ?_; rintro e w1 ⟨rfl, b1⟩
  have B1 := Lib.hid (((Below.refl w.heap.size w).alloc (Nat.le_refl _) _).trans (b1.mono (by simp)))
  clear b1 C
  go_wp2_with fail
  go_ret
  exact ⟨rfl, B1.out⟩
theorem first_no (key r : Int) (A : Option Addr) (n cap : Nat) (w : World) (hr : r < 0 ∨ n ≤ r) (hn : n ≤ 4) :
    Calls Try.prog 84 #[.agg #[.int .i64 key, .slice A n cap], .int .i64 r] w fun e w' => e = .returned (.int .i64 (-1)) ∧ Below w.heap.size w w' := by
  by_cases h0 : r < 0
  · clear hr
    go_enter Try.func84, Try.ntmps84
    go_wp2_with fail
    go_ret
    exact ⟨rfl, (Below.refl _ _).alloc (Nat.le_refl _) _⟩
  · have h1 : (n : Int) ≤ r := by omega
    clear hr
    go_enter Try.func84, Try.ntmps84
    go_wp2_with fail
    go_ret
    exact ⟨rfl, (Below.refl _ _).alloc (Nat.le_refl _) _⟩
end Go.Proofs.Ytjbnknccnhdapaa.Mx

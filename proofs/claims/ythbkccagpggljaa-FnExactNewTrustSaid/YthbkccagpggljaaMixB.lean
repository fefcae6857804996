/- CONTRACTS OF impl.isKey, impl.anyNegative, impl.rolled[int64]: what each call answers; the world stays. -/
import Derived.Test.YthbkccagpggljaaMixA
import Derived.Test.YthbkccagpggljaaMem
import Derived.Lib.Hide
namespace Go.Proofs.Ythbkccagpggljaa.Mx
open Go.ChangeShapes Go.WideShapes Go.ChangeAt Go.RowKit
set_option linter.unusedVariables false

theorem isKey_yes (s : Int) (w : World) (h0 : 1 ≤ s) (h1 : s ≤ 1000000) :
    Calls Try.prog 46 #[.int .i64 s] w fun e w' => e = .returned (.bool true) ∧ w = w' := by
  go_enter Try.func46, Try.ntmps46
  go_wp2
  go_ret
  exact ⟨rfl, rfl⟩

theorem isKey_no (s : Int) (w : World) (h : s < 1 ∨ 1000000 < s) :
    Calls Try.prog 46 #[.int .i64 s] w fun e w' => e = .returned (.bool false) ∧ w = w' := by
  by_cases h0 : 1 ≤ s
  · have h2 : ¬ s ≤ 1000000 := by omega
    clear h
    go_enter Try.func46, Try.ntmps46
    go_wp2
    go_ret
    exact ⟨rfl, rfl⟩
  · clear h
    go_enter Try.func46, Try.ntmps46
    go_wp2
    go_ret
    exact ⟨rfl, rfl⟩

theorem anyNegative_no (A : Option Addr) (l : List Int) (cap B : Nat) (w : World) (hn : l.length ≤ maxLen) (hA : Ints w .i64 B A l) (hf : Fine l) :
    Calls Try.prog 71 #[.slice A l.length cap] w fun e w' => e = .returned (.bool false) ∧ w = w' := by
  unfold maxLen at hn
  go_enter Try.func71, Try.ntmps71
  go_wp2
  go_loop [7] (fun i => ∃ k : Nat, k ≤ l.length ∧ i = .int .i64 k) (fun i => l.length - (intOf i).toNat)
  case atStart => exact ⟨0, Nat.zero_le _, rfl⟩
  case round =>
    obtain ⟨k, hk, rfl⟩ := hrel
    by_cases hlt : k < l.length
    · obtain ⟨b, off, rfl, hb, hc⟩ := hA k hlt
      have hv0 := hf k hlt
      generalize l.getD k 0 = v at hc hv0
      clear hA hf
      go_wp2
      go_round
      case rel => exact ⟨k + 1, by omega, by go_num⟩
      case measure => simp [intOf]; omega
    · clear hA hf
      go_wp2
      go_ret
      exact ⟨rfl, rfl⟩

theorem anyNegative_yes (A : Option Addr) (l : List Int) (cap B : Nat) (w : World) (hn : l.length ≤ maxLen) (hA : Ints w .i64 B A l) (hf : ∃ i, i < l.length ∧ l.getD i 0 < 0) :
    Calls Try.prog 71 #[.slice A l.length cap] w fun e w' => e = .returned (.bool true) ∧ w = w' := by
  unfold maxLen at hn
  obtain ⟨j, hj, hjv⟩ := hf
  go_enter Try.func71, Try.ntmps71
  go_wp2
  go_loop [7] (fun i => ∃ k : Nat, k ≤ j ∧ i = .int .i64 k) (fun i => l.length - (intOf i).toNat)
  case atStart => exact ⟨0, Nat.zero_le _, rfl⟩
  case round =>
    obtain ⟨k, hk, rfl⟩ := hrel
    have hlt : k < l.length := by omega
    obtain ⟨b, off, rfl, hb, hc⟩ := hA k hlt
    clear hA
    by_cases hkj : k = j
    · subst hkj
      generalize l.getD k 0 = v at hc hjv
      go_wp2
      go_ret
      exact ⟨rfl, rfl⟩
    · have hkj' : k < j := by omega
      clear hkj hjv
      generalize l.getD k 0 = v at hc
      by_cases hv : v < 0
      · go_wp2
        go_ret
        exact ⟨rfl, rfl⟩
      · go_wp2
        go_round
        case rel => exact ⟨k + 1, by omega, by go_num⟩
        case measure => simp [intOf]; omega
end Go.Proofs.Ythbkccagpggljaa.Mx

/- CONTRACTS OF impl.isSum, impl.isKey, impl.AddOf, spec.l1In, spec.l1Key, spec.AddOf: what each call answers, at every argument; the world stays. -/
import Derived.Test.YthbkccagpggljaaRows
import Derived.WalkKit
import Derived.ProofKit
import Derived.OpenShut
import Derived.Below
import Derived.Deep.QuietTactic
import Derived.BigQuiet
namespace Go.Proofs.Ythbkccagpggljaa.Mx
open Go.ChangeShapes Go.WideShapes Go.ChangeAt Go.RowKit
set_option linter.unusedVariables false

/-- The sum of two sums, as the document's chapter 1 has it. -/
def addOf (a b : Int) : Int := if (0 ≤ a ∧ a ≤ 4611686018427387903) ∧ 0 ≤ b ∧ b ≤ 4611686018427387903 then (a + b) % 4611686018427387904 else -1

theorem isSum_yes (s : Int) (w : World) (h0 : 0 ≤ s) (h1 : s ≤ 4611686018427387903) :
    Calls Try.prog 61 #[.int .i64 s] w fun e w' => e = .returned (.bool true) ∧ w = w' := by
  have h2 : s < 4611686018427387904 := by omega
  go_enter Try.func61, Try.ntmps61
  go_wp2
  go_ret
  exact ⟨rfl, rfl⟩

theorem isSum_no (s : Int) (w : World) (h : s < 0 ∨ 4611686018427387903 < s) :
    Calls Try.prog 61 #[.int .i64 s] w fun e w' => e = .returned (.bool false) ∧ w = w' := by
  by_cases h0 : 0 ≤ s
  · have h2 : ¬ s < 4611686018427387904 := by omega
    clear h
    go_enter Try.func61, Try.ntmps61
    go_wp2
    go_ret
    exact ⟨rfl, rfl⟩
  · clear h
    go_enter Try.func61, Try.ntmps61
    go_wp2
    go_ret
    exact ⟨rfl, rfl⟩

theorem l1In_yes (s lo hi : Int) (w : World) (h0 : lo ≤ s) (h1 : s ≤ hi) :
    Calls Try.prog 27 #[.int .i64 s, .int .i64 lo, .int .i64 hi] w fun e w' => e = .returned (.bool true) ∧ w = w' := by
  go_enter Try.func27, Try.ntmps27
  go_wp2
  go_ret
  exact ⟨rfl, rfl⟩

theorem l1In_no (s lo hi : Int) (w : World) (h : s < lo ∨ hi < s) :
    Calls Try.prog 27 #[.int .i64 s, .int .i64 lo, .int .i64 hi] w fun e w' => e = .returned (.bool false) ∧ w = w' := by
  by_cases h0 : lo ≤ s
  · have h2 : ¬ s ≤ hi := by omega
    clear h
    go_enter Try.func27, Try.ntmps27
    go_wp2
    go_ret
    exact ⟨rfl, rfl⟩
  · clear h
    go_enter Try.func27, Try.ntmps27
    go_wp2
    go_ret
    exact ⟨rfl, rfl⟩

/-- impl.AddOf, at every argument. -/
theorem add_calls (a b : Int) (w : World) :
    Calls Try.prog 52 #[.int .i64 a, .int .i64 b] w fun e w' => e = .returned (.int .i64 (addOf a b)) ∧ w = w' := by
  by_cases ha : 0 ≤ a ∧ a ≤ 4611686018427387903
  · obtain ⟨ha0, ha1⟩ := ha
    by_cases hb : 0 ≤ b ∧ b ≤ 4611686018427387903
    · obtain ⟨hb0, hb1⟩ := hb
      have hf : addOf a b = (a + b) % 4611686018427387904 := by unfold addOf; rw [if_pos ⟨⟨ha0, ha1⟩, hb0, hb1⟩]
      rw [hf]; clear hf
      go_enter Try.func52, Try.ntmps52
      go_wp2_with (go_at_call 61; refine (isSum_yes _ _ (by omega) (by omega)).mono ?_; rintro e w' ⟨rfl, rfl⟩)
      go_ret
      exact ⟨rfl, rfl⟩
    · have hb' : b < 0 ∨ 4611686018427387903 < b := by omega
      have hf : addOf a b = -1 := by unfold addOf; rw [if_neg (by omega)]
      rw [hf]; clear hf hb
      go_enter Try.func52, Try.ntmps52
      go_wp2_with fail
      refine (isSum_yes _ _ ha0 ha1).mono ?_; rintro e w' ⟨rfl, rfl⟩
      go_wp2_with fail
      refine (isSum_no _ _ hb').mono ?_; rintro e w' ⟨rfl, rfl⟩
      go_wp2
      go_ret
      exact ⟨rfl, rfl⟩
  · have ha' : a < 0 ∨ 4611686018427387903 < a := by omega
    have hf : addOf a b = -1 := by unfold addOf; rw [if_neg (by omega)]
    rw [hf]; clear hf ha
    go_enter Try.func52, Try.ntmps52
    go_wp2_with (go_at_call 61; refine (isSum_no _ _ ha').mono ?_; rintro e w' ⟨rfl, rfl⟩)
    go_ret
    exact ⟨rfl, rfl⟩

/-- spec.AddOf, at every argument. -/
theorem specAdd_calls (a b : Int) (w : World) :
    Calls Try.prog 32 #[.int .i64 a, .int .i64 b] w fun e w' => e = .returned (.int .i64 (addOf a b)) ∧ w = w' := by
  by_cases ha : 0 ≤ a ∧ a ≤ 4611686018427387903
  · obtain ⟨ha0, ha1⟩ := ha
    by_cases hb : 0 ≤ b ∧ b ≤ 4611686018427387903
    · obtain ⟨hb0, hb1⟩ := hb
      have hf : addOf a b = (a + b) % 4611686018427387904 := by unfold addOf; rw [if_pos ⟨⟨ha0, ha1⟩, hb0, hb1⟩]
      rw [hf]; clear hf
      go_enter Try.func32, Try.ntmps32
      go_wp2_with (go_at_call 27; refine (l1In_yes _ _ _ _ (by omega) (by omega)).mono ?_; rintro e w' ⟨rfl, rfl⟩)
      go_ret
      exact ⟨rfl, rfl⟩
    · have hb' : b < 0 ∨ 4611686018427387903 < b := by omega
      have hf : addOf a b = -1 := by unfold addOf; rw [if_neg (by omega)]
      rw [hf]; clear hf hb
      go_enter Try.func32, Try.ntmps32
      go_wp2_with fail
      refine (l1In_yes _ _ _ _ ha0 ha1).mono ?_; rintro e w' ⟨rfl, rfl⟩
      go_wp2_with fail
      refine (l1In_no _ _ _ _ hb').mono ?_; rintro e w' ⟨rfl, rfl⟩
      go_wp2
      go_ret
      exact ⟨rfl, rfl⟩
  · have ha' : a < 0 ∨ 4611686018427387903 < a := by omega
    have hf : addOf a b = -1 := by unfold addOf; rw [if_neg (by omega)]
    rw [hf]; clear hf ha
    go_enter Try.func32, Try.ntmps32
    go_wp2_with (go_at_call 27; refine (l1In_no _ _ _ _ ha').mono ?_; rintro e w' ⟨rfl, rfl⟩)
    go_ret
    exact ⟨rfl, rfl⟩

end Go.Proofs.Ythbkccagpggljaa.Mx

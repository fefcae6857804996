/- THE WALK OF laws.FnMixed: it returns true at every code, and writes nothing that was there. -/
import Derived.Test.YtcipjmenhoeekaaMixL
import Derived.Test.YtcipjmenhoeekaaDrawC
import Derived.Test.YtcipjmenhoeekaaDrawD
import Derived.Test.YtcipjmenhoeekaaDice
import Derived.Test.YtcipjmenhoeekaaMixNum
namespace Go.Proofs.Ytcipjmenhoeekaa.Mx
open Go.ChangeShapes Go.WideShapes Go.ChangeAt Go.RowKit
set_option linter.unusedVariables false

theorem addOf_comm (a b : Int) : addOf b a = addOf a b := by
  unfold addOf
  by_cases h : (0 ≤ a ∧ a ≤ 4611686018427387903) ∧ 0 ≤ b ∧ b ≤ 4611686018427387903
  · rw [if_pos h, if_pos ⟨h.2, h.1⟩, Int.add_comm]
  · rw [if_neg h, if_neg (fun h' => h ⟨h'.2, h'.1⟩)]
theorem big_no (A : Option Addr) (n cap : Nat) (w : World) (h : n ≤ 4096) :
    Calls Try.prog 8 #[.slice A n cap] w fun e w' => e = .returned (.bool false) ∧ w = w' := by
  have h' : ¬ (4096 : Int) < n := by omega
  go_enter Try.func8, Try.ntmps8
  go_wp2
  go_ret
  exact ⟨by simp, rfl⟩
theorem big_yes (A : Option Addr) (n cap : Nat) (w : World) (h : 4096 < n) :
    Calls Try.prog 8 #[.slice A n cap] w fun e w' => e = .returned (.bool true) ∧ w = w' := by
  have h' : (4096 : Int) < n := by omega
  go_enter Try.func8, Try.ntmps8
  go_wp2
  go_ret
  exact ⟨by simp, rfl⟩

/-- A list of two, of one, laid by the call itself. -/
theorem i64s_two {x y : Int} (a : -9223372036854775808 ≤ x ∧ x ≤ 9223372036854775807) (b : -9223372036854775808 ≤ y ∧ y ≤ 9223372036854775807) : I64s [x, y] := I64s.cons a.1 a.2 (I64s.cons b.1 b.2 I64s.nil)
theorem i64s_one {x : Int} (a : -9223372036854775808 ≤ x ∧ x ≤ 9223372036854775807) : I64s [x] := I64s.cons a.1 a.2 I64s.nil
end Go.Proofs.Ytcipjmenhoeekaa.Mx

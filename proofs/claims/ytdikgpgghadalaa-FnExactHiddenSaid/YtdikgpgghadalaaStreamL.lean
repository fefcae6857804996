/- THE WALKS OF laws.FnExactStreamOf, FnExactHidden, FnExactShown: each returns true at every argument, and writes nothing that was there. -/
import Derived.Test.YtdikgpgghadalaaStreamC
namespace Go.Proofs.Ytdikgpgghadalaa.Mx
open Go.ChangeShapes Go.WideShapes Go.ChangeAt Go.RowKit
set_option linter.unusedVariables false

theorem streamLaw_calls (key at_ time : Int) (w : World) (ha : I64 at_) (ht : I64 time) :
    Calls Try.prog 7 #[.int .i64 key, .int .i64 at_, .int .i64 time] w fun e w' => e = .returned (.bool true) ∧ Below w.heap.size w w' := by
  have C := Lib.hid (fun w => stream_calls key at_ time w ha ht)
  have D := Lib.hid (fun w => specStream_calls key at_ time w ha ht)
  generalize streamOf key at_ time = s at C D
  clear ha ht
  go_enter Try.func7, Try.ntmps7
  go_wp2_with fail
  refine (D.out _).mono ?_; rintro e w1 ⟨rfl, b1⟩
  have B1 := Lib.hid b1
  clear b1
  go_wp2_with fail
  refine (C.out _).mono ?_; rintro e w2 ⟨rfl, b2⟩
  have B2 := Lib.hid (B1.out.trans (b2.mono B1.out.size))
  clear b2 B1
  go_wp2_with fail
  go_ret
  exact ⟨rfl, B2.out⟩

theorem hiddenLaw_calls (key at_ time v : Int) (w : World) (ha : I64 at_) (ht : I64 time) :
    Calls Try.prog 8 #[.int .i64 key, .int .i64 at_, .int .i64 time, .int .i64 v] w fun e w' => e = .returned (.bool true) ∧ Below w.heap.size w w' := by
  have C := Lib.hid (fun w => hidden_calls key at_ time v w ha ht)
  have D := Lib.hid (fun w => specHidden_calls key at_ time v w ha ht)
  generalize hiddenOf key at_ time v = s at C D
  clear ha ht
  go_enter Try.func8, Try.ntmps8
  go_wp2_with fail
  refine (D.out _).mono ?_; rintro e w1 ⟨rfl, b1⟩
  have B1 := Lib.hid b1
  clear b1
  go_wp2_with fail
  refine (C.out _).mono ?_; rintro e w2 ⟨rfl, b2⟩
  have B2 := Lib.hid (B1.out.trans (b2.mono B1.out.size))
  clear b2 B1
  go_wp2_with fail
  go_ret
  exact ⟨rfl, B2.out⟩

theorem shownLaw_calls (key at_ time v : Int) (w : World) (ha : I64 at_) (ht : I64 time) :
    Calls Try.prog 9 #[.int .i64 key, .int .i64 at_, .int .i64 time, .int .i64 v] w fun e w' => e = .returned (.bool true) ∧ Below w.heap.size w w' := by
  have C := Lib.hid (fun w => shown_calls key at_ time v w ha ht)
  have D := Lib.hid (fun w => specShown_calls key at_ time v w ha ht)
  generalize shownOf key at_ time v = s at C D
  clear ha ht
  go_enter Try.func9, Try.ntmps9
  go_wp2_with fail
  refine (D.out _).mono ?_; rintro e w1 ⟨rfl, b1⟩
  have B1 := Lib.hid b1
  clear b1
  go_wp2_with fail
  refine (C.out _).mono ?_; rintro e w2 ⟨rfl, b2⟩
  have B2 := Lib.hid (B1.out.trans (b2.mono B1.out.size))
  clear b2 B1
  go_wp2_with fail
  go_ret
  exact ⟨rfl, B2.out⟩
end Go.Proofs.Ytdikgpgghadalaa.Mx

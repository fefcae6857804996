/- CONTRACTS OF impl.Hidden, impl.Shown, spec.Hidden, spec.Shown: what each call answers, at every argument; nothing that was there is written. -/
import Derived.Test.YthbkccagpggljaaStreamB
namespace Go.Proofs.Ythbkccagpggljaa.Mx
open Go.ChangeShapes Go.WideShapes Go.ChangeAt Go.RowKit
set_option linter.unusedVariables false

open Classical in
/-- A value, turned by so much on a stream. -/
noncomputable def turnOf (s by_ v : Int) : Int := if 0 ≤ s ∧ isVal v then (v + by_) % 10007 else -1
theorem turnOf_yes {s by_ v : Int} (h : 0 ≤ s) (hv : isVal v) : turnOf s by_ v = (v + by_) % 10007 := by unfold turnOf; rw [if_pos ⟨h, hv⟩]
theorem turnOf_neg {s by_ v : Int} (h : s < 0) : turnOf s by_ v = -1 := by unfold turnOf; rw [if_neg (by omega)]
theorem turnOf_no {s by_ v : Int} (hv : ¬ isVal v) : turnOf s by_ v = -1 := by unfold turnOf; rw [if_neg (fun h => hv h.2)]
theorem turnOf_bd (s by_ v : Int) : -1 ≤ turnOf s by_ v ∧ turnOf s by_ v ≤ 10006 := by
  unfold turnOf
  split <;> omega

/-- What chapter 2 asks of Hidden and of Shown. -/
noncomputable def hiddenOf (key at_ time v : Int) : Int := turnOf (streamOf key at_ time) (streamOf key at_ time) v
noncomputable def shownOf (key at_ time v : Int) : Int := turnOf (streamOf key at_ time) (10007 - streamOf key at_ time) v

/-- WHAT IS HIDDEN IS SHOWN. -/
theorem shown_hidden {key at_ time v : Int} (h : ¬ hiddenOf key at_ time v < 0) : shownOf key at_ time (hiddenOf key at_ time v) = v := by
  have hs := streamOf_bd key at_ time
  unfold hiddenOf shownOf at *
  generalize streamOf key at_ time = s at *
  by_cases h0 : 0 ≤ s
  · by_cases hv : isVal v
    · rw [turnOf_yes h0 hv] at h ⊢
      unfold isVal at hv
      rw [turnOf_yes h0 (by unfold isVal; omega)]
      omega
    · rw [turnOf_no hv] at h; omega
  · rw [turnOf_neg (by omega)] at h; omega
theorem hidden_nat {key at_ time v : Int} (k0 : 1 ≤ key) (k1 : key ≤ 1000000) (ha : 0 ≤ at_) (ht : 0 ≤ time) (hv : isVal v) : ¬ hiddenOf key at_ time v < 0 := by
  have := streamOf_nat k0 k1 ha ht
  unfold hiddenOf
  rw [turnOf_yes this hv]
  unfold isVal at hv
  omega

theorem turn_calls (s by_ v : Int) (p q : Nat) (w : World) (hp : w.cell? ⟨p, 0, none⟩ = some (.int .i64 s)) (hq : w.cell? ⟨q, 0, none⟩ = some (.int .i64 by_)) (b0 : -1 ≤ by_) (b1 : by_ ≤ 10008) (b2 : 0 ≤ s → 0 ≤ by_) :
    Calls Try.prog 67 #[.int .i64 v, .pointer (some ⟨p, 0, none⟩), .pointer (some ⟨q, 0, none⟩)] w fun e w' => e = .returned (.int .i64 (turnOf s by_ v)) ∧ w = w' := by
  by_cases hs : s < 0
  · rw [turnOf_neg hs]
    go_enter Try.func67, Try.ntmps67
    go_wp2_with fail
    go_ret
    exact ⟨rfl, rfl⟩
  · by_cases hv : isVal v
    · rw [turnOf_yes (by omega) hv]
      have C := Lib.hid (fun w => isValue_yes v w hv)
      obtain ⟨v0, v1⟩ := hv
      have b3 := b2 (by omega)
      go_enter Try.func67, Try.ntmps67
      go_wp2_with fail
      refine (C.out _).mono ?_; rintro e w' ⟨rfl, rfl⟩
      go_wp2_with fail
      go_ret
      exact ⟨rfl, rfl⟩
    · rw [turnOf_no hv]
      have C := Lib.hid (fun w => isValue_no v w hv)
      clear hv
      go_enter Try.func67, Try.ntmps67
      go_wp2_with fail
      refine (C.out _).mono ?_; rintro e w' ⟨rfl, rfl⟩
      go_wp2_with fail
      go_ret
      exact ⟨rfl, rfl⟩

theorem hidden_calls (key at_ time v : Int) (w : World) (ha : I64 at_) (ht : I64 time) :
    Calls Try.prog 51 #[.int .i64 key, .int .i64 at_, .int .i64 time, .int .i64 v] w fun e w' => e = .returned (.int .i64 (hiddenOf key at_ time v)) ∧ Below w.heap.size w w' := by
  have C := Lib.hid (fun w => stream_calls key at_ time w ha ht)
  have S := streamOf_bd key at_ time
  unfold hiddenOf
  clear ha ht
  generalize streamOf key at_ time = s at C S
  obtain ⟨s0, s1⟩ := S
  go_enter Try.func51, Try.ntmps51
  go_wp2_with fail
  refine (C.out _).mono ?_; rintro e w1 ⟨rfl, b1⟩
  have B1 := Lib.hid b1
  clear b1
  go_wp2_with fail
  refine (veil_calls s w1 s0 s1).mono ?_; rintro e w2 ⟨p, U, V, rfl, hU, hV, b2⟩
  have B2 := Lib.hid (B1.out.trans (b2.mono B1.out.size))
  obtain ⟨q, rfl, cp, cq⟩ := hU
  have T := Lib.hid (turn_calls s _ v p q w2 cp cq (by omega) (by omega) (by omega))
  clear b2 cp cq hV
  go_wp2_with fail
  refine T.out.mono ?_; rintro e w' ⟨rfl, rfl⟩
  go_wp2_with fail
  go_ret
  exact ⟨rfl, B2.out⟩

theorem specHidden_calls (key at_ time v : Int) (w : World) (ha : I64 at_) (ht : I64 time) :
    Calls Try.prog 31 #[.int .i64 key, .int .i64 at_, .int .i64 time, .int .i64 v] w fun e w' => e = .returned (.int .i64 (hiddenOf key at_ time v)) ∧ Below w.heap.size w w' := by
  have C := Lib.hid (fun w => specStream_calls key at_ time w ha ht)
  have S := streamOf_bd key at_ time
  unfold hiddenOf
  clear ha ht
  generalize streamOf key at_ time = s at C S
  obtain ⟨s0, s1⟩ := S
  by_cases hs : s < 0
  · rw [turnOf_neg hs]
    go_enter Try.func31, Try.ntmps31
    go_wp2_with fail
    refine (C.out _).mono ?_; rintro e w1 ⟨rfl, b1⟩
    have B1 := Lib.hid b1
    clear b1
    go_wp2_with fail
    go_ret
    exact ⟨rfl, B1.out⟩
  · by_cases hv : isVal v
    · rw [turnOf_yes (by omega) hv]
      have D := Lib.hid (fun w => l2Value_yes v w hv)
      obtain ⟨v0, v1⟩ := hv
      go_enter Try.func31, Try.ntmps31
      go_wp2_with fail
      refine (C.out _).mono ?_; rintro e w1 ⟨rfl, b1⟩
      have B1 := Lib.hid b1
      clear b1
      go_wp2_with fail
      refine (D.out _).mono ?_; rintro e w' ⟨rfl, rfl⟩
      go_wp2_with fail
      go_ret
      exact ⟨rfl, B1.out⟩
    · rw [turnOf_no hv]
      have D := Lib.hid (fun w => l2Value_no v w hv)
      clear hv
      go_enter Try.func31, Try.ntmps31
      go_wp2_with fail
      refine (C.out _).mono ?_; rintro e w1 ⟨rfl, b1⟩
      have B1 := Lib.hid b1
      clear b1
      go_wp2_with fail
      refine (D.out _).mono ?_; rintro e w' ⟨rfl, rfl⟩
      go_wp2_with fail
      go_ret
      exact ⟨rfl, B1.out⟩

end Go.Proofs.Ythbkccagpggljaa.Mx

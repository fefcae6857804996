/- CONTRACTS OF spec.l5Sum, PlanOk, SectorsOf, FirstOf, RegionOf: what each call answers, at every plan; nothing that was there is written. -/
import Derived.Test.YthbkccagpggljaaPlanB
import Derived.Test.YthbkccagpggljaaMixL
import Derived.Deep.RegionHeld3
namespace Go.Proofs.Ythbkccagpggljaa.Mx
open Go.ChangeShapes Go.WideShapes Go.ChangeAt Go.RowKit
set_option linter.unusedVariables false

theorem l5Sum_calls (A : Option Addr) (l : List Int) (cap B : Nat) (w : World) (hl : l.length ≤ 4) (hA : Ints w .i64 B A l) (hc : CountsOk l) :
    Calls Try.prog 28 #[.slice A l.length cap] w fun e w' => e = .returned (.int .i64 (upTo l l.length)) ∧ w = w' := by
  go_enter Try.func28, Try.ntmps28
  go_wp2
  go_loop [3, 4] (fun s i => ∃ k : Nat, k ≤ l.length ∧ i = .int .i64 k ∧ s = .int .i64 (upTo l k)) (fun _ i => l.length - (intOf i).toNat)
  case atStart => exact ⟨0, Nat.zero_le _, rfl, by rw [upTo_zero]⟩
  case round =>
    obtain ⟨k, hk, rfl, rfl⟩ := hrel
    by_cases hlt : k < l.length
    · obtain ⟨b, off, rfl, hb, hv⟩ := hA k hlt
      have hlt' : (k : Int) < l.length := by omega
      have hk0 : (0 : Int) ≤ k := by omega
      have HS := Lib.hid (upTo_succ l hlt)
      have hu := upTo_bd hc hk
      have hb := hc k hlt
      clear hA hc
      generalize l.getD k 0 = v at hv hb HS
      generalize upTo l k = s at HS hu
      obtain ⟨v0, v1⟩ := hb
      obtain ⟨u0, u1⟩ := hu
      go_wp2
      go_round
      case rel => exact ⟨k + 1, by omega, by go_num, by rw [HS.out]⟩
      case measure => simp [intOf]; omega
    · obtain rfl : k = l.length := by omega
      clear hA hc
      go_wp2
      go_ret
      exact ⟨rfl, rfl⟩

/-- spec.PlanOk, of counts that are each right. -/
theorem specPlanOk_counts (key : Int) (A : Option Addr) (l : List Int) (cap : Nat) (w : World) (hk : 1 ≤ key ∧ key ≤ 1000000) (h1 : 1 ≤ l.length) (h4 : l.length ≤ 4) (hA : Ints w .i64 w.heap.size A l) (hc : CountsOk l) :
    Calls Try.prog 26 #[.agg #[.int .i64 key, .slice A l.length cap]] w fun e w' => e = .returned (.bool (okB key l)) ∧ Below w.heap.size w w' := by
  have g1 : ¬ (l.length : Int) < 1 := by omega
  have g4 : ¬ (4 : Int) < l.length := by omega
  have C := Lib.hid (fun w => l1Key_yes key w hk.1 hk.2)
  have hA' := hA.boxed (.cells #[.int .i64 key, .slice A l.length cap] 31)
  have HA := Lib.hid hA'
  have HC := Lib.hid hc
  have D := Lib.hid (fun B w hA => l5Sum_calls A l cap B w h4 hA hc)
  have hB : okB key l = decide (upTo l l.length ≤ 24) := by
    by_cases h : upTo l l.length ≤ 24
    · rw [okB_yes ⟨hk, ⟨h1, h4⟩, hc, h⟩, decide_eq_true h]
    · rw [okB_no (fun h' => h h'.2.2.2), decide_eq_false h]
  rw [hB]
  clear hA hA' hc hk hB
  generalize upTo l l.length = s at D
  go_enter Try.func26, Try.ntmps26
  go_wp2_with fail
  refine (C.out _).mono ?_; rintro e w' ⟨rfl, rfl⟩
  go_wp2_with fail
  go_loop [3] (fun i => ∃ k : Nat, k ≤ l.length ∧ i = .int .i64 k) (fun i => l.length - (intOf i).toNat)
  case atStart => exact ⟨0, Nat.zero_le _, rfl⟩
  case round =>
    obtain ⟨k, hk, rfl⟩ := hrel
    by_cases hlt : k < l.length
    · obtain ⟨b, off, rfl, hb, hv⟩ := HA.out k hlt
      have hb := HC.out k hlt
      have hlt' : (k : Int) < l.length := by omega
      have hk0 : (0 : Int) ≤ k := by omega
      generalize l.getD k 0 = v at hv hb
      have E := Lib.hid (fun w => l1In_yes v 1 8 w hb.1 hb.2)
      go_wp2_with fail
      refine (E.out _).mono ?_; rintro e w' ⟨rfl, rfl⟩
      go_wp2_with fail
      go_round
      case rel => exact ⟨k + 1, by omega, by go_num⟩
      case measure => simp [intOf]; omega
    · obtain rfl : k = l.length := by omega
      go_wp2_with fail
      refine (D.out _ _ HA.out).mono ?_; rintro e w' ⟨rfl, rfl⟩
      go_wp2_with fail
      go_ret
      exact ⟨rfl, box_below w _⟩
/-- spec.PlanOk, of counts of which one is not right. -/
theorem specPlanOk_not (key : Int) (A : Option Addr) (l : List Int) (cap : Nat) (w : World) (hk : 1 ≤ key ∧ key ≤ 1000000) (h1 : 1 ≤ l.length) (h4 : l.length ≤ 4) (hA : Ints w .i64 w.heap.size A l) (hc : ¬ CountsOk l) :
    Calls Try.prog 26 #[.agg #[.int .i64 key, .slice A l.length cap]] w fun e w' => e = .returned (.bool (okB key l)) ∧ Below w.heap.size w w' := by
  rw [okB_no (fun h' => hc h'.2.2.1)]
  have g1 : ¬ (l.length : Int) < 1 := by omega
  have g4 : ¬ (4 : Int) < l.length := by omega
  have C := Lib.hid (fun w => l1Key_yes key w hk.1 hk.2)
  have hA' := hA.boxed (.cells #[.int .i64 key, .slice A l.length cap] 31)
  have HA := Lib.hid hA'
  obtain ⟨j, hj, hjv⟩ := not_counts hc
  have HJ := Lib.hid hjv
  clear hA hA' hc hk hjv
  go_enter Try.func26, Try.ntmps26
  go_wp2_with fail
  refine (C.out _).mono ?_; rintro e w' ⟨rfl, rfl⟩
  go_wp2_with fail
  go_loop [3] (fun i => ∃ k : Nat, k ≤ j ∧ i = .int .i64 k) (fun i => l.length - (intOf i).toNat)
  case atStart => exact ⟨0, Nat.zero_le _, rfl⟩
  case round =>
    obtain ⟨k, hk, rfl⟩ := hrel
    have hlt : k < l.length := by omega
    obtain ⟨b, off, rfl, hb, hv⟩ := HA.out k hlt
    have hlt' : (k : Int) < l.length := by omega
    have hk0 : (0 : Int) ≤ k := by omega
    by_cases hbad : l.getD k 0 < 1 ∨ 8 < l.getD k 0
    · have E := Lib.hid (fun w => l1In_no (l.getD k 0) 1 8 w hbad)
      clear hbad HJ
      generalize l.getD k 0 = v at hv E
      go_wp2_with fail
      refine (E.out _).mono ?_; rintro e w' ⟨rfl, rfl⟩
      go_wp2_with fail
      go_ret
      exact ⟨rfl, box_below w _⟩
    · have hkj : k < j := by
        rcases Nat.lt_or_ge k j with h | h
        · exact h
        · obtain rfl : k = j := by omega
          exact absurd HJ.out hbad
      have E := Lib.hid (fun w => l1In_yes (l.getD k 0) 1 8 w (by omega) (by omega))
      clear hbad HJ
      generalize l.getD k 0 = v at hv E
      go_wp2_with fail
      refine (E.out _).mono ?_; rintro e w' ⟨rfl, rfl⟩
      go_wp2_with fail
      go_round
      case rel => exact ⟨k + 1, by omega, by go_num⟩
      case measure => simp [intOf]; omega

/-- spec.PlanOk, at every plan. -/
theorem specPlanOk_calls (key : Int) (A : Option Addr) (l : List Int) (cap : Nat) (w : World) (hn : l.length ≤ maxLen) (hA : Ints w .i64 w.heap.size A l) :
    Calls Try.prog 26 #[.agg #[.int .i64 key, .slice A l.length cap]] w fun e w' => e = .returned (.bool (okB key l)) ∧ Below w.heap.size w w' := by
  have hm := hn
  unfold maxLen at hm
  by_cases hk : 1 ≤ key ∧ key ≤ 1000000
  · have C := Lib.hid (fun w => l1Key_yes key w hk.1 hk.2)
    by_cases h1 : 1 ≤ l.length
    · by_cases h4 : l.length ≤ 4
      · by_cases hc : CountsOk l
        · exact specPlanOk_counts key A l cap w hk h1 h4 hA hc
        · exact specPlanOk_not key A l cap w hk h1 h4 hA hc
      · have g1 : ¬ (l.length : Int) < 1 := by omega
        have g4 : (4 : Int) < l.length := by omega
        rw [okB_no (fun h' => h4 h'.2.1.2)]
        clear hA hk hn
        go_enter Try.func26, Try.ntmps26
        go_wp2_with fail
        refine (C.out _).mono ?_; rintro e w' ⟨rfl, rfl⟩
        go_wp2_with fail
        go_ret
        exact ⟨rfl, box_below w _⟩
    · have g1 : (l.length : Int) < 1 := by omega
      rw [okB_no (fun h' => h1 h'.2.1.1)]
      clear hA hk hn
      go_enter Try.func26, Try.ntmps26
      go_wp2_with fail
      refine (C.out _).mono ?_; rintro e w' ⟨rfl, rfl⟩
      go_wp2_with fail
      go_ret
      exact ⟨rfl, box_below w _⟩
  · have C := Lib.hid (fun w => l1Key_no key w (by omega))
    rw [okB_no (fun h' => hk h'.1)]
    clear hA hk hn
    go_enter Try.func26, Try.ntmps26
    go_wp2_with fail
    refine (C.out _).mono ?_; rintro e w' ⟨rfl, rfl⟩
    go_wp2_with fail
    go_ret
    exact ⟨rfl, box_below w _⟩

end Go.Proofs.Ythbkccagpggljaa.Mx

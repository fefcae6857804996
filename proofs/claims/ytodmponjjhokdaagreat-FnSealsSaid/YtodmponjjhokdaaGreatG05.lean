import Derived.Test.YtodmponjjhokdaaGreatG04
import Derived.Deep.RegionHeld3
namespace Go.Proofs.YtodmponjjhokdaaGreat.Mx
open Go.ChangeShapes Go.WideShapes Go.ChangeAt Go.RowKit
set_option linter.unusedVariables false
theorem l5Sum_calls (A : Option Addr) (l : List Int) (cap B : Nat) (w : World) (hl : l.length ≤ 4) (hA : Ints w .i64 B A l) (hc : CountsOk l) :
    Calls Tryz.prog 48 #[.slice A l.length cap] w fun e w' => e = .returned (.int .i64 (upTo l l.length)) ∧ w = w' := by
 go_enter Tryz.func48, Tryz.ntmps48
 go_wp2
 go_loop [3, 4] (fun s i => ∃ k : Nat, k ≤ l.length ∧ i = .int .i64 k ∧ s = .int .i64 (upTo l k)) (fun _ i => l.length - (intOf i).toNat)
 case atStart => exact ⟨0, Nat.zero_le _, rfl, by rw [upTo_zero]⟩
 case round =>
  obtain ⟨k, hk, rfl, rfl⟩ := hrel
  by_cases hlt : k < l.length
  ·obtain ⟨b, off, rfl, hb, hv⟩ := hA k hlt
   have hlt' : (k : Int) < l.length := by omega
   have hk0 : (0 : Int) ≤ k := by omega
   have HS := Lib.hid (upTo_succ l hlt)
   have hu := upTo_bd hc hk
   have hb := hc k hlt
   clear hA hc
   generalize l.getD k 0 = v at hv hb HS
   generalize upTo l k = s at HS hu
   obtain ⟨v0, v1⟩ := hb
   obtain ⟨u0, u1⟩ := hu
   go_wp2
   go_round
   case rel => exact ⟨k + 1, by omega, by go_num, by rw [HS.out]⟩
   case measure => simp [intOf]; omega
  ·obtain rfl : k = l.length := by omega
   clear hA hc
   go_wp2
   go_ret
   exact ⟨rfl, rfl⟩
theorem specPlanOk_counts (key : Int) (A : Option Addr) (l : List Int) (cap : Nat) (w : World) (hk : 1 ≤ key ∧ key ≤ 1000000) (h1 : 1 ≤ l.length) (h4 : l.length ≤ 4) (hA : Ints w .i64 w.heap.size A l) (hc : CountsOk l) :
    Calls Tryz.prog 29 #[.agg #[.int .i64 key, .slice A l.length cap]] w fun e w' => e = .returned (.bool (okB key l)) ∧ Below w.heap.size w w' := by
 have g1 : ¬ (l.length : Int) < 1 := by omega
 have g4 : ¬ (4 : Int) < l.length := by omega
 have C := Lib.hid (fun w => l1Key_yes key w hk.1 hk.2)
 have hA' := hA.boxed (.cells #[.int .i64 key, .slice A l.length cap] 26)
 have HA := Lib.hid hA'
 have HC := Lib.hid hc
 have D := Lib.hid (fun B w hA => l5Sum_calls A l cap B w h4 hA hc)
 have hB : okB key l = decide (upTo l l.length ≤ 24) := by
  by_cases h : upTo l l.length ≤ 24
  ·rw [okB_yes ⟨hk, ⟨h1, h4⟩, hc, h⟩, decide_eq_true h]
  ·rw [okB_no (fun h' => h h'.2.2.2), decide_eq_false h]
 rw [hB]
 clear hA hA' hc hk hB
 generalize upTo l l.length = s at D
 go_enter Tryz.func29, Tryz.ntmps29
 go_wp2_with fail
 refine (C.out _).mono ?_; rintro e w' ⟨rfl, rfl⟩
 go_wp2_with fail
 go_loop [3] (fun i => ∃ k : Nat, k ≤ l.length ∧ i = .int .i64 k) (fun i => l.length - (intOf i).toNat)
 case atStart => exact ⟨0, Nat.zero_le _, rfl⟩
 case round =>
  obtain ⟨k, hk, rfl⟩ := hrel
  by_cases hlt : k < l.length
  ·obtain ⟨b, off, rfl, hb, hv⟩ := HA.out k hlt
   have hb := HC.out k hlt
   have hlt' : (k : Int) < l.length := by omega
   have hk0 : (0 : Int) ≤ k := by omega
   generalize l.getD k 0 = v at hv hb
   have E := Lib.hid (fun w => l1In_yes v 1 8 w hb.1 hb.2)
   go_wp2_with fail
   refine (E.out _).mono ?_; rintro e w' ⟨rfl, rfl⟩
   go_wp2_with fail
   go_round
   case rel => exact ⟨k + 1, by omega, by go_num⟩
   case measure => simp [intOf]; omega
  ·obtain rfl : k = l.length := by omega
   go_wp2_with fail
   refine (D.out _ _ HA.out).mono ?_; rintro e w' ⟨rfl, rfl⟩
   go_wp2_with fail
   go_ret
   exact ⟨rfl, box_below w _⟩
theorem specPlanOk_not (key : Int) (A : Option Addr) (l : List Int) (cap : Nat) (w : World) (hk : 1 ≤ key ∧ key ≤ 1000000) (h1 : 1 ≤ l.length) (h4 : l.length ≤ 4) (hA : Ints w .i64 w.heap.size A l) (hc : ¬ CountsOk l) :
    Calls Tryz.prog 29 #[.agg #[.int .i64 key, .slice A l.length cap]] w fun e w' => e = .returned (.bool (okB key l)) ∧ Below w.heap.size w w' := by
 rw [okB_no (fun h' => hc h'.2.2.1)]
 have g1 : ¬ (l.length : Int) < 1 := by omega
 have g4 : ¬ (4 : Int) < l.length := by omega
 have C := Lib.hid (fun w => l1Key_yes key w hk.1 hk.2)
 have hA' := hA.boxed (.cells #[.int .i64 key, .slice A l.length cap] 26)
 have HA := Lib.hid hA'
 obtain ⟨j, hj, hjv⟩ := not_counts hc
 have HJ := Lib.hid hjv
 clear hA hA' hc hk hjv
 go_enter Tryz.func29, Tryz.ntmps29
 go_wp2_with fail
 refine (C.out _).mono ?_; rintro e w' ⟨rfl, rfl⟩
 go_wp2_with fail
 go_loop [3] (fun i => ∃ k : Nat, k ≤ j ∧ i = .int .i64 k) (fun i => l.length - (intOf i).toNat)
 case atStart => exact ⟨0, Nat.zero_le _, rfl⟩
 case round =>
  obtain ⟨k, hk, rfl⟩ := hrel
  have hlt : k < l.length := by omega
  obtain ⟨b, off, rfl, hb, hv⟩ := HA.out k hlt
  have hlt' : (k : Int) < l.length := by omega
  have hk0 : (0 : Int) ≤ k := by omega
  by_cases hbad : l.getD k 0 < 1 ∨ 8 < l.getD k 0
  ·have E := Lib.hid (fun w => l1In_no (l.getD k 0) 1 8 w hbad)
   clear hbad HJ
   generalize l.getD k 0 = v at hv E
   go_wp2_with fail
   refine (E.out _).mono ?_; rintro e w' ⟨rfl, rfl⟩
   go_wp2_with fail
   go_ret
   exact ⟨rfl, box_below w _⟩
  ·have hkj : k < j := by
     rcases Nat.lt_or_ge k j with h | h
     ·exact h
     ·obtain rfl : k = j := by omega
      exact absurd HJ.out hbad
   have E := Lib.hid (fun w => l1In_yes (l.getD k 0) 1 8 w (by omega) (by omega))
   clear hbad HJ
   generalize l.getD k 0 = v at hv E
   go_wp2_with fail
   refine (E.out _).mono ?_; rintro e w' ⟨rfl, rfl⟩
   go_wp2_with fail
   go_round
   case rel => exact ⟨k + 1, by omega, by go_num⟩
   case measure => simp [intOf]; omega
theorem specPlanOk_calls (key : Int) (A : Option Addr) (l : List Int) (cap : Nat) (w : World) (hn : l.length ≤ maxLen) (hA : Ints w .i64 w.heap.size A l) :
    Calls Tryz.prog 29 #[.agg #[.int .i64 key, .slice A l.length cap]] w fun e w' => e = .returned (.bool (okB key l)) ∧ Below w.heap.size w w' := by
 have hm := hn
 unfold maxLen at hm
 by_cases hk : 1 ≤ key ∧ key ≤ 1000000
 ·have C := Lib.hid (fun w => l1Key_yes key w hk.1 hk.2)
  by_cases h1 : 1 ≤ l.length
  ·by_cases h4 : l.length ≤ 4
   ·by_cases hc : CountsOk l
    ·exact specPlanOk_counts key A l cap w hk h1 h4 hA hc
    ·exact specPlanOk_not key A l cap w hk h1 h4 hA hc
   ·have g1 : ¬ (l.length : Int) < 1 := by omega
    have g4 : (4 : Int) < l.length := by omega
    rw [okB_no (fun h' => h4 h'.2.1.2)]
    clear hA hk hn
    go_enter Tryz.func29, Tryz.ntmps29
    go_wp2_with fail
    refine (C.out _).mono ?_; rintro e w' ⟨rfl, rfl⟩
    go_wp2_with fail
    go_ret
    exact ⟨rfl, box_below w _⟩
  ·have g1 : (l.length : Int) < 1 := by omega
   rw [okB_no (fun h' => h1 h'.2.1.1)]
   clear hA hk hn
   go_enter Tryz.func29, Tryz.ntmps29
   go_wp2_with fail
   refine (C.out _).mono ?_; rintro e w' ⟨rfl, rfl⟩
   go_wp2_with fail
   go_ret
   exact ⟨rfl, box_below w _⟩
 ·have C := Lib.hid (fun w => l1Key_no key w (by omega))
  rw [okB_no (fun h' => hk h'.1)]
  clear hA hk hn
  go_enter Tryz.func29, Tryz.ntmps29
  go_wp2_with fail
  refine (C.out _).mono ?_; rintro e w' ⟨rfl, rfl⟩
  go_wp2_with fail
  go_ret
  exact ⟨rfl, box_below w _⟩
theorem specSectors_calls (key : Int) (A : Option Addr) (l : List Int) (cap : Nat) (w : World) (hn : l.length ≤ maxLen) (hA : Ints w .i64 w.heap.size A l) :
    Calls Tryz.prog 109 #[.agg #[.int .i64 key, .slice A l.length cap]] w fun e w' => e = .returned (.int .i64 (sectorsOf key l)) ∧ Below w.heap.size w w' := by
 have C := Lib.hid (fun w hA => specPlanOk_calls key A l cap w hn hA)
 have HA := Lib.hid (hA.boxed (.cells #[.int .i64 key, .slice A l.length cap] 26))
 have HB := Lib.hid (CellsAt.new w 26 #[.int .i64 key, .slice A l.length cap])
 by_cases hp : planOk key l
 ·rw [okB_yes hp] at C
  rw [sectorsOf_yes hp]
  have D := Lib.hid (fun B w hA => l5Sum_calls A l cap B w hp.2.1.2 hA hp.2.2.1)
  clear hA hp
  go_enter Tryz.func109, Tryz.ntmps109
  go_wp2_with fail
  refine (C.out _ HA.out).mono ?_; rintro e w1 ⟨rfl, b1⟩
  have hb := HB.out.below b1 (by simp)
  have c0 : w1.cell? ⟨w.heap.size, 0, none⟩ = some (.int .i64 key) := hb.cell 0
  have c1 : w1.cell? ⟨w.heap.size, 1, none⟩ = some (.slice A l.length cap) := hb.cell 1
  have H1 := Lib.hid ((HA.out.below b1 (Nat.le_refl _)).more b1.size)
  have B1 := Lib.hid ((box_below w _).trans (b1.mono (by simp)))
  clear b1 hb
  go_wp2_with fail
  refine (D.out _ _ H1.out).mono ?_; rintro e w2 ⟨rfl, rfl⟩
  go_wp2_with fail
  go_ret
  exact ⟨rfl, B1.out⟩
 ·rw [okB_no hp] at C
  rw [sectorsOf_no hp]
  clear hA hp
  go_enter Tryz.func109, Tryz.ntmps109
  go_wp2_with fail
  refine (C.out _ HA.out).mono ?_; rintro e w1 ⟨rfl, b1⟩
  have B1 := Lib.hid ((box_below w _).trans (b1.mono (by simp)))
  clear b1
  go_wp2_with fail
  go_ret
  exact ⟨rfl, B1.out⟩
end Go.Proofs.YtodmponjjhokdaaGreat.Mx
namespace Go.Proofs.YtodmponjjhokdaaGreat.Mx
open Go.ChangeShapes Go.WideShapes Go.ChangeAt Go.RowKit
set_option linter.unusedVariables false
theorem upTo_take (l : List Int) (r : Nat) : upTo (l.take r) (l.take r).length = upTo l r := by unfold upTo; rw [List.take_length]
theorem CountsOk.take {l : List Int} (h : CountsOk l) (r : Nat) : CountsOk (l.take r) := by
 intro i hi
 rw [List.length_take] at hi
 rw [List.getD_eq_getElem?_getD, List.getElem?_take_of_lt (by omega), ← List.getD_eq_getElem?_getD]
 exact h i (by omega)
theorem l5Sum_take (A : Option Addr) (l : List Int) (cap B r : Nat) (w : World) (hl : l.length ≤ 4) (hr : r ≤ l.length) (hA : Ints w .i64 B A l) (hc : CountsOk l) :
    Calls Tryz.prog 48 #[.slice A r cap] w fun e w' => e = .returned (.int .i64 (upTo l r)) ∧ w = w' := by
 have h := l5Sum_calls A (l.take r) cap B w (by rw [List.length_take]; omega) (hA.take r) (hc.take r)
 rw [upTo_take, List.length_take, Nat.min_eq_left hr] at h
 exact h
theorem specFirst_yes (key : Int) (A : Option Addr) (l : List Int) (cap r : Nat) (w : World) (hn : l.length ≤ maxLen) (hcap : l.length ≤ cap) (hA : Ints w .i64 w.heap.size A l) (hp : planOk key l) (hr : r < l.length) :
    Calls Tryz.prog 81 #[.agg #[.int .i64 key, .slice A l.length cap], .int .i64 r] w fun e w' => e = .returned (.int .i64 (upTo l r)) ∧ Below w.heap.size w w' := by
 have hl := hp.2.1.2
 have C := Lib.hid (fun w hA => specPlanOk_calls key A l cap w hn hA)
 have HA := Lib.hid (hA.boxed (.cells #[.int .i64 key, .slice A l.length cap] 26))
 have HB := Lib.hid (CellsAt.new w 26 #[.int .i64 key, .slice A l.length cap])
 have D := Lib.hid (fun B w hA => l5Sum_take A l cap B r w hp.2.1.2 (by omega) hA hp.2.2.1)
 have E := Lib.hid (fun w => l1In_yes r 0 (l.length - 1) w (by omega) (by omega))
 rw [okB_yes hp] at C
 obtain ⟨b0, off0, rfl, hb0, _⟩ := hA 0 (by omega)
 clear hA hp
 go_enter Tryz.func81, Tryz.ntmps81
 go_wp2_with fail
 refine (C.out _ HA.out).mono ?_; rintro e w1 ⟨rfl, b1⟩
 have hb := HB.out.below b1 (by simp)
 have c0 : w1.cell? ⟨w.heap.size, 0, none⟩ = some (.int .i64 key) := hb.cell 0
 have c1 : w1.cell? ⟨w.heap.size, 1, none⟩ = some (.slice (some ⟨b0, off0, none⟩) l.length cap) := hb.cell 1
 have H1 := Lib.hid ((HA.out.below b1 (Nat.le_refl _)).more b1.size)
 have B1 := Lib.hid ((box_below w _).trans (b1.mono (by simp)))
 clear b1 hb
 go_wp2_with fail
 refine (E.out _).mono ?_; rintro e w2 ⟨rfl, rfl⟩
 go_wp2_with fail
 refine (D.out _ _ H1.out).mono ?_; rintro e w2 ⟨rfl, rfl⟩
 go_wp2_with fail
 go_ret
 exact ⟨rfl, B1.out⟩
theorem specFirst_out (key x : Int) (A : Option Addr) (l : List Int) (cap : Nat) (w : World) (hn : l.length ≤ maxLen) (hA : Ints w .i64 w.heap.size A l) (hp : planOk key l) (hr : x < 0 ∨ l.length ≤ x) :
    Calls Tryz.prog 81 #[.agg #[.int .i64 key, .slice A l.length cap], .int .i64 x] w fun e w' => e = .returned (.int .i64 (-1)) ∧ Below w.heap.size w w' := by
 have hl := hp.2.1.2
 have C := Lib.hid (fun w hA => specPlanOk_calls key A l cap w hn hA)
 have HA := Lib.hid (hA.boxed (.cells #[.int .i64 key, .slice A l.length cap] 26))
 have HB := Lib.hid (CellsAt.new w 26 #[.int .i64 key, .slice A l.length cap])
 have E := Lib.hid (fun w => l1In_no x 0 (l.length - 1) w (by omega))
 rw [okB_yes hp] at C
 clear hA hp hr
 go_enter Tryz.func81, Tryz.ntmps81
 go_wp2_with fail
 refine (C.out _ HA.out).mono ?_; rintro e w1 ⟨rfl, b1⟩
 have hb := HB.out.below b1 (by simp)
 have c0 : w1.cell? ⟨w.heap.size, 0, none⟩ = some (.int .i64 key) := hb.cell 0
 have c1 : w1.cell? ⟨w.heap.size, 1, none⟩ = some (.slice A l.length cap) := hb.cell 1
 have B1 := Lib.hid ((box_below w _).trans (b1.mono (by simp)))
 clear b1 hb
 go_wp2_with fail
 refine (E.out _).mono ?_; rintro e w2 ⟨rfl, rfl⟩
 go_wp2_with fail
 go_ret
 exact ⟨rfl, B1.out⟩
theorem specFirst_no (key x : Int) (A : Option Addr) (l : List Int) (cap : Nat) (w : World) (hn : l.length ≤ maxLen) (hA : Ints w .i64 w.heap.size A l) (hp : ¬ planOk key l) :
    Calls Tryz.prog 81 #[.agg #[.int .i64 key, .slice A l.length cap], .int .i64 x] w fun e w' => e = .returned (.int .i64 (-1)) ∧ Below w.heap.size w w' := by
 have C := Lib.hid (fun w hA => specPlanOk_calls key A l cap w hn hA)
 have HA := Lib.hid (hA.boxed (.cells #[.int .i64 key, .slice A l.length cap] 26))
 rw [okB_no hp] at C
 clear hA hp
 go_enter Tryz.func81, Tryz.ntmps81
 go_wp2_with fail
 refine (C.out _ HA.out).mono ?_; rintro e w1 ⟨rfl, b1⟩
 have B1 := Lib.hid ((box_below w _).trans (b1.mono (by simp)))
 clear b1
 go_wp2_with fail
 go_ret
 exact ⟨rfl, B1.out⟩
theorem specFirst_calls (key x : Int) (A : Option Addr) (l : List Int) (cap : Nat) (w : World) (hn : l.length ≤ maxLen) (hcap : l.length ≤ cap) (hA : Ints w .i64 w.heap.size A l) :
    Calls Tryz.prog 81 #[.agg #[.int .i64 key, .slice A l.length cap], .int .i64 x] w fun e w' => e = .returned (.int .i64 (firstOf key l x)) ∧ Below w.heap.size w w' := by
 by_cases hp : planOk key l
 ·by_cases h : 0 ≤ x ∧ x < l.length
  ·obtain ⟨r, rfl⟩ : ∃ r : Nat, x = r := ⟨x.toNat, by omega⟩
   rw [firstOf_yes hp (by omega)]
   exact specFirst_yes key A l cap r w hn hcap hA hp (by omega)
  ·rw [firstOf_no (fun h' => h h'.2)]
   exact specFirst_out key x A l cap w hn hA hp (by omega)
 ·rw [firstOf_no (fun h' => hp h'.1)]
  exact specFirst_no key x A l cap w hn hA hp
/-! ### spec.RegionOf -/
def PlanS (b : World) (g : Nat) (cs : Array Value) (c : Addr) (x : Value) (w : World) : Prop :=
 Below b.heap.size b w ∧ CellsAt w g 26 cs ∧ c.block < w.heap.size ∧ w.cell? c = some x
theorem PlanS.cells {b : World} {g : Nat} {u v x : Value} {c : Addr} {w : World} (h : PlanS b g #[u, v] c x w) :
    (w.cell? ⟨g, 0, none⟩ = some u ∧ w.cell? ⟨g, 1, none⟩ = some v ∧ w.cell? c = some x) ∧ PlanS b g #[u, v] c x w := ⟨⟨h.2.1.cell 0, h.2.1.cell 1, h.2.2.2⟩, h⟩
theorem PlanS.keep {b : World} {g : Nat} {u v x : Value} {c : Addr} {w w' : World} (hb : Below w.heap.size w w')
    (h : (w.cell? ⟨g, 0, none⟩ = some u ∧ w.cell? ⟨g, 1, none⟩ = some v ∧ w.cell? c = some x) ∧ PlanS b g #[u, v] c x w) :
    (w'.cell? ⟨g, 0, none⟩ = some u ∧ w'.cell? ⟨g, 1, none⟩ = some v ∧ w'.cell? c = some x) ∧ PlanS b g #[u, v] c x w' :=
 PlanS.cells ⟨h.2.1.trans (hb.mono h.2.1.size), h.2.2.1.below hb h.2.2.1.lt, Nat.lt_of_lt_of_le h.2.2.2.1 hb.size, (hb.cell h.2.2.2.1).trans h.2.2.2.2⟩
theorem specRegion_no (key x : Int) (A : Option Addr) (l : List Int) (cap : Nat) (w : World) (hn : l.length ≤ maxLen) (hA : Ints w .i64 w.heap.size A l) (hp : ¬ planOk key l) :
    Calls Tryz.prog 86 #[.agg #[.int .i64 key, .slice A l.length cap], .int .i64 x] w fun e w' => e = .returned (.int .i64 (-1)) ∧ Below w.heap.size w w' := by
 have C := Lib.hid (fun w hA => specPlanOk_calls key A l cap w hn hA)
 have HA := Lib.hid (hA.boxed (.cells #[.int .i64 key, .slice A l.length cap] 26))
 rw [okB_no hp] at C
 clear hA hp
 go_enter Tryz.func86, Tryz.ntmps86
 go_wp2_with fail
 refine (C.out _ HA.out).mono ?_; rintro e w1 ⟨rfl, b1⟩
 have B1 := Lib.hid ((box_below w _).trans (b1.mono (by simp)))
 clear b1
 go_wp2_with fail
 go_ret
 exact ⟨rfl, B1.out⟩
theorem specRegion_neg (key x : Int) (A : Option Addr) (l : List Int) (cap : Nat) (w : World) (hn : l.length ≤ maxLen) (hA : Ints w .i64 w.heap.size A l) (hx : x < 0) :
    Calls Tryz.prog 86 #[.agg #[.int .i64 key, .slice A l.length cap], .int .i64 x] w fun e w' => e = .returned (.int .i64 (-1)) ∧ Below w.heap.size w w' := by
 by_cases hp : planOk key l
 ·have C := Lib.hid (fun w hA => specPlanOk_calls key A l cap w hn hA)
  have HA := Lib.hid (hA.boxed (.cells #[.int .i64 key, .slice A l.length cap] 26))
  rw [okB_yes hp] at C
  clear hA hp
  go_enter Tryz.func86, Tryz.ntmps86
  go_wp2_with fail
  refine (C.out _ HA.out).mono ?_; rintro e w1 ⟨rfl, b1⟩
  have B1 := Lib.hid ((box_below w _).trans (b1.mono (by simp)))
  clear b1
  go_wp2_with fail
  go_ret
  exact ⟨rfl, B1.out⟩
 ·exact specRegion_no key x A l cap w hn hA hp
set_option maxHeartbeats 1000000 in
theorem specRegion_yes (key x : Int) (A : Option Addr) (l : List Int) (cap : Nat) (w : World) (hn : l.length ≤ maxLen) (hcap : l.length ≤ cap) (hA : Ints w .i64 w.heap.size A l) (hp : planOk key l) (hx : 0 ≤ x) :
    Calls Tryz.prog 86 #[.agg #[.int .i64 key, .slice A l.length cap], .int .i64 x] w fun e w' => (∃ r, e = .returned (.int .i64 r) ∧ IsRegion l x r) ∧ Below w.heap.size w w' := by
 have hl := hp.2.1.2
 have C := Lib.hid (fun w hA => specPlanOk_calls key A l cap w hn hA)
 have D := Lib.hid (fun w r hA hr => specFirst_yes key A l cap r w hn hcap hA hp hr)
 have HA := Lib.hid (hA.boxed (.cells #[.int .i64 key, .slice A l.length cap] 26))
 have HB := Lib.hid (CellsAt.new w 26 #[.int .i64 key, .slice A l.length cap])
 have HC := Lib.hid hp.2.2.1
 have hxn : ¬ x < 0 := by omega
 rw [okB_yes hp] at C
 clear hA hp
 go_enter Tryz.func86, Tryz.ntmps86
 go_wp2_with fail
 refine (C.out _ HA.out).mono ?_; rintro e w1 ⟨rfl, b1⟩
 have HB1 := Lib.hid (HB.out.below b1 (by simp))
 have HA1 := Lib.hid ((HA.out.below b1 (Nat.le_refl _)).more b1.size)
 have B1 := Lib.hid ((box_below w _).trans (b1.mono (by simp)))
 clear b1 C HA HB
 go_wp2_with fail
 go_loopw [5] (fun i wr => ∃ k : Nat, k ≤ l.length ∧ i = .int .i64 k ∧ upTo l k ≤ x ∧ Below w1.heap.size w1 wr) (fun i _ => l.length - (intOf i).toNat)
 case atStart => exact ⟨0, Nat.zero_le _, rfl, by rw [upTo_zero]; exact hx, Below.refl _ _⟩
 case round =>
  obtain ⟨k, hk, rfl, hux, hbel⟩ := hrel
  have HU := Lib.hid hux
  have HBr := Lib.hid (HB1.out.below hbel HB1.out.lt)
  have HAr := Lib.hid ((HA1.out.below hbel (Nat.le_refl _)).more hbel.size)
  have BR := Lib.hid hbel
  have c0 := HBr.out.cell 0
  have c1 := HBr.out.cell 1
  clear hux hbel
  by_cases hlt : k < l.length
  ·obtain ⟨b, off, rfl, hb, hv⟩ := HAr.out k hlt
   have hlt' : (k : Int) < l.length := by omega
   have hk0 : (0 : Int) ≤ k := by omega
   have HS := Lib.hid (upTo_succ l hlt)
   have hcv := HC.out k hlt
   have hu := upTo_bd HC.out hk
   have S0 := Lib.hid (show PlanS w1 w.heap.size #[.int .i64 key, .slice (some ⟨b, off, none⟩) l.length cap] ⟨b, off + k, none⟩ (.int .i64 (l.getD k 0)) wr.drew from ⟨BR.out.drew, HBr.out.drew, hb, hv⟩)
   have DK := Lib.hid (fun u (hS : (u.cell? ⟨w.heap.size, 0, none⟩ = some (.int .i64 key) ∧ u.cell? ⟨w.heap.size, 1, none⟩ = some (.slice (some ⟨b, off, none⟩) l.length cap) ∧ u.cell? ⟨b, off + k, none⟩ = some (.int .i64 (l.getD k 0))) ∧ PlanS w1 w.heap.size #[.int .i64 key, .slice (some ⟨b, off, none⟩) l.length cap] ⟨b, off + k, none⟩ (.int .i64 (l.getD k 0)) u) => D.out u k ((HA1.out.below hS.2.1 (Nat.le_refl _)).more hS.2.1.size) hlt)
   generalize l.getD k 0 = v at hv hcv HS S0 DK
   have HU0 := Lib.hid (show upTo l k ≤ x from HU.out)
   generalize hsu : upTo l k = s at HS hu HU DK
   clear hsu
   obtain ⟨v0, v1⟩ := hcv
   obtain ⟨u0, u1⟩ := hu
   clear D
   have hwr : IntKind.i64.wrap (s + v) = s + v := IntWalk.i64_in _ (by omega)
   by_cases hin : x < s + v
   ·go_wp2_with fail
    go_region_held3 (fun w' => (w'.cell? ⟨w.heap.size, 0, none⟩ = some (.int .i64 key) ∧ w'.cell? ⟨w.heap.size, 1, none⟩ = some (.slice (some ⟨b, off, none⟩) l.length cap) ∧ w'.cell? ⟨b, off + k, none⟩ = some (.int .i64 v)) ∧ PlanS w1 w.heap.size #[.int .i64 key, .slice (some ⟨b, off, none⟩) l.length cap] ⟨b, off + k, none⟩ (.int .i64 v) w')
     (first | exact PlanS.keep ‹Below _ _ _› ‹_› | exact PlanS.cells S0.out)
     (first | (go_at_call 81; refine (DK.out _ ‹_›).mono ?_; rintro e wx ⟨rfl, bx⟩))
    all_goals
     obtain ⟨-, SX⟩ := ‹_ ∧ PlanS _ _ _ _ _ _›
     have BX := Lib.hid SX.1
     have HI := Lib.hid (show x < upTo l (k + 1) by rw [HS.out]; exact hin)
     have HV := Lib.hid (show upTo l k ≤ x from HU0.out)
     clear SX
     go_wp2_with fail
     go_ret
     exact ⟨⟨_, rfl, .inl ⟨k, hlt, rfl, HV.out, HI.out⟩⟩, B1.out.trans (BX.out.mono B1.out.size)⟩
   ·go_wp2_with fail
    go_region_held3 (fun w' => (w'.cell? ⟨w.heap.size, 0, none⟩ = some (.int .i64 key) ∧ w'.cell? ⟨w.heap.size, 1, none⟩ = some (.slice (some ⟨b, off, none⟩) l.length cap) ∧ w'.cell? ⟨b, off + k, none⟩ = some (.int .i64 v)) ∧ PlanS w1 w.heap.size #[.int .i64 key, .slice (some ⟨b, off, none⟩) l.length cap] ⟨b, off + k, none⟩ (.int .i64 v) w')
     (first | exact PlanS.keep ‹Below _ _ _› ‹_› | exact PlanS.cells S0.out)
     (first | (go_at_call 81; refine (DK.out _ ‹_›).mono ?_; rintro e wx ⟨rfl, bx⟩))
    all_goals
     obtain ⟨-, SX⟩ := ‹_ ∧ PlanS _ _ _ _ _ _›
     have BX := Lib.hid SX.1
     have HI := Lib.hid (show upTo l (k + 1) ≤ x by rw [HS.out]; omega)
     clear SX
     go_wp2_with fail
     go_roundw
     case rel => exact ⟨k + 1, by omega, by go_num, HI.out, BX.out⟩
     case measure => simp [intOf]; omega
  ·obtain rfl : k = l.length := by omega
   go_wp2_with fail
   go_ret
   exact ⟨⟨_, rfl, .inr ⟨rfl, HU.out⟩⟩, B1.out.trans (BR.out.mono B1.out.size)⟩
theorem specRegion_calls (key x : Int) (A : Option Addr) (l : List Int) (cap : Nat) (w : World) (hn : l.length ≤ maxLen) (hcap : l.length ≤ cap) (hA : Ints w .i64 w.heap.size A l) :
    Calls Tryz.prog 86 #[.agg #[.int .i64 key, .slice A l.length cap], .int .i64 x] w fun e w' => e = .returned (.int .i64 (regionOf key l x)) ∧ Below w.heap.size w w' := by
 by_cases hp : planOk key l
 ·by_cases h0 : x < 0
  ·rw [regionOf_no (by omega)]; exact specRegion_neg key x A l cap w hn hA h0
  ·refine (specRegion_yes key x A l cap w hn hcap hA hp (by omega)).mono ?_
   rintro e w' ⟨⟨r, rfl, hr⟩, hb⟩
   rw [regionOf_yes hp (by omega) hr]
   exact ⟨rfl, hb⟩
 ·rw [regionOf_no (fun h => hp h.1)]; exact specRegion_no key x A l cap w hn hA hp
end Go.Proofs.YtodmponjjhokdaaGreat.Mx

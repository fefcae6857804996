import Derived.Test.YtjbnknccnhdapaaGreatG04
import Derived.Test.YtjbnknccnhdapaaGreatRows
import Derived.Test.YtjbnknccnhdapaaGreatG01
import Derived.Deep.OwnRows
import Derived.Lib.Hide
import Derived.Deep.QuietTactic
import Derived.BigQuiet
import Derived.Test.YtjbnknccnhdapaaGreatG03
import Derived.Deep.RegionHeld3
namespace Go.Proofs.YtjbnknccnhdapaaGreat.Mx
open Go.ChangeShapes Go.WideShapes Go.ChangeAt Go.RowKit
set_option linter.unusedVariables false
open Classical in
noncomputable def okB (key : Int) (l : List Int) : Bool := decide (planOk key l)
open Classical in
theorem okB_yes {key : Int} {l : List Int} (h : planOk key l) : okB key l = true := by unfold okB; exact decide_eq_true h
open Classical in
theorem okB_no {key : Int} {l : List Int} (h : ¬ planOk key l) : okB key l = false := by unfold okB; exact decide_eq_false h
theorem box_below (w : World) (o : Obj) : Below w.heap.size w (w.alloc o) := (Below.refl _ _).alloc (Nat.le_refl _) _
theorem Ints.boxed {w : World} {k : IntKind} {A : Option Addr} {l : List Int} (h : Ints w k w.heap.size A l) (o : Obj) : Ints (w.alloc o) k (w.alloc o).heap.size A l := (h.below (box_below w o) (Nat.le_refl _)).more (by simp)
theorem planOk_calls (key : Int) (A : Option Addr) (l : List Int) (cap : Nat) (w : World) (hn : l.length ≤ maxLen) (hcap : l.length ≤ cap) (hA : Ints w .i64 w.heap.size A l) :
    Calls Tryz.prog 70 #[.agg (pA key A l.length cap)] w fun e w' => e = .returned (.bool (okB key l)) ∧ Below w.heap.size w w' := by
 have hm := hn
 unfold maxLen at hm
 by_cases hk : 1 ≤ key ∧ key ≤ 1000000
 ·have C := Lib.hid (fun w => isKey_yes key w hk.1 hk.2)
  by_cases h1 : 1 ≤ l.length
  ·by_cases h4 : l.length ≤ 4
   ·have g1 : ¬ (l.length : Int) < 1 := by omega
    have g4 : ¬ (4 : Int) < l.length := by omega
    by_cases hc : CountsOk l
    ·have D := Lib.hid (fun B w hA => contains_none A l cap B w hn hA hc)
     have E := Lib.hid (fun w hA => sectors_calls key A l cap w h4 hcap hA hc h1)
     have HA := Lib.hid (hA.boxed (.cells (pA key A l.length cap) 26))
     have hB : okB key l = decide (upTo l l.length ≤ 24) := by
      by_cases h : upTo l l.length ≤ 24
      ·rw [okB_yes ⟨hk, ⟨h1, h4⟩, hc, h⟩, decide_eq_true h]
      ·rw [okB_no (fun h' => h h'.2.2.2), decide_eq_false h]
     rw [hB]
     clear hA hc hk hB hn
     generalize upTo l l.length = s at E
     go_enter Tryz.func70, Tryz.ntmps70
     go_wp2_with fail
     refine (C.out _).mono ?_; rintro e w' ⟨rfl, rfl⟩
     go_wp2_with fail
     refine (D.out _ _ HA.out).mono ?_; rintro e w' ⟨rfl, rfl⟩
     go_wp2_with fail
     refine (E.out _ HA.out).mono ?_; rintro e w1 ⟨rfl, b1⟩
     have B1 := Lib.hid ((box_below w _).trans (b1.mono (by simp)))
     clear b1
     go_wp2_with fail
     go_ret
     exact ⟨rfl, B1.out⟩
    ·have D := Lib.hid (fun B w hA => contains_some A l cap B w hn hA hc)
     have HA := Lib.hid (hA.boxed (.cells (pA key A l.length cap) 26))
     rw [okB_no (fun h' => hc h'.2.2.1)]
     clear hA hc hk hn
     go_enter Tryz.func70, Tryz.ntmps70
     go_wp2_with fail
     refine (C.out _).mono ?_; rintro e w' ⟨rfl, rfl⟩
     go_wp2_with fail
     refine (D.out _ _ HA.out).mono ?_; rintro e w' ⟨rfl, rfl⟩
     go_wp2_with fail
     go_ret
     exact ⟨rfl, box_below w _⟩
   ·have g1 : ¬ (l.length : Int) < 1 := by omega
    have g4 : (4 : Int) < l.length := by omega
    rw [okB_no (fun h' => h4 h'.2.1.2)]
    clear hA hk hn
    go_enter Tryz.func70, Tryz.ntmps70
    go_wp2_with fail
    refine (C.out _).mono ?_; rintro e w' ⟨rfl, rfl⟩
    go_wp2_with fail
    go_ret
    exact ⟨rfl, box_below w _⟩
  ·have g1 : (l.length : Int) < 1 := by omega
   rw [okB_no (fun h' => h1 h'.2.1.1)]
   clear hA hk hn
   go_enter Tryz.func70, Tryz.ntmps70
   go_wp2_with fail
   refine (C.out _).mono ?_; rintro e w' ⟨rfl, rfl⟩
   go_wp2_with fail
   go_ret
   exact ⟨rfl, box_below w _⟩
 ·have C := Lib.hid (fun w => isKey_no key w (by omega))
  rw [okB_no (fun h' => hk h'.1)]
  clear hA hk hn
  go_enter Tryz.func70, Tryz.ntmps70
  go_wp2_with fail
  refine (C.out _).mono ?_; rintro e w' ⟨rfl, rfl⟩
  go_wp2_with fail
  go_ret
  exact ⟨rfl, box_below w _⟩
theorem sectorsOf_calls (key : Int) (A : Option Addr) (l : List Int) (cap : Nat) (w : World) (hn : l.length ≤ maxLen) (hcap : l.length ≤ cap) (hA : Ints w .i64 w.heap.size A l) :
    Calls Tryz.prog 41 #[.agg (pA key A l.length cap)] w fun e w' => e = .returned (.int .i64 (sectorsOf key l)) ∧ Below w.heap.size w w' := by
 have C := Lib.hid (fun w hA => planOk_calls key A l cap w hn hcap hA)
 have HA := Lib.hid (hA.boxed (.cells (pA key A l.length cap) 26))
 have HB := Lib.hid (CellsAt.new w 26 (pA key A l.length cap))
 by_cases hp : planOk key l
 ·rw [okB_yes hp] at C
  rw [sectorsOf_yes hp]
  have D := Lib.hid (fun w hA => sectors_calls key A l cap w hp.2.1.2 hcap hA hp.2.2.1 hp.2.1.1)
  clear hA hp
  go_enter Tryz.func41, Tryz.ntmps41
  go_wp2_with fail
  refine (C.out _ HA.out).mono ?_; rintro e w1 ⟨rfl, b1⟩
  have hb := HB.out.below b1 (by simp)
  have c0 : w1.cell? ⟨w.heap.size, 0, none⟩ = some (.int .i64 key) := hb.cell 0
  have c1 : w1.cell? ⟨w.heap.size, 1, none⟩ = some (.slice A l.length cap) := hb.cell 1
  have H1 := Lib.hid ((HA.out.below b1 (Nat.le_refl _)).more b1.size)
  have B1 := Lib.hid ((box_below w _).trans (b1.mono (by simp)))
  clear b1 hb
  go_wp2_with fail
  refine (D.out _ H1.out).mono ?_; rintro e w2 ⟨rfl, b2⟩
  have B2 := Lib.hid (B1.out.trans (b2.mono B1.out.size))
  clear b2
  go_wp2_with fail
  go_ret
  exact ⟨rfl, B2.out⟩
 ·rw [okB_no hp] at C
  rw [sectorsOf_no hp]
  clear hA hp
  go_enter Tryz.func41, Tryz.ntmps41
  go_wp2_with fail
  refine (C.out _ HA.out).mono ?_; rintro e w1 ⟨rfl, b1⟩
  have B1 := Lib.hid ((box_below w _).trans (b1.mono (by simp)))
  clear b1
  go_wp2_with fail
  go_ret
  exact ⟨rfl, B1.out⟩
theorem asked_no (key x : Int) (f : Value) (A : Option Addr) (l : List Int) (cap : Nat) (w : World) (hn : l.length ≤ maxLen) (hcap : l.length ≤ cap) (hA : Ints w .i64 w.heap.size A l) (hp : ¬ planOk key l) :
    Calls Tryz.prog 113 #[.agg (pA key A l.length cap), f, .int .i64 x] w fun e w' => e = .returned (.int .i64 (-1)) ∧ Below w.heap.size w w' := by
 have C := Lib.hid (fun w hA => planOk_calls key A l cap w hn hcap hA)
 have HA := Lib.hid (hA.boxed (.cells (pA key A l.length cap) 26))
 rw [okB_no hp] at C
 clear hA hp
 go_enter Tryz.func113, Tryz.ntmps113
 go_wp2_with fail
 refine (C.out _ HA.out).mono ?_; rintro e w1 ⟨rfl, b1⟩
 have B1 := Lib.hid ((box_below w _).trans (b1.mono (by simp)))
 clear b1
 go_wp2_with fail
 go_ret
 exact ⟨rfl, B1.out⟩
theorem first_right (key x : Int) (A : Option Addr) (l : List Int) (cap : Nat) (w : World) (hcap : l.length ≤ cap) (hA : Ints w .i64 w.heap.size A l) (hp : planOk key l) :
    Calls Tryz.prog 114 #[.agg (pA key A l.length cap), .int .i64 x] w fun e w' => e = .returned (.int .i64 (firstOf key l x)) ∧ Below w.heap.size w w' := by
 by_cases h : 0 ≤ x ∧ x < l.length
 ·obtain ⟨r, rfl⟩ : ∃ r : Nat, x = r := ⟨x.toNat, by omega⟩
  rw [firstOf_yes hp (by omega)]
  exact first_yes key A l cap r w hp.2.1.2 hcap hA hp.2.2.1 (by omega)
 ·rw [firstOf_no (fun h' => h h'.2)]
  exact first_no key x A l.length cap w (by omega) hp.2.1.2
theorem asked_first (key x : Int) (A : Option Addr) (l : List Int) (cap : Nat) (w : World) (hn : l.length ≤ maxLen) (hcap : l.length ≤ cap) (hA : Ints w .i64 w.heap.size A l) (hp : planOk key l) :
    Calls Tryz.prog 113 #[.agg (pA key A l.length cap), .func (.func 114) #[.agg (pA key A l.length cap)] #[], .int .i64 x] w fun e w' => e = .returned (.int .i64 (firstOf key l x)) ∧ Below w.heap.size w w' := by
 have C := Lib.hid (fun w hA => planOk_calls key A l cap w hn hcap hA)
 have D := Lib.hid (fun w hA => first_right key x A l cap w hcap hA hp)
 have HA := Lib.hid (hA.boxed (.cells (pA key A l.length cap) 26))
 rw [okB_yes hp] at C
 clear hA hp
 generalize firstOf key l x = y at D
 go_enter Tryz.func113, Tryz.ntmps113
 go_wp2_with fail
 refine (C.out _ HA.out).mono ?_; rintro e w1 ⟨rfl, b1⟩
 have H1 := Lib.hid ((HA.out.below b1 (Nat.le_refl _)).more b1.size)
 have B1 := Lib.hid ((box_below w _).trans (b1.mono (by simp)))
 clear b1
 go_wp2_with fail
 refine (D.out _ H1.out).mono ?_; rintro e w2 ⟨rfl, b2⟩
 have B2 := Lib.hid (B1.out.trans (b2.mono B1.out.size))
 clear b2
 go_wp2_with fail
 go_ret
 exact ⟨rfl, B2.out⟩
theorem firstOf_calls (key x : Int) (A : Option Addr) (l : List Int) (cap : Nat) (w : World) (hn : l.length ≤ maxLen) (hcap : l.length ≤ cap) (hA : Ints w .i64 w.heap.size A l) :
    Calls Tryz.prog 102 #[.agg (pA key A l.length cap), .int .i64 x] w fun e w' => e = .returned (.int .i64 (firstOf key l x)) ∧ Below w.heap.size w w' := by
 have hmf : ∀ (fn : Fn) (first cap : Array Value) (w : World), (Instr.makeFunc fn first cap).run Tryz.prog w = .ok (.func fn first cap) w := fun _ _ _ _ => rfl
 have C0 : (∀ w, Ints w .i64 w.heap.size A l → Calls Tryz.prog 113 #[.agg (pA key A l.length cap), .func (.func 114) #[.agg (pA key A l.length cap)] #[], .int .i64 x] w fun e w' => e = .returned (.int .i64 (firstOf key l x)) ∧ Below w.heap.size w w') := by
  intro w hA
  by_cases hp : planOk key l
  ·exact asked_first key x A l cap w hn hcap hA hp
  ·rw [firstOf_no (fun h => hp h.1)]; exact asked_no key x _ A l cap w hn hcap hA hp
 have C := Lib.hid C0
 clear C0
 have HA := Lib.hid (hA.boxed (.cells (pA key A l.length cap) 26))
 clear hA
 generalize firstOf key l x = y at C
 go_enter Tryz.func102, Tryz.ntmps102
 go_wp2_with fail
 refine (C.out _ HA.out).mono ?_; rintro e w1 ⟨rfl, b1⟩
 have B1 := Lib.hid ((box_below w _).trans (b1.mono (by simp)))
 clear b1
 go_wp2_with fail
 go_ret
 exact ⟨rfl, B1.out⟩
theorem info_i64 : (Tryz.prog.info? 2).map (fun i => (i.zero, i.size, i.bytes)) = some (some (.int .i64 0), 1, 8) := by kernel_rfl
theorem lt_of_cell {w : World} {b off : Nat} {s} {v : Value} (h : w.cell? ⟨b, off, s⟩ = some v) : b < w.heap.size := by
 rcases Nat.lt_or_ge b w.heap.size with hlt | hge
 ·exact hlt
 ·simp [World.cell?, Array.getElem?_eq_none hge] at h
theorem ints_of_row {k : IntKind} {w : World} {x : Addr} {zs : List Int} {len : Nat} (hl : len ≤ zs.length) (hcell : ∀ i, i < zs.length → w.cell? (x.add i) = some (.int k (zs.getD i 0))) :
    Ints w k w.heap.size (some x) (zs.take len) := by
 intro i hi
 have hi' : i < len := by rw [List.length_take] at hi; omega
 have hc := hcell i (by omega)
 obtain ⟨b, off, spot⟩ := x
 have hspot : spot = none := by
  have h0 := hcell 0 (by omega)
  simpa [Addr.add] using World.cell?_spot h0
 subst hspot
 have hg : (zs.take len).getD i 0 = zs.getD i 0 := by
  rw [List.getD_eq_getElem?_getD, List.getD_eq_getElem?_getD, List.getElem?_take, if_pos hi']
 rw [hg]
 have hc' : w.cell? ⟨b, off + i, none⟩ = some (.int k (zs.getD i 0)) := by
  rcases Nat.eq_zero_or_pos i with rfl | hp
  ·simpa [Addr.add] using hc
  ·have hne : i ≠ 0 := by omega
   simpa [Addr.add, hne] using hc
 exact ⟨b, off, rfl, lt_of_cell hc', hc'⟩
theorem l5Sum_calls (A : Option Addr) (l : List Int) (cap B : Nat) (w : World) (hl : l.length ≤ 4) (hA : Ints w .i64 B A l) (hc : CountsOk l) :
    Calls Tryz.prog 47 #[.slice A l.length cap] w fun e w' => e = .returned (.int .i64 (upTo l l.length)) ∧ w = w' := by
 go_enter Tryz.func47, Tryz.ntmps47
 go_wp2
 go_loop [3, 4] (fun s i => ∃ k : Nat, k ≤ l.length ∧ i = .int .i64 k ∧ s = .int .i64 (upTo l k)) (fun _ i => l.length - (intOf i).toNat)
 case atStart => exact ⟨0, Nat.zero_le _, rfl, by rw [upTo_zero]⟩
 case round =>
  obtain ⟨k, hk, rfl, rfl⟩ := hrel
  by_cases hlt : k < l.length
  ·obtain ⟨b, off, rfl, hb, hv⟩ := hA k hlt
   have hlt' : (k : Int) < l.length := by omega
   have hk0 : (0 : Int) ≤ k := by omega
   have HS := Lib.hid (upTo_succ l hlt)
   have hu := upTo_bd hc hk
   have hb := hc k hlt
   clear hA hc
   generalize l.getD k 0 = v at hv hb HS
   generalize upTo l k = s at HS hu
   obtain ⟨v0, v1⟩ := hb
   obtain ⟨u0, u1⟩ := hu
   go_wp2
   go_round
   case rel => exact ⟨k + 1, by omega, by go_num, by rw [HS.out]⟩
   case measure => simp [intOf]; omega
  ·obtain rfl : k = l.length := by omega
   clear hA hc
   go_wp2
   go_ret
   exact ⟨rfl, rfl⟩
theorem specPlanOk_counts (key : Int) (A : Option Addr) (l : List Int) (cap : Nat) (w : World) (hk : 1 ≤ key ∧ key ≤ 1000000) (h1 : 1 ≤ l.length) (h4 : l.length ≤ 4) (hA : Ints w .i64 w.heap.size A l) (hc : CountsOk l) :
    Calls Tryz.prog 27 #[.agg (pA key A l.length cap)] w fun e w' => e = .returned (.bool (okB key l)) ∧ Below w.heap.size w w' := by
 have g1 : ¬ (l.length : Int) < 1 := by omega
 have g4 : ¬ (4 : Int) < l.length := by omega
 have C := Lib.hid (fun w => l1Key_yes key w hk.1 hk.2)
 have hA' := hA.boxed (.cells (pA key A l.length cap) 26)
 have HA := Lib.hid hA'
 have HC := Lib.hid hc
 have D := Lib.hid (fun B w hA => l5Sum_calls A l cap B w h4 hA hc)
 have hB : okB key l = decide (upTo l l.length ≤ 24) := by
  by_cases h : upTo l l.length ≤ 24
  ·rw [okB_yes ⟨hk, ⟨h1, h4⟩, hc, h⟩, decide_eq_true h]
  ·rw [okB_no (fun h' => h h'.2.2.2), decide_eq_false h]
 rw [hB]
 clear hA hA' hc hk hB
 generalize upTo l l.length = s at D
 go_enter Tryz.func27, Tryz.ntmps27
 go_wp2_with fail
 refine (C.out _).mono ?_; rintro e w' ⟨rfl, rfl⟩
 go_wp2_with fail
 go_loop [3] (fun i => ∃ k : Nat, k ≤ l.length ∧ i = .int .i64 k) (fun i => l.length - (intOf i).toNat)
 case atStart => exact ⟨0, Nat.zero_le _, rfl⟩
 case round =>
  obtain ⟨k, hk, rfl⟩ := hrel
  by_cases hlt : k < l.length
  ·obtain ⟨b, off, rfl, hb, hv⟩ := HA.out k hlt
   have hb := HC.out k hlt
   have hlt' : (k : Int) < l.length := by omega
   have hk0 : (0 : Int) ≤ k := by omega
   generalize l.getD k 0 = v at hv hb
   have E := Lib.hid (fun w => l1In_yes v 1 8 w hb.1 hb.2)
   go_wp2_with fail
   refine (E.out _).mono ?_; rintro e w' ⟨rfl, rfl⟩
   go_wp2_with fail
   go_round
   case rel => exact ⟨k + 1, by omega, by go_num⟩
   case measure => simp [intOf]; omega
  ·obtain rfl : k = l.length := by omega
   go_wp2_with fail
   refine (D.out _ _ HA.out).mono ?_; rintro e w' ⟨rfl, rfl⟩
   go_wp2_with fail
   go_ret
   exact ⟨rfl, box_below w _⟩
theorem specPlanOk_not (key : Int) (A : Option Addr) (l : List Int) (cap : Nat) (w : World) (hk : 1 ≤ key ∧ key ≤ 1000000) (h1 : 1 ≤ l.length) (h4 : l.length ≤ 4) (hA : Ints w .i64 w.heap.size A l) (hc : ¬ CountsOk l) :
    Calls Tryz.prog 27 #[.agg (pA key A l.length cap)] w fun e w' => e = .returned (.bool (okB key l)) ∧ Below w.heap.size w w' := by
 rw [okB_no (fun h' => hc h'.2.2.1)]
 have g1 : ¬ (l.length : Int) < 1 := by omega
 have g4 : ¬ (4 : Int) < l.length := by omega
 have C := Lib.hid (fun w => l1Key_yes key w hk.1 hk.2)
 have hA' := hA.boxed (.cells (pA key A l.length cap) 26)
 have HA := Lib.hid hA'
 obtain ⟨j, hj, hjv⟩ := not_counts hc
 have HJ := Lib.hid hjv
 clear hA hA' hc hk hjv
 go_enter Tryz.func27, Tryz.ntmps27
 go_wp2_with fail
 refine (C.out _).mono ?_; rintro e w' ⟨rfl, rfl⟩
 go_wp2_with fail
 go_loop [3] (fun i => ∃ k : Nat, k ≤ j ∧ i = .int .i64 k) (fun i => l.length - (intOf i).toNat)
 case atStart => exact ⟨0, Nat.zero_le _, rfl⟩
 case round =>
  obtain ⟨k, hk, rfl⟩ := hrel
  have hlt : k < l.length := by omega
  obtain ⟨b, off, rfl, hb, hv⟩ := HA.out k hlt
  have hlt' : (k : Int) < l.length := by omega
  have hk0 : (0 : Int) ≤ k := by omega
  by_cases hbad : l.getD k 0 < 1 ∨ 8 < l.getD k 0
  ·have E := Lib.hid (fun w => l1In_no (l.getD k 0) 1 8 w hbad)
   clear hbad HJ
   generalize l.getD k 0 = v at hv E
   go_wp2_with fail
   refine (E.out _).mono ?_; rintro e w' ⟨rfl, rfl⟩
   go_wp2_with fail
   go_ret
   exact ⟨rfl, box_below w _⟩
  ·have hkj : k < j := by
     rcases Nat.lt_or_ge k j with h | h
     ·exact h
     ·obtain rfl : k = j := by omega
      exact absurd HJ.out hbad
   have E := Lib.hid (fun w => l1In_yes (l.getD k 0) 1 8 w (by omega) (by omega))
   clear hbad HJ
   generalize l.getD k 0 = v at hv E
   go_wp2_with fail
   refine (E.out _).mono ?_; rintro e w' ⟨rfl, rfl⟩
   go_wp2_with fail
   go_round
   case rel => exact ⟨k + 1, by omega, by go_num⟩
   case measure => simp [intOf]; omega
theorem specPlanOk_calls (key : Int) (A : Option Addr) (l : List Int) (cap : Nat) (w : World) (hn : l.length ≤ maxLen) (hA : Ints w .i64 w.heap.size A l) :
    Calls Tryz.prog 27 #[.agg (pA key A l.length cap)] w fun e w' => e = .returned (.bool (okB key l)) ∧ Below w.heap.size w w' := by
 have hm := hn
 unfold maxLen at hm
 by_cases hk : 1 ≤ key ∧ key ≤ 1000000
 ·have C := Lib.hid (fun w => l1Key_yes key w hk.1 hk.2)
  by_cases h1 : 1 ≤ l.length
  ·by_cases h4 : l.length ≤ 4
   ·by_cases hc : CountsOk l
    ·exact specPlanOk_counts key A l cap w hk h1 h4 hA hc
    ·exact specPlanOk_not key A l cap w hk h1 h4 hA hc
   ·have g1 : ¬ (l.length : Int) < 1 := by omega
    have g4 : (4 : Int) < l.length := by omega
    rw [okB_no (fun h' => h4 h'.2.1.2)]
    clear hA hk hn
    go_enter Tryz.func27, Tryz.ntmps27
    go_wp2_with fail
    refine (C.out _).mono ?_; rintro e w' ⟨rfl, rfl⟩
    go_wp2_with fail
    go_ret
    exact ⟨rfl, box_below w _⟩
  ·have g1 : (l.length : Int) < 1 := by omega
   rw [okB_no (fun h' => h1 h'.2.1.1)]
   clear hA hk hn
   go_enter Tryz.func27, Tryz.ntmps27
   go_wp2_with fail
   refine (C.out _).mono ?_; rintro e w' ⟨rfl, rfl⟩
   go_wp2_with fail
   go_ret
   exact ⟨rfl, box_below w _⟩
 ·have C := Lib.hid (fun w => l1Key_no key w (by omega))
  rw [okB_no (fun h' => hk h'.1)]
  clear hA hk hn
  go_enter Tryz.func27, Tryz.ntmps27
  go_wp2_with fail
  refine (C.out _).mono ?_; rintro e w' ⟨rfl, rfl⟩
  go_wp2_with fail
  go_ret
  exact ⟨rfl, box_below w _⟩
theorem specSectors_calls (key : Int) (A : Option Addr) (l : List Int) (cap : Nat) (w : World) (hn : l.length ≤ maxLen) (hA : Ints w .i64 w.heap.size A l) :
    Calls Tryz.prog 45 #[.agg (pA key A l.length cap)] w fun e w' => e = .returned (.int .i64 (sectorsOf key l)) ∧ Below w.heap.size w w' := by
 have C := Lib.hid (fun w hA => specPlanOk_calls key A l cap w hn hA)
 have HA := Lib.hid (hA.boxed (.cells (pA key A l.length cap) 26))
 have HB := Lib.hid (CellsAt.new w 26 (pA key A l.length cap))
 by_cases hp : planOk key l
 ·rw [okB_yes hp] at C
  rw [sectorsOf_yes hp]
  have D := Lib.hid (fun B w hA => l5Sum_calls A l cap B w hp.2.1.2 hA hp.2.2.1)
  clear hA hp
  go_enter Tryz.func45, Tryz.ntmps45
  go_wp2_with fail
  refine (C.out _ HA.out).mono ?_; rintro e w1 ⟨rfl, b1⟩
  have hb := HB.out.below b1 (by simp)
  have c0 : w1.cell? ⟨w.heap.size, 0, none⟩ = some (.int .i64 key) := hb.cell 0
  have c1 : w1.cell? ⟨w.heap.size, 1, none⟩ = some (.slice A l.length cap) := hb.cell 1
  have H1 := Lib.hid ((HA.out.below b1 (Nat.le_refl _)).more b1.size)
  have B1 := Lib.hid ((box_below w _).trans (b1.mono (by simp)))
  clear b1 hb
  go_wp2_with fail
  refine (D.out _ _ H1.out).mono ?_; rintro e w2 ⟨rfl, rfl⟩
  go_wp2_with fail
  go_ret
  exact ⟨rfl, B1.out⟩
 ·rw [okB_no hp] at C
  rw [sectorsOf_no hp]
  clear hA hp
  go_enter Tryz.func45, Tryz.ntmps45
  go_wp2_with fail
  refine (C.out _ HA.out).mono ?_; rintro e w1 ⟨rfl, b1⟩
  have B1 := Lib.hid ((box_below w _).trans (b1.mono (by simp)))
  clear b1
  go_wp2_with fail
  go_ret
  exact ⟨rfl, B1.out⟩
theorem upTo_take (l : List Int) (r : Nat) : upTo (l.take r) (l.take r).length = upTo l r := by unfold upTo; rw [List.take_length]
theorem CountsOk.take {l : List Int} (h : CountsOk l) (r : Nat) : CountsOk (l.take r) := by
 intro i hi
 rw [List.length_take] at hi
 rw [List.getD_eq_getElem?_getD, List.getElem?_take_of_lt (by omega), ← List.getD_eq_getElem?_getD]
 exact h i (by omega)
theorem l5Sum_take (A : Option Addr) (l : List Int) (cap B r : Nat) (w : World) (hl : l.length ≤ 4) (hr : r ≤ l.length) (hA : Ints w .i64 B A l) (hc : CountsOk l) :
    Calls Tryz.prog 47 #[.slice A r cap] w fun e w' => e = .returned (.int .i64 (upTo l r)) ∧ w = w' := by
 have h := l5Sum_calls A (l.take r) cap B w (by rw [List.length_take]; omega) (hA.take r) (hc.take r)
 rw [upTo_take, List.length_take, Nat.min_eq_left hr] at h
 exact h
theorem specFirst_yes (key : Int) (A : Option Addr) (l : List Int) (cap r : Nat) (w : World) (hn : l.length ≤ maxLen) (hcap : l.length ≤ cap) (hA : Ints w .i64 w.heap.size A l) (hp : planOk key l) (hr : r < l.length) :
    Calls Tryz.prog 49 #[.agg (pA key A l.length cap), .int .i64 r] w fun e w' => e = .returned (.int .i64 (upTo l r)) ∧ Below w.heap.size w w' := by
 have hl := hp.2.1.2
 have C := Lib.hid (fun w hA => specPlanOk_calls key A l cap w hn hA)
 have HA := Lib.hid (hA.boxed (.cells (pA key A l.length cap) 26))
 have HB := Lib.hid (CellsAt.new w 26 (pA key A l.length cap))
 have D := Lib.hid (fun B w hA => l5Sum_take A l cap B r w hp.2.1.2 (by omega) hA hp.2.2.1)
 have E := Lib.hid (fun w => l1In_yes r 0 (l.length - 1) w (by omega) (by omega))
 rw [okB_yes hp] at C
 obtain ⟨b0, off0, rfl, hb0, _⟩ := hA 0 (by omega)
 clear hA hp
 go_enter Tryz.func49, Tryz.ntmps49
 go_wp2_with fail
 refine (C.out _ HA.out).mono ?_; rintro e w1 ⟨rfl, b1⟩
 have hb := HB.out.below b1 (by simp)
 have c0 : w1.cell? ⟨w.heap.size, 0, none⟩ = some (.int .i64 key) := hb.cell 0
 have c1 : w1.cell? ⟨w.heap.size, 1, none⟩ = some (.slice (some ⟨b0, off0, none⟩) l.length cap) := hb.cell 1
 have H1 := Lib.hid ((HA.out.below b1 (Nat.le_refl _)).more b1.size)
 have B1 := Lib.hid ((box_below w _).trans (b1.mono (by simp)))
 clear b1 hb
 go_wp2_with fail
 refine (E.out _).mono ?_; rintro e w2 ⟨rfl, rfl⟩
 go_wp2_with fail
 refine (D.out _ _ H1.out).mono ?_; rintro e w2 ⟨rfl, rfl⟩
 go_wp2_with fail
 go_ret
 exact ⟨rfl, B1.out⟩
theorem specFirst_out (key x : Int) (A : Option Addr) (l : List Int) (cap : Nat) (w : World) (hn : l.length ≤ maxLen) (hA : Ints w .i64 w.heap.size A l) (hp : planOk key l) (hr : x < 0 ∨ l.length ≤ x) :
    Calls Tryz.prog 49 #[.agg (pA key A l.length cap), .int .i64 x] w fun e w' => e = .returned (.int .i64 (-1)) ∧ Below w.heap.size w w' := by
 have hl := hp.2.1.2
 have C := Lib.hid (fun w hA => specPlanOk_calls key A l cap w hn hA)
 have HA := Lib.hid (hA.boxed (.cells (pA key A l.length cap) 26))
 have HB := Lib.hid (CellsAt.new w 26 (pA key A l.length cap))
 have E := Lib.hid (fun w => l1In_no x 0 (l.length - 1) w (by omega))
 rw [okB_yes hp] at C
 clear hA hp hr
 go_enter Tryz.func49, Tryz.ntmps49
 go_wp2_with fail
 refine (C.out _ HA.out).mono ?_; rintro e w1 ⟨rfl, b1⟩
 have hb := HB.out.below b1 (by simp)
 have c0 : w1.cell? ⟨w.heap.size, 0, none⟩ = some (.int .i64 key) := hb.cell 0
 have c1 : w1.cell? ⟨w.heap.size, 1, none⟩ = some (.slice A l.length cap) := hb.cell 1
 have B1 := Lib.hid ((box_below w _).trans (b1.mono (by simp)))
 clear b1 hb
 go_wp2_with fail
 refine (E.out _).mono ?_; rintro e w2 ⟨rfl, rfl⟩
 go_wp2_with fail
 go_ret
 exact ⟨rfl, B1.out⟩
theorem specFirst_no (key x : Int) (A : Option Addr) (l : List Int) (cap : Nat) (w : World) (hn : l.length ≤ maxLen) (hA : Ints w .i64 w.heap.size A l) (hp : ¬ planOk key l) :
    Calls Tryz.prog 49 #[.agg (pA key A l.length cap), .int .i64 x] w fun e w' => e = .returned (.int .i64 (-1)) ∧ Below w.heap.size w w' := by
 have C := Lib.hid (fun w hA => specPlanOk_calls key A l cap w hn hA)
 have HA := Lib.hid (hA.boxed (.cells (pA key A l.length cap) 26))
 rw [okB_no hp] at C
 clear hA hp
 go_enter Tryz.func49, Tryz.ntmps49
 go_wp2_with fail
 refine (C.out _ HA.out).mono ?_; rintro e w1 ⟨rfl, b1⟩
 have B1 := Lib.hid ((box_below w _).trans (b1.mono (by simp)))
 clear b1
 go_wp2_with fail
 go_ret
 exact ⟨rfl, B1.out⟩
theorem specFirst_calls (key x : Int) (A : Option Addr) (l : List Int) (cap : Nat) (w : World) (hn : l.length ≤ maxLen) (hcap : l.length ≤ cap) (hA : Ints w .i64 w.heap.size A l) :
    Calls Tryz.prog 49 #[.agg (pA key A l.length cap), .int .i64 x] w fun e w' => e = .returned (.int .i64 (firstOf key l x)) ∧ Below w.heap.size w w' := by
 by_cases hp : planOk key l
 ·by_cases h : 0 ≤ x ∧ x < l.length
  ·obtain ⟨r, rfl⟩ : ∃ r : Nat, x = r := ⟨x.toNat, by omega⟩
   rw [firstOf_yes hp (by omega)]
   exact specFirst_yes key A l cap r w hn hcap hA hp (by omega)
  ·rw [firstOf_no (fun h' => h h'.2)]
   exact specFirst_out key x A l cap w hn hA hp (by omega)
 ·rw [firstOf_no (fun h' => hp h'.1)]
  exact specFirst_no key x A l cap w hn hA hp
/-! ### spec.RegionOf -/
def PlanS (b : World) (g : Nat) (cs : Array Value) (c : Addr) (x : Value) (w : World) : Prop :=
 Below b.heap.size b w ∧ CellsAt w g 26 cs ∧ c.block < w.heap.size ∧ w.cell? c = some x
theorem PlanS.cells {b : World} {g : Nat} {u v x : Value} {c : Addr} {w : World} (h : PlanS b g #[u, v] c x w) :
    (w.cell? ⟨g, 0, none⟩ = some u ∧ w.cell? ⟨g, 1, none⟩ = some v ∧ w.cell? c = some x) ∧ PlanS b g #[u, v] c x w := ⟨⟨h.2.1.cell 0, h.2.1.cell 1, h.2.2.2⟩, h⟩
theorem PlanS.keep {b : World} {g : Nat} {u v x : Value} {c : Addr} {w w' : World} (hb : Below w.heap.size w w')
    (h : (w.cell? ⟨g, 0, none⟩ = some u ∧ w.cell? ⟨g, 1, none⟩ = some v ∧ w.cell? c = some x) ∧ PlanS b g #[u, v] c x w) :
    (w'.cell? ⟨g, 0, none⟩ = some u ∧ w'.cell? ⟨g, 1, none⟩ = some v ∧ w'.cell? c = some x) ∧ PlanS b g #[u, v] c x w' :=
 PlanS.cells ⟨h.2.1.trans (hb.mono h.2.1.size), h.2.2.1.below hb h.2.2.1.lt, Nat.lt_of_lt_of_le h.2.2.2.1 hb.size, (hb.cell h.2.2.2.1).trans h.2.2.2.2⟩
theorem specRegion_no (key x : Int) (A : Option Addr) (l : List Int) (cap : Nat) (w : World) (hn : l.length ≤ maxLen) (hA : Ints w .i64 w.heap.size A l) (hp : ¬ planOk key l) :
    Calls Tryz.prog 82 #[.agg (pA key A l.length cap), .int .i64 x] w fun e w' => e = .returned (.int .i64 (-1)) ∧ Below w.heap.size w w' := by
 have C := Lib.hid (fun w hA => specPlanOk_calls key A l cap w hn hA)
 have HA := Lib.hid (hA.boxed (.cells (pA key A l.length cap) 26))
 rw [okB_no hp] at C
 clear hA hp
 go_enter Tryz.func82, Tryz.ntmps82
 go_wp2_with fail
 refine (C.out _ HA.out).mono ?_; rintro e w1 ⟨rfl, b1⟩
 have B1 := Lib.hid ((box_below w _).trans (b1.mono (by simp)))
 clear b1
 go_wp2_with fail
 go_ret
 exact ⟨rfl, B1.out⟩
theorem specRegion_neg (key x : Int) (A : Option Addr) (l : List Int) (cap : Nat) (w : World) (hn : l.length ≤ maxLen) (hA : Ints w .i64 w.heap.size A l) (hx : x < 0) :
    Calls Tryz.prog 82 #[.agg (pA key A l.length cap), .int .i64 x] w fun e w' => e = .returned (.int .i64 (-1)) ∧ Below w.heap.size w w' := by
 by_cases hp : planOk key l
 ·have C := Lib.hid (fun w hA => specPlanOk_calls key A l cap w hn hA)
  have HA := Lib.hid (hA.boxed (.cells (pA key A l.length cap) 26))
  rw [okB_yes hp] at C
  clear hA hp
  go_enter Tryz.func82, Tryz.ntmps82
  go_wp2_with fail
  refine (C.out _ HA.out).mono ?_; rintro e w1 ⟨rfl, b1⟩
  have B1 := Lib.hid ((box_below w _).trans (b1.mono (by simp)))
  clear b1
  go_wp2_with fail
  go_ret
  exact ⟨rfl, B1.out⟩
 ·exact specRegion_no key x A l cap w hn hA hp
set_option maxHeartbeats 1000000 in
theorem specRegion_yes (key x : Int) (A : Option Addr) (l : List Int) (cap : Nat) (w : World) (hn : l.length ≤ maxLen) (hcap : l.length ≤ cap) (hA : Ints w .i64 w.heap.size A l) (hp : planOk key l) (hx : 0 ≤ x) :
    Calls Tryz.prog 82 #[.agg (pA key A l.length cap), .int .i64 x] w fun e w' => (∃ r, e = .returned (.int .i64 r) ∧ IsRegion l x r) ∧ Below w.heap.size w w' := by
 have hl := hp.2.1.2
 have C := Lib.hid (fun w hA => specPlanOk_calls key A l cap w hn hA)
 have D := Lib.hid (fun w r hA hr => specFirst_yes key A l cap r w hn hcap hA hp hr)
 have HA := Lib.hid (hA.boxed (.cells (pA key A l.length cap) 26))
 have HB := Lib.hid (CellsAt.new w 26 (pA key A l.length cap))
 have HC := Lib.hid hp.2.2.1
 have hxn : ¬ x < 0 := by omega
 rw [okB_yes hp] at C
 clear hA hp
 go_enter Tryz.func82, Tryz.ntmps82
 go_wp2_with fail
 refine (C.out _ HA.out).mono ?_; rintro e w1 ⟨rfl, b1⟩
 have HB1 := Lib.hid (HB.out.below b1 (by simp))
 have HA1 := Lib.hid ((HA.out.below b1 (Nat.le_refl _)).more b1.size)
 have B1 := Lib.hid ((box_below w _).trans (b1.mono (by simp)))
 clear b1 C HA HB
 go_wp2_with fail
 go_loopw [5] (fun i wr => ∃ k : Nat, k ≤ l.length ∧ i = .int .i64 k ∧ upTo l k ≤ x ∧ Below w1.heap.size w1 wr) (fun i _ => l.length - (intOf i).toNat)
 case atStart => exact ⟨0, Nat.zero_le _, rfl, by rw [upTo_zero]; exact hx, Below.refl _ _⟩
 case round =>
  obtain ⟨k, hk, rfl, hux, hbel⟩ := hrel
  have HU := Lib.hid hux
  have HBr := Lib.hid (HB1.out.below hbel HB1.out.lt)
  have HAr := Lib.hid ((HA1.out.below hbel (Nat.le_refl _)).more hbel.size)
  have BR := Lib.hid hbel
  have c0 := HBr.out.cell 0
  have c1 := HBr.out.cell 1
  clear hux hbel
  by_cases hlt : k < l.length
  ·obtain ⟨b, off, rfl, hb, hv⟩ := HAr.out k hlt
   have hlt' : (k : Int) < l.length := by omega
   have hk0 : (0 : Int) ≤ k := by omega
   have HS := Lib.hid (upTo_succ l hlt)
   have hcv := HC.out k hlt
   have hu := upTo_bd HC.out hk
   have S0 := Lib.hid (show PlanS w1 w.heap.size (pA key (some ⟨b, off, none⟩) l.length cap) ⟨b, off + k, none⟩ (.int .i64 (l.getD k 0)) wr.drew from ⟨BR.out.drew, HBr.out.drew, hb, hv⟩)
   have DK := Lib.hid (fun u (hS : (u.cell? ⟨w.heap.size, 0, none⟩ = some (.int .i64 key) ∧ u.cell? ⟨w.heap.size, 1, none⟩ = some (.slice (some ⟨b, off, none⟩) l.length cap) ∧ u.cell? ⟨b, off + k, none⟩ = some (.int .i64 (l.getD k 0))) ∧ PlanS w1 w.heap.size (pA key (some ⟨b, off, none⟩) l.length cap) ⟨b, off + k, none⟩ (.int .i64 (l.getD k 0)) u) => D.out u k ((HA1.out.below hS.2.1 (Nat.le_refl _)).more hS.2.1.size) hlt)
   generalize l.getD k 0 = v at hv hcv HS S0 DK
   have HU0 := Lib.hid (show upTo l k ≤ x from HU.out)
   generalize hsu : upTo l k = s at HS hu HU DK
   clear hsu
   obtain ⟨v0, v1⟩ := hcv
   obtain ⟨u0, u1⟩ := hu
   clear D
   have hwr : IntKind.i64.wrap (s + v) = s + v := IntWalk.i64_in _ (by omega)
   by_cases hin : x < s + v
   ·go_wp2_with fail
    go_region_held3 (fun w' => (w'.cell? ⟨w.heap.size, 0, none⟩ = some (.int .i64 key) ∧ w'.cell? ⟨w.heap.size, 1, none⟩ = some (.slice (some ⟨b, off, none⟩) l.length cap) ∧ w'.cell? ⟨b, off + k, none⟩ = some (.int .i64 v)) ∧ PlanS w1 w.heap.size (pA key (some ⟨b, off, none⟩) l.length cap) ⟨b, off + k, none⟩ (.int .i64 v) w')
     (first | exact PlanS.keep ‹Below _ _ _› ‹_› | exact PlanS.cells S0.out)
     (first | (go_at_call 49; refine (DK.out _ ‹_›).mono ?_; rintro e wx ⟨rfl, bx⟩))
    all_goals
     obtain ⟨-, SX⟩ := ‹_ ∧ PlanS _ _ _ _ _ _›
     have BX := Lib.hid SX.1
     have HI := Lib.hid (show x < upTo l (k + 1) by rw [HS.out]; exact hin)
     have HV := Lib.hid (show upTo l k ≤ x from HU0.out)
     clear SX
     go_wp2_with fail
     go_ret
     exact ⟨⟨_, rfl, .inl ⟨k, hlt, rfl, HV.out, HI.out⟩⟩, B1.out.trans (BX.out.mono B1.out.size)⟩
   ·go_wp2_with fail
    go_region_held3 (fun w' => (w'.cell? ⟨w.heap.size, 0, none⟩ = some (.int .i64 key) ∧ w'.cell? ⟨w.heap.size, 1, none⟩ = some (.slice (some ⟨b, off, none⟩) l.length cap) ∧ w'.cell? ⟨b, off + k, none⟩ = some (.int .i64 v)) ∧ PlanS w1 w.heap.size (pA key (some ⟨b, off, none⟩) l.length cap) ⟨b, off + k, none⟩ (.int .i64 v) w')
     (first | exact PlanS.keep ‹Below _ _ _› ‹_› | exact PlanS.cells S0.out)
     (first | (go_at_call 49; refine (DK.out _ ‹_›).mono ?_; rintro e wx ⟨rfl, bx⟩))
    all_goals
     obtain ⟨-, SX⟩ := ‹_ ∧ PlanS _ _ _ _ _ _›
     have BX := Lib.hid SX.1
     have HI := Lib.hid (show upTo l (k + 1) ≤ x by rw [HS.out]; omega)
     clear SX
     go_wp2_with fail
     go_roundw
     case rel => exact ⟨k + 1, by omega, by go_num, HI.out, BX.out⟩
     case measure => simp [intOf]; omega
  ·obtain rfl : k = l.length := by omega
   go_wp2_with fail
   go_ret
   exact ⟨⟨_, rfl, .inr ⟨rfl, HU.out⟩⟩, B1.out.trans (BR.out.mono B1.out.size)⟩
theorem specRegion_calls (key x : Int) (A : Option Addr) (l : List Int) (cap : Nat) (w : World) (hn : l.length ≤ maxLen) (hcap : l.length ≤ cap) (hA : Ints w .i64 w.heap.size A l) :
    Calls Tryz.prog 82 #[.agg (pA key A l.length cap), .int .i64 x] w fun e w' => e = .returned (.int .i64 (regionOf key l x)) ∧ Below w.heap.size w w' := by
 by_cases hp : planOk key l
 ·by_cases h0 : x < 0
  ·rw [regionOf_no (by omega)]; exact specRegion_neg key x A l cap w hn hA h0
  ·refine (specRegion_yes key x A l cap w hn hcap hA hp (by omega)).mono ?_
   rintro e w' ⟨⟨r, rfl, hr⟩, hb⟩
   rw [regionOf_yes hp (by omega) hr]
   exact ⟨rfl, hb⟩
 ·rw [regionOf_no (fun h => hp h.1)]; exact specRegion_no key x A l cap w hn hA hp
end Go.Proofs.YtjbnknccnhdapaaGreat.Mx

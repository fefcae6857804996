import Derived.Test.YteopplldbcgjjaaGreatDoorH05
import Derived.Test.YteopplldbcgjjaaGreatDoorH04
import Derived.Test.YteopplldbcgjjaaGreatDoorH01
import Derived.Deep.RegionHeld3
import Derived.Deep.CutRange
namespace Go.Proofs.YteopplldbcgjjaaGreatDoor.Mx
open Go.ChangeShapes Go.WideShapes Go.ChangeAt Go.RowKit
set_option linter.unusedVariables false
open Go.Lib (hid)
set_option maxHeartbeats 64000000
theorem upTo_take (l : List Int) (r : Nat) : upTo (l.take r) (l.take r).length = upTo l r := by unfold upTo; rw [List.take_length]
theorem CountsOk.take {l : List Int} (h : CountsOk l) (r : Nat) : CountsOk (l.take r) := by
 intro i hi
 rw [List.length_take] at hi
 rw [List.getD_eq_getElem?_getD, List.getElem?_take_of_lt (by omega), ← List.getD_eq_getElem?_getD]
 exact h i (by omega)
theorem l5Sum_take (A : Option Addr) (l : List Int) (cap B r : Nat) (w : World) (hl : l.length ≤ 4) (hr : r ≤ l.length) (hA : Ints w .i64 B A l) (hc : CountsOk l) :
    Calls Tryz.prog 98 #[.slice A r cap] w fun e w' => e = .returned (.int .i64 (upTo l r)) ∧ w = w' := by
 have h := l5Sum_calls A (l.take r) cap B w (by rw [List.length_take]; omega) (hA.take r) (hc.take r)
 rw [upTo_take, List.length_take, Nat.min_eq_left hr] at h
 exact h
theorem specFirst_yes (key : Int) (A : Option Addr) (l : List Int) (cap r : Nat) (w : World) (hn : l.length ≤ maxLen) (hcap : l.length ≤ cap) (hA : Ints w .i64 w.heap.size A l) (hp : planOk key l) (hr : r < l.length) :
    Calls Tryz.prog 57 #[.agg (pA key A l.length cap), .int .i64 r] w fun e w' => e = .returned (.int .i64 (upTo l r)) ∧ Below w.heap.size w w' := by
 have hl := hp.2.1.2
 have C := hid (fun w hA => specPlanOk_calls key A l cap w hn hA)
 have HA := hid (hA.boxed (.cells (pA key A l.length cap) 26))
 have HB := hid (CellsAt.new w 26 (pA key A l.length cap))
 have D := hid (fun B w hA => l5Sum_take A l cap B r w hp.2.1.2 (by omega) hA hp.2.2.1)
 have E := hid (fun w => l1In_yes r 0 (l.length - 1) w (by omega) (by omega))
 rw [okB_yes hp] at C
 obtain ⟨b0, off0, rfl, hb0, _⟩ := hA 0 (by omega)
 clear hA hp
 go_enter Tryz.func57, Tryz.ntmps57
 go_wp2_with fail
 refine (C.out _ HA.out).mono ?_; rintro e w1 ⟨rfl, b1⟩
 have hb := HB.out.below b1 (by simp)
 have c0 : w1.cell? ⟨w.heap.size, 0, none⟩ = some (.int .i64 key) := hb.cell 0
 have c1 : w1.cell? ⟨w.heap.size, 1, none⟩ = some (.slice (some ⟨b0, off0, none⟩) l.length cap) := hb.cell 1
 have H1 := hid ((HA.out.below b1 (Nat.le_refl _)).more b1.size)
 have B1 := hid ((box_below w _).trans (b1.mono (by simp)))
 clear b1 hb
 go_wp2_with fail
 refine (E.out _).mono ?_; rintro e w2 ⟨rfl, rfl⟩
 go_wp2_with fail
 refine (D.out _ _ H1.out).mono ?_; rintro e w2 ⟨rfl, rfl⟩
 go_wp2_with fail
 go_ret
 exact ⟨rfl, B1.out⟩
theorem specFirst_out (key x : Int) (A : Option Addr) (l : List Int) (cap : Nat) (w : World) (hn : l.length ≤ maxLen) (hA : Ints w .i64 w.heap.size A l) (hp : planOk key l) (hr : x < 0 ∨ l.length ≤ x) :
    Calls Tryz.prog 57 #[.agg (pA key A l.length cap), .int .i64 x] w fun e w' => e = .returned (.int .i64 (-1)) ∧ Below w.heap.size w w' := by
 have hl := hp.2.1.2
 have C := hid (fun w hA => specPlanOk_calls key A l cap w hn hA)
 have HA := hid (hA.boxed (.cells (pA key A l.length cap) 26))
 have HB := hid (CellsAt.new w 26 (pA key A l.length cap))
 have E := hid (fun w => l1In_no x 0 (l.length - 1) w (by omega))
 rw [okB_yes hp] at C
 clear hA hp hr
 go_enter Tryz.func57, Tryz.ntmps57
 go_wp2_with fail
 refine (C.out _ HA.out).mono ?_; rintro e w1 ⟨rfl, b1⟩
 have hb := HB.out.below b1 (by simp)
 have c0 : w1.cell? ⟨w.heap.size, 0, none⟩ = some (.int .i64 key) := hb.cell 0
 have c1 : w1.cell? ⟨w.heap.size, 1, none⟩ = some (.slice A l.length cap) := hb.cell 1
 have B1 := hid ((box_below w _).trans (b1.mono (by simp)))
 clear b1 hb
 go_wp2_with fail
 refine (E.out _).mono ?_; rintro e w2 ⟨rfl, rfl⟩
 go_wp2_with fail
 go_ret
 exact ⟨rfl, B1.out⟩
theorem specFirst_no (key x : Int) (A : Option Addr) (l : List Int) (cap : Nat) (w : World) (hn : l.length ≤ maxLen) (hA : Ints w .i64 w.heap.size A l) (hp : ¬ planOk key l) :
    Calls Tryz.prog 57 #[.agg (pA key A l.length cap), .int .i64 x] w fun e w' => e = .returned (.int .i64 (-1)) ∧ Below w.heap.size w w' := by
 have C := hid (fun w hA => specPlanOk_calls key A l cap w hn hA)
 have HA := hid (hA.boxed (.cells (pA key A l.length cap) 26))
 rw [okB_no hp] at C
 clear hA hp
 go_enter Tryz.func57, Tryz.ntmps57
 go_wp2_with fail
 refine (C.out _ HA.out).mono ?_; rintro e w1 ⟨rfl, b1⟩
 have B1 := hid ((box_below w _).trans (b1.mono (by simp)))
 clear b1
 go_wp2_with fail
 go_ret
 exact ⟨rfl, B1.out⟩
theorem specFirst_calls (key x : Int) (A : Option Addr) (l : List Int) (cap : Nat) (w : World) (hn : l.length ≤ maxLen) (hcap : l.length ≤ cap) (hA : Ints w .i64 w.heap.size A l) :
    Calls Tryz.prog 57 #[.agg (pA key A l.length cap), .int .i64 x] w fun e w' => e = .returned (.int .i64 (firstOf key l x)) ∧ Below w.heap.size w w' := by
 by_cases hp : planOk key l
 ·by_cases h : 0 ≤ x ∧ x < l.length
  ·obtain ⟨r, rfl⟩ : ∃ r : Nat, x = r := ⟨x.toNat, by omega⟩
   rw [firstOf_yes hp (by omega)]
   exact specFirst_yes key A l cap r w hn hcap hA hp (by omega)
  ·rw [firstOf_no (fun h' => h h'.2)]
   exact specFirst_out key x A l cap w hn hA hp (by omega)
 ·rw [firstOf_no (fun h' => hp h'.1)]
  exact specFirst_no key x A l cap w hn hA hp
/-! ### spec.RegionOf -/
def PlanS (b : World) (g : Nat) (cs : Array Value) (c : Addr) (x : Value) (w : World) : Prop :=
 Below b.heap.size b w ∧ CellsAt w g 26 cs ∧ c.block < w.heap.size ∧ w.cell? c = some x
theorem PlanS.cells {b : World} {g : Nat} {u v x : Value} {c : Addr} {w : World} (h : PlanS b g #[u, v] c x w) :
    (w.cell? ⟨g, 0, none⟩ = some u ∧ w.cell? ⟨g, 1, none⟩ = some v ∧ w.cell? c = some x) ∧ PlanS b g #[u, v] c x w := ⟨⟨h.2.1.cell 0, h.2.1.cell 1, h.2.2.2⟩, h⟩
theorem PlanS.keep {b : World} {g : Nat} {u v x : Value} {c : Addr} {w w' : World} (hb : Below w.heap.size w w')
    (h : (w.cell? ⟨g, 0, none⟩ = some u ∧ w.cell? ⟨g, 1, none⟩ = some v ∧ w.cell? c = some x) ∧ PlanS b g #[u, v] c x w) :
    (w'.cell? ⟨g, 0, none⟩ = some u ∧ w'.cell? ⟨g, 1, none⟩ = some v ∧ w'.cell? c = some x) ∧ PlanS b g #[u, v] c x w' :=
 PlanS.cells ⟨h.2.1.trans (hb.mono h.2.1.size), h.2.2.1.below hb h.2.2.1.lt, Nat.lt_of_lt_of_le h.2.2.2.1 hb.size, (hb.cell h.2.2.2.1).trans h.2.2.2.2⟩
theorem specRegion_no (key x : Int) (A : Option Addr) (l : List Int) (cap : Nat) (w : World) (hn : l.length ≤ maxLen) (hA : Ints w .i64 w.heap.size A l) (hp : ¬ planOk key l) :
    Calls Tryz.prog 39 #[.agg (pA key A l.length cap), .int .i64 x] w fun e w' => e = .returned (.int .i64 (-1)) ∧ Below w.heap.size w w' := by
 have C := hid (fun w hA => specPlanOk_calls key A l cap w hn hA)
 have HA := hid (hA.boxed (.cells (pA key A l.length cap) 26))
 rw [okB_no hp] at C
 clear hA hp
 go_enter Tryz.func39, Tryz.ntmps39
 go_wp2_with fail
 refine (C.out _ HA.out).mono ?_; rintro e w1 ⟨rfl, b1⟩
 have B1 := hid ((box_below w _).trans (b1.mono (by simp)))
 clear b1
 go_wp2_with fail
 go_ret
 exact ⟨rfl, B1.out⟩
theorem specRegion_neg (key x : Int) (A : Option Addr) (l : List Int) (cap : Nat) (w : World) (hn : l.length ≤ maxLen) (hA : Ints w .i64 w.heap.size A l) (hx : x < 0) :
    Calls Tryz.prog 39 #[.agg (pA key A l.length cap), .int .i64 x] w fun e w' => e = .returned (.int .i64 (-1)) ∧ Below w.heap.size w w' := by
 by_cases hp : planOk key l
 ·have C := hid (fun w hA => specPlanOk_calls key A l cap w hn hA)
  have HA := hid (hA.boxed (.cells (pA key A l.length cap) 26))
  rw [okB_yes hp] at C
  clear hA hp
  go_enter Tryz.func39, Tryz.ntmps39
  go_wp2_with fail
  refine (C.out _ HA.out).mono ?_; rintro e w1 ⟨rfl, b1⟩
  have B1 := hid ((box_below w _).trans (b1.mono (by simp)))
  clear b1
  go_wp2_with fail
  go_ret
  exact ⟨rfl, B1.out⟩
 ·exact specRegion_no key x A l cap w hn hA hp
theorem specRegion_yes (key x : Int) (A : Option Addr) (l : List Int) (cap : Nat) (w : World) (hn : l.length ≤ maxLen) (hcap : l.length ≤ cap) (hA : Ints w .i64 w.heap.size A l) (hp : planOk key l) (hx : 0 ≤ x) :
    Calls Tryz.prog 39 #[.agg (pA key A l.length cap), .int .i64 x] w fun e w' => (∃ r, e = .returned (.int .i64 r) ∧ IsRegion l x r) ∧ Below w.heap.size w w' := by
 have hl := hp.2.1.2
 have C := hid (fun w hA => specPlanOk_calls key A l cap w hn hA)
 have D := hid (fun w r hA hr => specFirst_yes key A l cap r w hn hcap hA hp hr)
 have HA := hid (hA.boxed (.cells (pA key A l.length cap) 26))
 have HB := hid (CellsAt.new w 26 (pA key A l.length cap))
 have HC := hid hp.2.2.1
 have hxn : ¬ x < 0 := by omega
 rw [okB_yes hp] at C
 clear hA hp
 go_enter Tryz.func39, Tryz.ntmps39
 go_wp2_with fail
 refine (C.out _ HA.out).mono ?_; rintro e w1 ⟨rfl, b1⟩
 have HB1 := hid (HB.out.below b1 (by simp))
 have HA1 := hid ((HA.out.below b1 (Nat.le_refl _)).more b1.size)
 have B1 := hid ((box_below w _).trans (b1.mono (by simp)))
 clear b1 C HA HB
 go_wp2_with fail
 go_loopw [5] (fun i wr => ∃ k : Nat, k ≤ l.length ∧ i = .int .i64 k ∧ upTo l k ≤ x ∧ Below w1.heap.size w1 wr) (fun i _ => l.length - (intOf i).toNat)
 case atStart => exact ⟨0, Nat.zero_le _, rfl, by rw [upTo_zero]; exact hx, Below.refl _ _⟩
 case round =>
  obtain ⟨k, hk, rfl, hux, hbel⟩ := hrel
  have HU := hid hux
  have HBr := hid (HB1.out.below hbel HB1.out.lt)
  have HAr := hid ((HA1.out.below hbel (Nat.le_refl _)).more hbel.size)
  have BR := hid hbel
  have c0 := HBr.out.cell 0
  have c1 := HBr.out.cell 1
  clear hux hbel
  by_cases hlt : k < l.length
  ·obtain ⟨b, off, rfl, hb, hv⟩ := HAr.out k hlt
   have hlt' : (k : Int) < l.length := by omega
   have hk0 : (0 : Int) ≤ k := by omega
   have HS := hid (upTo_succ l hlt)
   have hcv := HC.out k hlt
   have hu := upTo_bd HC.out hk
   have S0 := hid (show PlanS w1 w.heap.size (pA key (some ⟨b, off, none⟩) l.length cap) ⟨b, off + k, none⟩ (.int .i64 (l.getD k 0)) wr.drew from ⟨BR.out.drew, HBr.out.drew, hb, hv⟩)
   have DK := hid (fun u (hS : (u.cell? ⟨w.heap.size, 0, none⟩ = some (.int .i64 key) ∧ u.cell? ⟨w.heap.size, 1, none⟩ = some (.slice (some ⟨b, off, none⟩) l.length cap) ∧ u.cell? ⟨b, off + k, none⟩ = some (.int .i64 (l.getD k 0))) ∧ PlanS w1 w.heap.size (pA key (some ⟨b, off, none⟩) l.length cap) ⟨b, off + k, none⟩ (.int .i64 (l.getD k 0)) u) => D.out u k ((HA1.out.below hS.2.1 (Nat.le_refl _)).more hS.2.1.size) hlt)
   generalize l.getD k 0 = v at hv hcv HS S0 DK
   have HU0 := hid (show upTo l k ≤ x from HU.out)
   generalize hsu : upTo l k = s at HS hu HU DK
   clear hsu
   obtain ⟨v0, v1⟩ := hcv
   obtain ⟨u0, u1⟩ := hu
   clear D
   have hwr : IntKind.i64.wrap (s + v) = s + v := IntWalk.i64_in _ (by omega)
   by_cases hin : x < s + v
   ·go_wp2_with fail
    go_region_held3 (fun w' => (w'.cell? ⟨w.heap.size, 0, none⟩ = some (.int .i64 key) ∧ w'.cell? ⟨w.heap.size, 1, none⟩ = some (.slice (some ⟨b, off, none⟩) l.length cap) ∧ w'.cell? ⟨b, off + k, none⟩ = some (.int .i64 v)) ∧ PlanS w1 w.heap.size (pA key (some ⟨b, off, none⟩) l.length cap) ⟨b, off + k, none⟩ (.int .i64 v) w')
     (first | exact PlanS.keep ‹Below _ _ _› ‹_› | exact PlanS.cells S0.out)
     (first | (go_at_call 57; refine (DK.out _ ‹_›).mono ?_; rintro e wx ⟨rfl, bx⟩))
    all_goals
     obtain ⟨-, SX⟩ := ‹_ ∧ PlanS _ _ _ _ _ _›
     have BX := hid SX.1
     have HI := hid (show x < upTo l (k + 1) by rw [HS.out]; exact hin)
     have HV := hid (show upTo l k ≤ x from HU0.out)
     clear SX
     go_wp2_with fail
     go_ret
     exact ⟨⟨_, rfl, .inl ⟨k, hlt, rfl, HV.out, HI.out⟩⟩, B1.out.trans (BX.out.mono B1.out.size)⟩
   ·go_wp2_with fail
    go_region_held3 (fun w' => (w'.cell? ⟨w.heap.size, 0, none⟩ = some (.int .i64 key) ∧ w'.cell? ⟨w.heap.size, 1, none⟩ = some (.slice (some ⟨b, off, none⟩) l.length cap) ∧ w'.cell? ⟨b, off + k, none⟩ = some (.int .i64 v)) ∧ PlanS w1 w.heap.size (pA key (some ⟨b, off, none⟩) l.length cap) ⟨b, off + k, none⟩ (.int .i64 v) w')
     (first | exact PlanS.keep ‹Below _ _ _› ‹_› | exact PlanS.cells S0.out)
     (first | (go_at_call 57; refine (DK.out _ ‹_›).mono ?_; rintro e wx ⟨rfl, bx⟩))
    all_goals
     obtain ⟨-, SX⟩ := ‹_ ∧ PlanS _ _ _ _ _ _›
     have BX := hid SX.1
     have HI := hid (show upTo l (k + 1) ≤ x by rw [HS.out]; omega)
     clear SX
     go_wp2_with fail
     go_roundw
     case rel => exact ⟨k + 1, by omega, by go_num, HI.out, BX.out⟩
     case measure => simp [intOf]; omega
  ·obtain rfl : k = l.length := by omega
   go_wp2_with fail
   go_ret
   exact ⟨⟨_, rfl, .inr ⟨rfl, HU.out⟩⟩, B1.out.trans (BR.out.mono B1.out.size)⟩
theorem specRegion_calls (key x : Int) (A : Option Addr) (l : List Int) (cap : Nat) (w : World) (hn : l.length ≤ maxLen) (hcap : l.length ≤ cap) (hA : Ints w .i64 w.heap.size A l) :
    Calls Tryz.prog 39 #[.agg (pA key A l.length cap), .int .i64 x] w fun e w' => e = .returned (.int .i64 (regionOf key l x)) ∧ Below w.heap.size w w' := by
 by_cases hp : planOk key l
 ·by_cases h0 : x < 0
  ·rw [regionOf_no (by omega)]; exact specRegion_neg key x A l cap w hn hA h0
  ·refine (specRegion_yes key x A l cap w hn hcap hA hp (by omega)).mono ?_
   rintro e w' ⟨⟨r, rfl, hr⟩, hb⟩
   rw [regionOf_yes hp (by omega) hr]
   exact ⟨rfl, hb⟩
 ·rw [regionOf_no (fun h => hp h.1)]; exact specRegion_no key x A l cap w hn hA hp
structure Tru where
 clock : Int
 epoch : Int
 cursor : Int
 read : Int
 written : Int
 nread : Int
 nwritten : Int
 failed : Bool
abbrev tR (t : Tru) : Array Value := #[.int .i64 t.clock, .int .i64 t.epoch, .int .i64 t.cursor, .int .i64 t.read, .int .i64 t.written, .int .i64 t.nread, .int .i64 t.nwritten, .bool t.failed]
def isSumP (s : Int) : Prop := 0 ≤ s ∧ s ≤ 4611686018427387903
instance (s : Int) : Decidable (isSumP s) := inferInstanceAs (Decidable (_ ∧ _))
def trustOk (key : Int) (l : List Int) (r : Int) (t : Tru) : Prop :=
 planOk key l ∧ (0 ≤ r ∧ r < l.length) ∧ isTm t.clock ∧ (0 ≤ t.epoch ∧ t.epoch ≤ 1000) ∧ (0 ≤ t.cursor ∧ t.cursor ≤ l.getD r.toNat 0 - 1) ∧
 (t.cursor = 0 → t.nread = 0 ∧ t.nwritten = 0) ∧ isSumP t.read ∧ isSumP t.written ∧ isSumP t.nread ∧ isSumP t.nwritten
open Classical in
noncomputable def trustB (key : Int) (l : List Int) (r : Int) (t : Tru) : Bool := decide (trustOk key l r t)
open Classical in
theorem trustB_yes {key : Int} {l : List Int} {r : Int} {t : Tru} (h : trustOk key l r t) : trustB key l r t = true := by unfold trustB; exact decide_eq_true h
open Classical in
theorem trustB_no {key : Int} {l : List Int} {r : Int} {t : Tru} (h : ¬ trustOk key l r t) : trustB key l r t = false := by unfold trustB; exact decide_eq_false h
def InB (s lo hi : Int) (z : Bool) : Prop := z = decide (lo ≤ s ∧ s ≤ hi)
theorem InB.yes {s lo hi : Int} (h0 : lo ≤ s) (h1 : s ≤ hi) : InB s lo hi true := (decide_eq_true ⟨h0, h1⟩).symm
theorem InB.no {s lo hi : Int} (h : ¬ (lo ≤ s ∧ s ≤ hi)) : InB s lo hi false := (decide_eq_false h).symm
theorem l1In_b (s lo hi : Int) (z : Bool) (w : World) (h : InB s lo hi z) :
    Calls Tryz.prog 76 #[.int .i64 s, .int .i64 lo, .int .i64 hi] w fun e w' => e = .returned (.bool z) ∧ w = w' := by
 unfold InB at h
 subst h
 by_cases hc : lo ≤ s ∧ s ≤ hi
 ·rw [decide_eq_true hc]; exact l1In_yes s lo hi w hc.1 hc.2
 ·rw [decide_eq_false hc]; exact l1In_no s lo hi w (by omega)
def TmB (s : Int) (z : Bool) : Prop := z = decide (isTm s)
theorem TmB.yes {s : Int} (h : isTm s) : TmB s true := (decide_eq_true h).symm
theorem TmB.no {s : Int} (h : ¬ isTm s) : TmB s false := (decide_eq_false h).symm
theorem l3Time_b (s : Int) (z : Bool) (w : World) (h : TmB s z) :
    Calls Tryz.prog 77 #[.int .i64 s] w fun e w' => e = .returned (.bool z) ∧ w = w' := by
 unfold TmB at h
 subst h
 by_cases hc : isTm s
 ·rw [decide_eq_true hc]; exact l3Time_yes s w hc
 ·rw [decide_eq_false hc]; exact l3Time_no s w hc
def SumB (s : Int) (z : Bool) : Prop := z = decide (isSumP s)
theorem SumB.yes {s : Int} (h : isSumP s) : SumB s true := (decide_eq_true h).symm
theorem SumB.no {s : Int} (h : ¬ isSumP s) : SumB s false := (decide_eq_false h).symm
theorem l7Sum_b (s : Int) (z : Bool) (w : World) (h : SumB s z) :
    Calls Tryz.prog 78 #[.int .i64 s] w fun e w' => e = .returned (.bool z) ∧ w = w' := by
 have C := hid (fun w => l1In_b s 0 4611686018427387903 z w h)
 clear h
 go_enter Tryz.func78, Tryz.ntmps78
 go_wp2_with fail
 refine (C.out _).mono ?_; rintro e w' ⟨rfl, rfl⟩
 go_wp2_with fail
 go_ret
 exact ⟨rfl, rfl⟩
def TrS (b : World) (p q : Nat) (cs ds : Array Value) (c : Addr) (x : Value) (w : World) : Prop :=
 Below b.heap.size b w ∧ CellsAt w p 26 cs ∧ CellsAt w q 28 ds ∧ c.block < w.heap.size ∧ w.cell? c = some x
section
variable {b w w' : World} {p q : Nat} {u v x0 x1 x2 x3 x4 x5 x6 x7 x : Value} {c : Addr}
theorem TrS.cells (h : TrS b p q #[u, v] #[x0, x1, x2, x3, x4, x5, x6, x7] c x w) :
    (w.cell? ⟨p, 0, none⟩ = some u ∧ w.cell? ⟨p, 1, none⟩ = some v ∧ w.cell? ⟨q, 0, none⟩ = some x0 ∧ w.cell? ⟨q, 1, none⟩ = some x1 ∧ w.cell? ⟨q, 2, none⟩ = some x2 ∧ w.cell? c = some x) ∧ TrS b p q #[u, v] #[x0, x1, x2, x3, x4, x5, x6, x7] c x w :=
 ⟨⟨h.2.1.cell 0, h.2.1.cell 1, h.2.2.1.cell 0, h.2.2.1.cell 1, h.2.2.1.cell 2, h.2.2.2.2⟩, h⟩
theorem TrS.keep (hb : Below w.heap.size w w')
    (h : (w.cell? ⟨p, 0, none⟩ = some u ∧ w.cell? ⟨p, 1, none⟩ = some v ∧ w.cell? ⟨q, 0, none⟩ = some x0 ∧ w.cell? ⟨q, 1, none⟩ = some x1 ∧ w.cell? ⟨q, 2, none⟩ = some x2 ∧ w.cell? c = some x) ∧ TrS b p q #[u, v] #[x0, x1, x2, x3, x4, x5, x6, x7] c x w) :
    (w'.cell? ⟨p, 0, none⟩ = some u ∧ w'.cell? ⟨p, 1, none⟩ = some v ∧ w'.cell? ⟨q, 0, none⟩ = some x0 ∧ w'.cell? ⟨q, 1, none⟩ = some x1 ∧ w'.cell? ⟨q, 2, none⟩ = some x2 ∧ w'.cell? c = some x) ∧ TrS b p q #[u, v] #[x0, x1, x2, x3, x4, x5, x6, x7] c x w' :=
 TrS.cells ⟨h.2.1.trans (hb.mono h.2.1.size), h.2.2.1.below hb h.2.2.1.lt, h.2.2.2.1.below hb h.2.2.2.1.lt, Nat.lt_of_lt_of_le h.2.2.2.2.1 hb.size, (hb.cell h.2.2.2.2.1).trans h.2.2.2.2.2⟩
end
set_option maxRecDepth 20000 in
theorem specTrustOk_calls (key x : Int) (A : Option Addr) (l : List Int) (cap : Nat) (t0 t1 t2 t3 t4 t5 t6 : Int) (t7 : Bool) (w : World) (hn : l.length ≤ maxLen) (hA : Ints w .i64 w.heap.size A l) :
    Calls Tryz.prog 40 #[.agg (pA key A l.length cap), .int .i64 x, .agg (tA t0 t1 t2 t3 t4 t5 t6 t7)] w fun e w' => e = .returned (.bool (trustB key l x ⟨t0, t1, t2, t3, t4, t5, t6, t7⟩)) ∧ Below w.heap.size w w' := by
 have hm := hn
 unfold maxLen at hm
 have b0 : Below w.heap.size w ((w.alloc (.cells (pA key A l.length cap) 26)).alloc (.cells (tA t0 t1 t2 t3 t4 t5 t6 t7) 28)) := ((Below.refl w.heap.size w).alloc (Nat.le_refl _) _).alloc (by simp) _
 have kp : CellsAt ((w.alloc (.cells (pA key A l.length cap) 26)).alloc (.cells (tA t0 t1 t2 t3 t4 t5 t6 t7) 28)) w.heap.size 26 (pA key A l.length cap) := CellsAt.grown (CellsAt.new w _ _) (World.grownBy_alloc _ _ none) (by simp)
 have kq : CellsAt ((w.alloc (.cells (pA key A l.length cap) 26)).alloc (.cells (tA t0 t1 t2 t3 t4 t5 t6 t7) 28)) (w.heap.size + 1) 28 (tA t0 t1 t2 t3 t4 t5 t6 t7) := by
  have h := CellsAt.new (w.alloc (.cells (pA key A l.length cap) 26)) 28 (tA t0 t1 t2 t3 t4 t5 t6 t7)
  rwa [show (w.alloc (.cells (pA key A l.length cap) 26)).heap.size = w.heap.size + 1 by simp] at h
 have HA := hid hA
 have PO := hid (fun (u : World) (hb : Below w.heap.size w u) => specPlanOk_calls key A l cap u hn ((hA.below hb (Nat.le_refl _)).more hb.size))
 have EI := hid (fun (s lo hi : Int) (z : Bool) (h : InB s lo hi z) (u : World) => l1In_b s lo hi z u h)
 have ET := hid (fun (s : Int) (z : Bool) (h : TmB s z) (u : World) => l3Time_b s z u h)
 have T0 := hid (show TrS w w.heap.size (w.heap.size + 1) (pA key A l.length cap) (tA t0 t1 t2 t3 t4 t5 t6 t7) ⟨w.heap.size, 0, none⟩ (.int .i64 key) ((w.alloc (.cells (pA key A l.length cap) 26)).alloc (.cells (tA t0 t1 t2 t3 t4 t5 t6 t7) 28)).drew from ⟨b0.drew, kp.drew, kq.drew, by simp; omega, kp.cell 0⟩)
 have TF := hid (fun (hb : Below w.heap.size w ((w.alloc (.cells (pA key A l.length cap) 26)).alloc (.cells (tA t0 t1 t2 t3 t4 t5 t6 t7) 28))) => (show ∀ (bb oo : Nat) (z : Int), A = some ⟨bb, oo, none⟩ → bb < w.heap.size → w.cell? ⟨bb, oo + x.toNat, none⟩ = some (.int .i64 z) → TrS w w.heap.size (w.heap.size + 1) (pA key A l.length cap) (tA t0 t1 t2 t3 t4 t5 t6 t7) ⟨bb, oo + x.toNat, none⟩ (.int .i64 z) ((w.alloc (.cells (pA key A l.length cap) 26)).alloc (.cells (tA t0 t1 t2 t3 t4 t5 t6 t7) 28)).drew from
  fun bb oo z _ hlt hc => ⟨hb.drew, kp.drew, kq.drew, by simp; omega, (hb.cell (p := ⟨bb, oo + x.toNat, none⟩) hlt).trans hc⟩))
 have B0 := hid b0
 have hwl : IntKind.i64.wrap ((l.length : Int) - 1) = l.length - 1 := IntWalk.i64_in _ (by omega)
 clear hA hn b0 kp kq
 go_enter Tryz.func40, Tryz.ntmps40
 go_upto_region 1 with fail
 go_cut [42] from 7 (fun s u => ∃ z : Bool, s = .bool z ∧ (z = false ↔ (planOk key l ∧ (0 ≤ x ∧ x < l.length) ∧ isTm t0 ∧ (0 ≤ t1 ∧ t1 ≤ 1000) ∧ 0 ≤ t2 ∧ t2 ≤ l.getD x.toNat 0 - 1)) ∧ Below w.heap.size w u ∧ CellsAt u (w.heap.size + 1) 28 (tA t0 t1 t2 t3 t4 t5 t6 t7))
 case first =>
  by_cases hp : planOk key l
  ·by_cases hx : 0 ≤ x ∧ x < l.length
   ·obtain ⟨r, rfl⟩ : ∃ r : Nat, x = r := ⟨x.toNat, by omega⟩
    have hr : r < l.length := by omega
    have hr' : (r : Int) < l.length := by omega
    have hr0 : (0 : Int) ≤ r := by omega
    obtain ⟨bb, oo, rfl, hbb, hcc⟩ := HA.out r hr
    have hv := hp.2.2.1 r hr
    have T1 := hid (TF.out B0.out bb oo (l.getD r 0) rfl hbb (by simpa using hcc))
    rw [show ((r : Int)).toNat = r by simp] at T1
    have hi : InB r 0 (l.length - 1) true := InB.yes (by omega) (by omega)
    obtain ⟨v, hvv⟩ : ∃ v, v = l.getD r 0 := ⟨_, rfl⟩
    rw [← hvv] at hcc hv T1
    have HV := hid (show l.getD ((r : Int)).toNat 0 = v by rw [hvv]; simp)
    clear hvv
    obtain ⟨v0, v1⟩ := hv
    have hwv : IntKind.i64.wrap (v - 1) = v - 1 := IntWalk.i64_in _ (by omega)
    by_cases h0 : isTm t0
    ·have g0 : TmB t0 true := TmB.yes h0
     by_cases h1 : 0 ≤ t1 ∧ t1 ≤ 1000
     ·have g1 : InB t1 0 1000 true := InB.yes h1.1 h1.2
      by_cases h2 : 0 ≤ t2 ∧ t2 ≤ v - 1
      ·have g2 : InB t2 0 (v - 1) true := InB.yes h2.1 h2.2
       have P1 := hid (fun (u : World) (h : TrS w w.heap.size (w.heap.size + 1) (pA key (some ⟨bb, oo, none⟩) l.length cap) (tA t0 t1 t2 t3 t4 t5 t6 t7) ⟨bb, oo + r, none⟩ (.int .i64 v) u) => (PO.out u h.1).mono (fun e w' ⟨he, hb⟩ => (⟨he, (TrS.keep hb (TrS.cells h)).2⟩ : _ ∧ TrS w w.heap.size (w.heap.size + 1) (pA key (some ⟨bb, oo, none⟩) l.length cap) (tA t0 t1 t2 t3 t4 t5 t6 t7) ⟨bb, oo + r, none⟩ (.int .i64 v) w')))
       rw [okB_yes hp] at P1
       refine wp_region_class (C := fun u => TrS w w.heap.size (w.heap.size + 1) (pA key (some ⟨bb, oo, none⟩) l.length cap) (tA t0 t1 t2 t3 t4 t5 t6 t7) ⟨bb, oo + r, none⟩ (.int .i64 v) u) (by kernel_rfl) (by kernel_rfl) T1.out ?_
       iterate 36 (first
        | go_big_quiet_skip
        | (go_big_quiet_want
           go_big_quiet_op
           first
            | go_big_quiet_on
            | (apply Exists.intro
               refine ⟨fun u hu => ?_, ?_⟩
               ·first
                  | with_reducible rfl
                  | (go_at_call 75; exact P1.out u hu)
                  | (go_at_call 76; exact class_same hu (EI.out _ _ _ _ ‹InB _ _ _ _› u))
                  | (go_at_call 77; exact class_same hu (ET.out _ _ ‹TmB _ _› u))
                  | (obtain ⟨⟨e0, e1, e2, e3, e4, e5⟩, -⟩ := TrS.cells hu; go_simp; first | done | with_reducible rfl)
               go_big_quiet_on)))
       refine wpQuiet_nil ?_
       intro wz hz
       go_wp2_with fail
       go_meet
       exact ⟨_, rfl, ⟨fun _ => ⟨hp, ⟨by omega, by omega⟩, h0, h1, by rw [HV.out]; exact h2⟩, fun _ => rfl⟩, hz.1, hz.2.2.1⟩
      ·have g2 : InB t2 0 (v - 1) false := InB.no h2
       have P1 := hid (fun (u : World) (h : TrS w w.heap.size (w.heap.size + 1) (pA key (some ⟨bb, oo, none⟩) l.length cap) (tA t0 t1 t2 t3 t4 t5 t6 t7) ⟨bb, oo + r, none⟩ (.int .i64 v) u) => (PO.out u h.1).mono (fun e w' ⟨he, hb⟩ => (⟨he, (TrS.keep hb (TrS.cells h)).2⟩ : _ ∧ TrS w w.heap.size (w.heap.size + 1) (pA key (some ⟨bb, oo, none⟩) l.length cap) (tA t0 t1 t2 t3 t4 t5 t6 t7) ⟨bb, oo + r, none⟩ (.int .i64 v) w')))
       rw [okB_yes hp] at P1
       refine wp_region_class (C := fun u => TrS w w.heap.size (w.heap.size + 1) (pA key (some ⟨bb, oo, none⟩) l.length cap) (tA t0 t1 t2 t3 t4 t5 t6 t7) ⟨bb, oo + r, none⟩ (.int .i64 v) u) (by kernel_rfl) (by kernel_rfl) T1.out ?_
       iterate 36 (first
        | go_big_quiet_skip
        | (go_big_quiet_want
           go_big_quiet_op
           first
            | go_big_quiet_on
            | (apply Exists.intro
               refine ⟨fun u hu => ?_, ?_⟩
               ·first
                  | with_reducible rfl
                  | (go_at_call 75; exact P1.out u hu)
                  | (go_at_call 76; exact class_same hu (EI.out _ _ _ _ ‹InB _ _ _ _› u))
                  | (go_at_call 77; exact class_same hu (ET.out _ _ ‹TmB _ _› u))
                  | (obtain ⟨⟨e0, e1, e2, e3, e4, e5⟩, -⟩ := TrS.cells hu; go_simp; first | done | with_reducible rfl)
               go_big_quiet_on)))
       refine wpQuiet_nil ?_
       intro wz hz
       go_wp2_with fail
       go_meet
       exact ⟨_, rfl, ⟨fun h => (by cases h), fun h => absurd (by have h5 := h.2.2.2.2; rw [HV.out] at h5; exact h5) h2⟩, hz.1, hz.2.2.1⟩
     ·have g1 : InB t1 0 1000 false := InB.no h1
      have P1 := hid (fun (u : World) (h : TrS w w.heap.size (w.heap.size + 1) (pA key (some ⟨bb, oo, none⟩) l.length cap) (tA t0 t1 t2 t3 t4 t5 t6 t7) ⟨bb, oo + r, none⟩ (.int .i64 v) u) => (PO.out u h.1).mono (fun e w' ⟨he, hb⟩ => (⟨he, (TrS.keep hb (TrS.cells h)).2⟩ : _ ∧ TrS w w.heap.size (w.heap.size + 1) (pA key (some ⟨bb, oo, none⟩) l.length cap) (tA t0 t1 t2 t3 t4 t5 t6 t7) ⟨bb, oo + r, none⟩ (.int .i64 v) w')))
      rw [okB_yes hp] at P1
      refine wp_region_class (C := fun u => TrS w w.heap.size (w.heap.size + 1) (pA key (some ⟨bb, oo, none⟩) l.length cap) (tA t0 t1 t2 t3 t4 t5 t6 t7) ⟨bb, oo + r, none⟩ (.int .i64 v) u) (by kernel_rfl) (by kernel_rfl) T1.out ?_
      iterate 36 (first
       | go_big_quiet_skip
       | (go_big_quiet_want
          go_big_quiet_op
          first
           | go_big_quiet_on
           | (apply Exists.intro
              refine ⟨fun u hu => ?_, ?_⟩
              ·first
                 | with_reducible rfl
                 | (go_at_call 75; exact P1.out u hu)
                 | (go_at_call 76; exact class_same hu (EI.out _ _ _ _ ‹InB _ _ _ _› u))
                 | (go_at_call 77; exact class_same hu (ET.out _ _ ‹TmB _ _› u))
                 | (obtain ⟨⟨e0, e1, e2, e3, e4, e5⟩, -⟩ := TrS.cells hu; go_simp; first | done | with_reducible rfl)
              go_big_quiet_on)))
      refine wpQuiet_nil ?_
      intro wz hz
      go_wp2_with fail
      go_meet
      exact ⟨_, rfl, ⟨fun h => (by cases h), fun h => absurd h.2.2.2.1 h1⟩, hz.1, hz.2.2.1⟩
    ·have g0 : TmB t0 false := TmB.no h0
     have P1 := hid (fun (u : World) (h : TrS w w.heap.size (w.heap.size + 1) (pA key (some ⟨bb, oo, none⟩) l.length cap) (tA t0 t1 t2 t3 t4 t5 t6 t7) ⟨bb, oo + r, none⟩ (.int .i64 v) u) => (PO.out u h.1).mono (fun e w' ⟨he, hb⟩ => (⟨he, (TrS.keep hb (TrS.cells h)).2⟩ : _ ∧ TrS w w.heap.size (w.heap.size + 1) (pA key (some ⟨bb, oo, none⟩) l.length cap) (tA t0 t1 t2 t3 t4 t5 t6 t7) ⟨bb, oo + r, none⟩ (.int .i64 v) w')))
     rw [okB_yes hp] at P1
     refine wp_region_class (C := fun u => TrS w w.heap.size (w.heap.size + 1) (pA key (some ⟨bb, oo, none⟩) l.length cap) (tA t0 t1 t2 t3 t4 t5 t6 t7) ⟨bb, oo + r, none⟩ (.int .i64 v) u) (by kernel_rfl) (by kernel_rfl) T1.out ?_
     iterate 36 (first
      | go_big_quiet_skip
      | (go_big_quiet_want
         go_big_quiet_op
         first
          | go_big_quiet_on
          | (apply Exists.intro
             refine ⟨fun u hu => ?_, ?_⟩
             ·first
                | with_reducible rfl
                | (go_at_call 75; exact P1.out u hu)
                | (go_at_call 76; exact class_same hu (EI.out _ _ _ _ ‹InB _ _ _ _› u))
                | (go_at_call 77; exact class_same hu (ET.out _ _ ‹TmB _ _› u))
                | (obtain ⟨⟨e0, e1, e2, e3, e4, e5⟩, -⟩ := TrS.cells hu; go_simp; first | done | with_reducible rfl)
             go_big_quiet_on)))
     refine wpQuiet_nil ?_
     intro wz hz
     go_wp2_with fail
     go_meet
     exact ⟨_, rfl, ⟨fun h => (by cases h), fun h => absurd h.2.2.1 h0⟩, hz.1, hz.2.2.1⟩
   ·have hi : InB x 0 (l.length - 1) false := InB.no (by omega)
    have P1 := hid (fun (u : World) (h : TrS w w.heap.size (w.heap.size + 1) (pA key A l.length cap) (tA t0 t1 t2 t3 t4 t5 t6 t7) ⟨w.heap.size, 0, none⟩ (.int .i64 key) u) => (PO.out u h.1).mono (fun e w' ⟨he, hb⟩ => (⟨he, (TrS.keep hb (TrS.cells h)).2⟩ : _ ∧ TrS w w.heap.size (w.heap.size + 1) (pA key A l.length cap) (tA t0 t1 t2 t3 t4 t5 t6 t7) ⟨w.heap.size, 0, none⟩ (.int .i64 key) w')))
    rw [okB_yes hp] at P1
    refine wp_region_class (C := fun u => TrS w w.heap.size (w.heap.size + 1) (pA key A l.length cap) (tA t0 t1 t2 t3 t4 t5 t6 t7) ⟨w.heap.size, 0, none⟩ (.int .i64 key) u) (by kernel_rfl) (by kernel_rfl) T0.out ?_
    iterate 36 (first
     | go_big_quiet_skip
     | (go_big_quiet_want
        go_big_quiet_op
        first
         | go_big_quiet_on
         | (apply Exists.intro
            refine ⟨fun u hu => ?_, ?_⟩
            ·first
               | with_reducible rfl
               | (go_at_call 75; exact P1.out u hu)
               | (go_at_call 76; exact class_same hu (EI.out _ _ _ _ ‹InB _ _ _ _› u))
               | (go_at_call 77; exact class_same hu (ET.out _ _ ‹TmB _ _› u))
               | (obtain ⟨⟨e0, e1, e2, e3, e4, e5⟩, -⟩ := TrS.cells hu; go_simp; first | done | with_reducible rfl)
            go_big_quiet_on)))
    refine wpQuiet_nil ?_
    intro wz hz
    go_wp2_with fail
    go_meet
    exact ⟨_, rfl, ⟨fun h => (by cases h), fun h => absurd h.2.1 hx⟩, hz.1, hz.2.2.1⟩
  ·skip
   have P1 := hid (fun (u : World) (h : TrS w w.heap.size (w.heap.size + 1) (pA key A l.length cap) (tA t0 t1 t2 t3 t4 t5 t6 t7) ⟨w.heap.size, 0, none⟩ (.int .i64 key) u) => (PO.out u h.1).mono (fun e w' ⟨he, hb⟩ => (⟨he, (TrS.keep hb (TrS.cells h)).2⟩ : _ ∧ TrS w w.heap.size (w.heap.size + 1) (pA key A l.length cap) (tA t0 t1 t2 t3 t4 t5 t6 t7) ⟨w.heap.size, 0, none⟩ (.int .i64 key) w')))
   rw [okB_no hp] at P1
   refine wp_region_class (C := fun u => TrS w w.heap.size (w.heap.size + 1) (pA key A l.length cap) (tA t0 t1 t2 t3 t4 t5 t6 t7) ⟨w.heap.size, 0, none⟩ (.int .i64 key) u) (by kernel_rfl) (by kernel_rfl) T0.out ?_
   iterate 36 (first
    | go_big_quiet_skip
    | (go_big_quiet_want
       go_big_quiet_op
       first
        | go_big_quiet_on
        | (apply Exists.intro
           refine ⟨fun u hu => ?_, ?_⟩
           ·first
              | with_reducible rfl
              | (go_at_call 75; exact P1.out u hu)
              | (go_at_call 76; exact class_same hu (EI.out _ _ _ _ ‹InB _ _ _ _› u))
              | (go_at_call 77; exact class_same hu (ET.out _ _ ‹TmB _ _› u))
              | (obtain ⟨⟨e0, e1, e2, e3, e4, e5⟩, -⟩ := TrS.cells hu; go_simp; first | done | with_reducible rfl)
           go_big_quiet_on)))
   refine wpQuiet_nil ?_
   intro wz hz
   go_wp2_with fail
   go_meet
   exact ⟨_, rfl, ⟨fun h => (by cases h), fun h => absurd h.1 hp⟩, hz.1, hz.2.2.1⟩
 case rest =>
 obtain ⟨z, rfl, hz, hb, hq⟩ := hcut
 have HBW := hid hb
 have q2 : wc.cell? ⟨w.heap.size + 1, 2, none⟩ = some (.int .i64 t2) := hq.cell 2
 have q3 : wc.cell? ⟨w.heap.size + 1, 3, none⟩ = some (.int .i64 t3) := hq.cell 3
 have q4 : wc.cell? ⟨w.heap.size + 1, 4, none⟩ = some (.int .i64 t4) := hq.cell 4
 have q5 : wc.cell? ⟨w.heap.size + 1, 5, none⟩ = some (.int .i64 t5) := hq.cell 5
 have q6 : wc.cell? ⟨w.heap.size + 1, 6, none⟩ = some (.int .i64 t6) := hq.cell 6
 clear hb hq PO EI ET T0 TF HA
 rcases z with _ | _
 ·have hG := hz.1 rfl
  clear hz
  by_cases c2 : t2 = 0
  ·skip
   by_cases c5 : t5 = 0
   ·skip
    by_cases c6 : t6 = 0
    ·subst c2 c5 c6
     have s0 : isSumP 0 := ⟨by omega, by omega⟩
     by_cases s3 : isSumP t3
     ·by_cases s4 : isSumP t4
      ·skip
       go_wp2_with fail
       refine (l7Sum_b t3 true _ (SumB.yes s3)).mono ?_; rintro e w' ⟨rfl, rfl⟩
       go_wp2_with fail
       refine (l7Sum_b t4 true _ (SumB.yes s4)).mono ?_; rintro e w' ⟨rfl, rfl⟩
       go_wp2_with fail
       refine (l7Sum_b 0 true _ (SumB.yes s0)).mono ?_; rintro e w' ⟨rfl, rfl⟩
       go_wp2_with fail
       refine (l7Sum_b 0 true _ (SumB.yes s0)).mono ?_; rintro e w' ⟨rfl, rfl⟩
       go_wp2_with fail
       go_ret
       exact ⟨by rw [trustB_yes ⟨hG.1, hG.2.1, hG.2.2.1, hG.2.2.2.1, hG.2.2.2.2, (fun _ => ⟨rfl, rfl⟩), s3, s4, s0, s0⟩]; rfl, HBW.out⟩
      ·skip
       go_wp2_with fail
       refine (l7Sum_b t3 true _ (SumB.yes s3)).mono ?_; rintro e w' ⟨rfl, rfl⟩
       go_wp2_with fail
       refine (l7Sum_b t4 false _ (SumB.no s4)).mono ?_; rintro e w' ⟨rfl, rfl⟩
       go_wp2_with fail
       go_ret
       exact ⟨by rw [trustB_no (fun h => s4 h.2.2.2.2.2.2.2.1)]; rfl, HBW.out⟩
     ·skip
      go_wp2_with fail
      refine (l7Sum_b t3 false _ (SumB.no s3)).mono ?_; rintro e w' ⟨rfl, rfl⟩
      go_wp2_with fail
      go_ret
      exact ⟨by rw [trustB_no (fun h => s3 h.2.2.2.2.2.2.1)]; rfl, HBW.out⟩
    ·have c6' : (t6 == 0) = false := by simpa using c6
     go_wp2_with fail
     go_ret
     exact ⟨by rw [trustB_no (fun h => c6 (h.2.2.2.2.2.1 c2).2)]; rfl, HBW.out⟩
   ·have c5' : (t5 == 0) = false := by simpa using c5
    go_wp2_with fail
    go_ret
    exact ⟨by rw [trustB_no (fun h => c5 (h.2.2.2.2.2.1 c2).1)]; rfl, HBW.out⟩
  ·have c2' : (t2 == 0) = false := by simpa using c2
   by_cases s3 : isSumP t3
   ·by_cases s4 : isSumP t4
    ·by_cases s5 : isSumP t5
     ·by_cases s6 : isSumP t6
      ·skip
       go_wp2_with fail
       refine (l7Sum_b t3 true _ (SumB.yes s3)).mono ?_; rintro e w' ⟨rfl, rfl⟩
       go_wp2_with fail
       refine (l7Sum_b t4 true _ (SumB.yes s4)).mono ?_; rintro e w' ⟨rfl, rfl⟩
       go_wp2_with fail
       refine (l7Sum_b t5 true _ (SumB.yes s5)).mono ?_; rintro e w' ⟨rfl, rfl⟩
       go_wp2_with fail
       refine (l7Sum_b t6 true _ (SumB.yes s6)).mono ?_; rintro e w' ⟨rfl, rfl⟩
       go_wp2_with fail
       go_ret
       exact ⟨by rw [trustB_yes ⟨hG.1, hG.2.1, hG.2.2.1, hG.2.2.2.1, hG.2.2.2.2, (fun h => absurd h c2), s3, s4, s5, s6⟩]; rfl, HBW.out⟩
      ·skip
       go_wp2_with fail
       refine (l7Sum_b t3 true _ (SumB.yes s3)).mono ?_; rintro e w' ⟨rfl, rfl⟩
       go_wp2_with fail
       refine (l7Sum_b t4 true _ (SumB.yes s4)).mono ?_; rintro e w' ⟨rfl, rfl⟩
       go_wp2_with fail
       refine (l7Sum_b t5 true _ (SumB.yes s5)).mono ?_; rintro e w' ⟨rfl, rfl⟩
       go_wp2_with fail
       refine (l7Sum_b t6 false _ (SumB.no s6)).mono ?_; rintro e w' ⟨rfl, rfl⟩
       go_wp2_with fail
       go_ret
       exact ⟨by rw [trustB_no (fun h => s6 h.2.2.2.2.2.2.2.2.2)]; rfl, HBW.out⟩
     ·skip
      go_wp2_with fail
      refine (l7Sum_b t3 true _ (SumB.yes s3)).mono ?_; rintro e w' ⟨rfl, rfl⟩
      go_wp2_with fail
      refine (l7Sum_b t4 true _ (SumB.yes s4)).mono ?_; rintro e w' ⟨rfl, rfl⟩
      go_wp2_with fail
      refine (l7Sum_b t5 false _ (SumB.no s5)).mono ?_; rintro e w' ⟨rfl, rfl⟩
      go_wp2_with fail
      go_ret
      exact ⟨by rw [trustB_no (fun h => s5 h.2.2.2.2.2.2.2.2.1)]; rfl, HBW.out⟩
    ·skip
     go_wp2_with fail
     refine (l7Sum_b t3 true _ (SumB.yes s3)).mono ?_; rintro e w' ⟨rfl, rfl⟩
     go_wp2_with fail
     refine (l7Sum_b t4 false _ (SumB.no s4)).mono ?_; rintro e w' ⟨rfl, rfl⟩
     go_wp2_with fail
     go_ret
     exact ⟨by rw [trustB_no (fun h => s4 h.2.2.2.2.2.2.2.1)]; rfl, HBW.out⟩
   ·skip
    go_wp2_with fail
    refine (l7Sum_b t3 false _ (SumB.no s3)).mono ?_; rintro e w' ⟨rfl, rfl⟩
    go_wp2_with fail
    go_ret
    exact ⟨by rw [trustB_no (fun h => s3 h.2.2.2.2.2.2.1)]; rfl, HBW.out⟩
 ·have hG : ¬ trustOk key l x ⟨t0, t1, t2, t3, t4, t5, t6, t7⟩ := fun h => by
    have := hz.2 ⟨h.1, h.2.1, h.2.2.1, h.2.2.2.1, h.2.2.2.2.1⟩
    cases this
  go_wp2_with fail
  go_ret
  exact ⟨by rw [trustB_no hG]; rfl, HBW.out⟩
end Go.Proofs.YteopplldbcgjjaaGreatDoor.Mx

import Derived.Test.YtgaecedhkbneaaaGreatDoorG02
import Derived.Test.YtgaecedhkbneaaaGreatDoorG01
import Derived.Lib.Hide
import Derived.Deep.RegionWith
namespace Go.Proofs.YtgaecedhkbneaaaGreatDoor.Mx
open Go.ChangeShapes Go.WideShapes Go.ChangeAt Go.RowKit
set_option linter.unusedVariables false
theorem upTo_take (l : List Int) (r : Nat) : upTo (l.take r) (l.take r).length = upTo l r := by unfold upTo; rw [List.take_length]
theorem CountsOk.take {l : List Int} (h : CountsOk l) (r : Nat) : CountsOk (l.take r) := by
  intro i hi
  rw [List.length_take] at hi
  rw [List.getD_eq_getElem?_getD, List.getElem?_take_of_lt (by omega), ← List.getD_eq_getElem?_getD]
  exact h i (by omega)
theorem l5Sum_take (A : Option Addr) (l : List Int) (cap B r : Nat) (w : World) (hl : l.length ≤ 4) (hr : r ≤ l.length) (hA : Ints w .i64 B A l) (hc : CountsOk l) :
    Calls Tryz.prog 118 #[.slice A r cap] w fun e w' => e = .returned (.int .i64 (upTo l r)) ∧ w = w' := by
  have h := l5Sum_calls A (l.take r) cap B w (by rw [List.length_take]; omega) (hA.take r) (hc.take r)
  rw [upTo_take, List.length_take, Nat.min_eq_left hr] at h
  exact h
theorem specFirst_yes (key : Int) (A : Option Addr) (l : List Int) (cap r : Nat) (w : World) (hn : l.length ≤ maxLen) (hcap : l.length ≤ cap) (hA : Ints w .i64 w.heap.size A l) (hp : planOk key l) (hr : r < l.length) :
    Calls Tryz.prog 104 #[.agg (pA key A l.length cap), .int .i64 r] w fun e w' => e = .returned (.int .i64 (upTo l r)) ∧ Below w.heap.size w w' := by
  have hl := hp.2.1.2
  have C := Lib.hid (fun w hA => specPlanOk_calls key A l cap w hn hA)
  have HA := Lib.hid (hA.boxed (.cells (pA key A l.length cap) 26))
  have HB := Lib.hid (CellsAt.new w 26 (pA key A l.length cap))
  have D := Lib.hid (fun B w hA => l5Sum_take A l cap B r w hp.2.1.2 (by omega) hA hp.2.2.1)
  have E := Lib.hid (fun w => l1In_yes r 0 (l.length - 1) w (by omega) (by omega))
  rw [okB_yes hp] at C
  obtain ⟨b0, off0, rfl, hb0, _⟩ := hA 0 (by omega)
  clear hA hp
  go_enter Tryz.func104, Tryz.ntmps104
  go_wp2_with fail
  refine (C.out _ HA.out).mono ?_; rintro e w1 ⟨rfl, b1⟩
  have hb := HB.out.below b1 (by simp)
  have c0 : w1.cell? ⟨w.heap.size, 0, none⟩ = some (.int .i64 key) := hb.cell 0
  have c1 : w1.cell? ⟨w.heap.size, 1, none⟩ = some (.slice (some ⟨b0, off0, none⟩) l.length cap) := hb.cell 1
  have H1 := Lib.hid ((HA.out.below b1 (Nat.le_refl _)).more b1.size)
  have B1 := Lib.hid ((box_below w _).trans (b1.mono (by simp)))
  clear b1 hb
  go_wp2_with fail
  refine (E.out _).mono ?_; rintro e w2 ⟨rfl, rfl⟩
  go_wp2_with fail
  refine (D.out _ _ H1.out).mono ?_; rintro e w2 ⟨rfl, rfl⟩
  go_wp2_with fail
  go_ret
  exact ⟨rfl, B1.out⟩
theorem specFirst_out (key x : Int) (A : Option Addr) (l : List Int) (cap : Nat) (w : World) (hn : l.length ≤ maxLen) (hA : Ints w .i64 w.heap.size A l) (hp : planOk key l) (hr : x < 0 ∨ l.length ≤ x) :
    Calls Tryz.prog 104 #[.agg (pA key A l.length cap), .int .i64 x] w fun e w' => e = .returned (.int .i64 (-1)) ∧ Below w.heap.size w w' := by
  have hl := hp.2.1.2
  have C := Lib.hid (fun w hA => specPlanOk_calls key A l cap w hn hA)
  have HA := Lib.hid (hA.boxed (.cells (pA key A l.length cap) 26))
  have HB := Lib.hid (CellsAt.new w 26 (pA key A l.length cap))
  have E := Lib.hid (fun w => l1In_no x 0 (l.length - 1) w (by omega))
  rw [okB_yes hp] at C
  clear hA hp hr
  go_enter Tryz.func104, Tryz.ntmps104
  go_wp2_with fail
  refine (C.out _ HA.out).mono ?_; rintro e w1 ⟨rfl, b1⟩
  have hb := HB.out.below b1 (by simp)
  have c0 : w1.cell? ⟨w.heap.size, 0, none⟩ = some (.int .i64 key) := hb.cell 0
  have c1 : w1.cell? ⟨w.heap.size, 1, none⟩ = some (.slice A l.length cap) := hb.cell 1
  have B1 := Lib.hid ((box_below w _).trans (b1.mono (by simp)))
  clear b1 hb
  go_wp2_with fail
  refine (E.out _).mono ?_; rintro e w2 ⟨rfl, rfl⟩
  go_wp2_with fail
  go_ret
  exact ⟨rfl, B1.out⟩
theorem specFirst_no (key x : Int) (A : Option Addr) (l : List Int) (cap : Nat) (w : World) (hn : l.length ≤ maxLen) (hA : Ints w .i64 w.heap.size A l) (hp : ¬ planOk key l) :
    Calls Tryz.prog 104 #[.agg (pA key A l.length cap), .int .i64 x] w fun e w' => e = .returned (.int .i64 (-1)) ∧ Below w.heap.size w w' := by
  have C := Lib.hid (fun w hA => specPlanOk_calls key A l cap w hn hA)
  have HA := Lib.hid (hA.boxed (.cells (pA key A l.length cap) 26))
  rw [okB_no hp] at C
  clear hA hp
  go_enter Tryz.func104, Tryz.ntmps104
  go_wp2_with fail
  refine (C.out _ HA.out).mono ?_; rintro e w1 ⟨rfl, b1⟩
  have B1 := Lib.hid ((box_below w _).trans (b1.mono (by simp)))
  clear b1
  go_wp2_with fail
  go_ret
  exact ⟨rfl, B1.out⟩
theorem specFirst_calls (key x : Int) (A : Option Addr) (l : List Int) (cap : Nat) (w : World) (hn : l.length ≤ maxLen) (hcap : l.length ≤ cap) (hA : Ints w .i64 w.heap.size A l) :
    Calls Tryz.prog 104 #[.agg (pA key A l.length cap), .int .i64 x] w fun e w' => e = .returned (.int .i64 (firstOf key l x)) ∧ Below w.heap.size w w' := by
  by_cases hp : planOk key l
  · by_cases h : 0 ≤ x ∧ x < l.length
    · obtain ⟨r, rfl⟩ : ∃ r : Nat, x = r := ⟨x.toNat, by omega⟩
      rw [firstOf_yes hp (by omega)]
      exact specFirst_yes key A l cap r w hn hcap hA hp (by omega)
    · rw [firstOf_no (fun h' => h h'.2)]
      exact specFirst_out key x A l cap w hn hA hp (by omega)
  · rw [firstOf_no (fun h' => hp h'.1)]
    exact specFirst_no key x A l cap w hn hA hp
/-! ### spec.RegionOf -/
def PlanS (b : World) (g : Nat) (cs : Array Value) (c : Addr) (x : Value) (w : World) : Prop :=
  Below b.heap.size b w ∧ CellsAt w g 26 cs ∧ c.block < w.heap.size ∧ w.cell? c = some x
theorem PlanS.cells {b : World} {g : Nat} {u v x : Value} {c : Addr} {w : World} (h : PlanS b g #[u, v] c x w) :
    (w.cell? ⟨g, 0, none⟩ = some u ∧ w.cell? ⟨g, 1, none⟩ = some v ∧ w.cell? c = some x) ∧ PlanS b g #[u, v] c x w := ⟨⟨h.2.1.cell 0, h.2.1.cell 1, h.2.2.2⟩, h⟩
theorem PlanS.keep {b : World} {g : Nat} {u v x : Value} {c : Addr} {w w' : World} (hb : Below w.heap.size w w')
    (h : (w.cell? ⟨g, 0, none⟩ = some u ∧ w.cell? ⟨g, 1, none⟩ = some v ∧ w.cell? c = some x) ∧ PlanS b g #[u, v] c x w) :
    (w'.cell? ⟨g, 0, none⟩ = some u ∧ w'.cell? ⟨g, 1, none⟩ = some v ∧ w'.cell? c = some x) ∧ PlanS b g #[u, v] c x w' :=
  PlanS.cells ⟨h.2.1.trans (hb.mono h.2.1.size), h.2.2.1.below hb h.2.2.1.lt, Nat.lt_of_lt_of_le h.2.2.2.1 hb.size, (hb.cell h.2.2.2.1).trans h.2.2.2.2⟩
theorem specRegion_no (key x : Int) (A : Option Addr) (l : List Int) (cap : Nat) (w : World) (hn : l.length ≤ maxLen) (hA : Ints w .i64 w.heap.size A l) (hp : ¬ planOk key l) :
    Calls Tryz.prog 100 #[.agg (pA key A l.length cap), .int .i64 x] w fun e w' => e = .returned (.int .i64 (-1)) ∧ Below w.heap.size w w' := by
  have C := Lib.hid (fun w hA => specPlanOk_calls key A l cap w hn hA)
  have HA := Lib.hid (hA.boxed (.cells (pA key A l.length cap) 26))
  rw [okB_no hp] at C
  clear hA hp
  go_enter Tryz.func100, Tryz.ntmps100
  go_wp2_with fail
  refine (C.out _ HA.out).mono ?_; rintro e w1 ⟨rfl, b1⟩
  have B1 := Lib.hid ((box_below w _).trans (b1.mono (by simp)))
  clear b1
  go_wp2_with fail
  go_ret
  exact ⟨rfl, B1.out⟩
theorem specRegion_neg (key x : Int) (A : Option Addr) (l : List Int) (cap : Nat) (w : World) (hn : l.length ≤ maxLen) (hA : Ints w .i64 w.heap.size A l) (hx : x < 0) :
    Calls Tryz.prog 100 #[.agg (pA key A l.length cap), .int .i64 x] w fun e w' => e = .returned (.int .i64 (-1)) ∧ Below w.heap.size w w' := by
  by_cases hp : planOk key l
  · have C := Lib.hid (fun w hA => specPlanOk_calls key A l cap w hn hA)
    have HA := Lib.hid (hA.boxed (.cells (pA key A l.length cap) 26))
    rw [okB_yes hp] at C
    clear hA hp
    go_enter Tryz.func100, Tryz.ntmps100
    go_wp2_with fail
    refine (C.out _ HA.out).mono ?_; rintro e w1 ⟨rfl, b1⟩
    have B1 := Lib.hid ((box_below w _).trans (b1.mono (by simp)))
    clear b1
    go_wp2_with fail
    go_ret
    exact ⟨rfl, B1.out⟩
  · exact specRegion_no key x A l cap w hn hA hp
set_option maxHeartbeats 1000000 in
theorem specRegion_yes (key x : Int) (A : Option Addr) (l : List Int) (cap : Nat) (w : World) (hn : l.length ≤ maxLen) (hcap : l.length ≤ cap) (hA : Ints w .i64 w.heap.size A l) (hp : planOk key l) (hx : 0 ≤ x) :
    Calls Tryz.prog 100 #[.agg (pA key A l.length cap), .int .i64 x] w fun e w' => (∃ r, e = .returned (.int .i64 r) ∧ IsRegion l x r) ∧ Below w.heap.size w w' := by
  have hl := hp.2.1.2
  have C := Lib.hid (fun w hA => specPlanOk_calls key A l cap w hn hA)
  have D := Lib.hid (fun w r hA hr => specFirst_yes key A l cap r w hn hcap hA hp hr)
  have HA := Lib.hid (hA.boxed (.cells (pA key A l.length cap) 26))
  have HB := Lib.hid (CellsAt.new w 26 (pA key A l.length cap))
  have HC := Lib.hid hp.2.2.1
  have hxn : ¬ x < 0 := by omega
  rw [okB_yes hp] at C
  clear hA hp
  go_enter Tryz.func100, Tryz.ntmps100
  go_wp2_with fail
  refine (C.out _ HA.out).mono ?_; rintro e w1 ⟨rfl, b1⟩
  have HB1 := Lib.hid (HB.out.below b1 (by simp))
  have HA1 := Lib.hid ((HA.out.below b1 (Nat.le_refl _)).more b1.size)
  have B1 := Lib.hid ((box_below w _).trans (b1.mono (by simp)))
  clear b1 C HA HB
  go_wp2_with fail
  go_loopw [5] (fun i wr => ∃ k : Nat, k ≤ l.length ∧ i = .int .i64 k ∧ upTo l k ≤ x ∧ Below w1.heap.size w1 wr) (fun i _ => l.length - (intOf i).toNat)
  case atStart => exact ⟨0, Nat.zero_le _, rfl, by rw [upTo_zero]; exact hx, Below.refl _ _⟩
  case round =>
    obtain ⟨k, hk, rfl, hux, hbel⟩ := hrel
    have HU := Lib.hid hux
    have HBr := Lib.hid (HB1.out.below hbel HB1.out.lt)
    have HAr := Lib.hid ((HA1.out.below hbel (Nat.le_refl _)).more hbel.size)
    have BR := Lib.hid hbel
    have c0 := HBr.out.cell 0
    have c1 := HBr.out.cell 1
    clear hux hbel
    by_cases hlt : k < l.length
    · obtain ⟨b, off, rfl, hb, hv⟩ := HAr.out k hlt
      have hlt' : (k : Int) < l.length := by omega
      have hk0 : (0 : Int) ≤ k := by omega
      have HS := Lib.hid (upTo_succ l hlt)
      have hcv := HC.out k hlt
      have hu := upTo_bd HC.out hk
      have S0 := Lib.hid (show PlanS w1 w.heap.size (pA key (some ⟨b, off, none⟩) l.length cap) ⟨b, off + k, none⟩ (.int .i64 (l.getD k 0)) wr.drew from ⟨BR.out.drew, HBr.out.drew, hb, hv⟩)
      have DK := Lib.hid (fun u (hS : (u.cell? ⟨w.heap.size, 0, none⟩ = some (.int .i64 key) ∧ u.cell? ⟨w.heap.size, 1, none⟩ = some (.slice (some ⟨b, off, none⟩) l.length cap) ∧ u.cell? ⟨b, off + k, none⟩ = some (.int .i64 (l.getD k 0))) ∧ PlanS w1 w.heap.size (pA key (some ⟨b, off, none⟩) l.length cap) ⟨b, off + k, none⟩ (.int .i64 (l.getD k 0)) u) => D.out u k ((HA1.out.below hS.2.1 (Nat.le_refl _)).more hS.2.1.size) hlt)
      generalize l.getD k 0 = v at hv hcv HS S0 DK
      have HU0 := Lib.hid (show upTo l k ≤ x from HU.out)
      generalize hsu : upTo l k = s at HS hu HU DK
      clear hsu
      obtain ⟨v0, v1⟩ := hcv
      obtain ⟨u0, u1⟩ := hu
      clear D
      have hwr : IntKind.i64.wrap (s + v) = s + v := IntWalk.i64_in _ (by omega)
      by_cases hin : x < s + v
      · go_wp2_with fail
        go_region_held3 (fun w' => (w'.cell? ⟨w.heap.size, 0, none⟩ = some (.int .i64 key) ∧ w'.cell? ⟨w.heap.size, 1, none⟩ = some (.slice (some ⟨b, off, none⟩) l.length cap) ∧ w'.cell? ⟨b, off + k, none⟩ = some (.int .i64 v)) ∧ PlanS w1 w.heap.size (pA key (some ⟨b, off, none⟩) l.length cap) ⟨b, off + k, none⟩ (.int .i64 v) w')
          (first | exact PlanS.keep ‹Below _ _ _› ‹_› | exact PlanS.cells S0.out)
          (first | (go_at_call 104; refine (DK.out _ ‹_›).mono ?_; rintro e wx ⟨rfl, bx⟩))
        all_goals
          obtain ⟨-, SX⟩ := ‹_ ∧ PlanS _ _ _ _ _ _›
          have BX := Lib.hid SX.1
          have HI := Lib.hid (show x < upTo l (k + 1) by rw [HS.out]; exact hin)
          have HV := Lib.hid (show upTo l k ≤ x from HU0.out)
          clear SX
          go_wp2_with fail
          go_ret
          exact ⟨⟨_, rfl, .inl ⟨k, hlt, rfl, HV.out, HI.out⟩⟩, B1.out.trans (BX.out.mono B1.out.size)⟩
      · go_wp2_with fail
        go_region_held3 (fun w' => (w'.cell? ⟨w.heap.size, 0, none⟩ = some (.int .i64 key) ∧ w'.cell? ⟨w.heap.size, 1, none⟩ = some (.slice (some ⟨b, off, none⟩) l.length cap) ∧ w'.cell? ⟨b, off + k, none⟩ = some (.int .i64 v)) ∧ PlanS w1 w.heap.size (pA key (some ⟨b, off, none⟩) l.length cap) ⟨b, off + k, none⟩ (.int .i64 v) w')
          (first | exact PlanS.keep ‹Below _ _ _› ‹_› | exact PlanS.cells S0.out)
          (first | (go_at_call 104; refine (DK.out _ ‹_›).mono ?_; rintro e wx ⟨rfl, bx⟩))
        all_goals
          obtain ⟨-, SX⟩ := ‹_ ∧ PlanS _ _ _ _ _ _›
          have BX := Lib.hid SX.1
          have HI := Lib.hid (show upTo l (k + 1) ≤ x by rw [HS.out]; omega)
          clear SX
          go_wp2_with fail
          go_roundw
          case rel => exact ⟨k + 1, by omega, by go_num, HI.out, BX.out⟩
          case measure => simp [intOf]; omega
    · obtain rfl : k = l.length := by omega
      go_wp2_with fail
      go_ret
      exact ⟨⟨_, rfl, .inr ⟨rfl, HU.out⟩⟩, B1.out.trans (BR.out.mono B1.out.size)⟩
theorem specRegion_calls (key x : Int) (A : Option Addr) (l : List Int) (cap : Nat) (w : World) (hn : l.length ≤ maxLen) (hcap : l.length ≤ cap) (hA : Ints w .i64 w.heap.size A l) :
    Calls Tryz.prog 100 #[.agg (pA key A l.length cap), .int .i64 x] w fun e w' => e = .returned (.int .i64 (regionOf key l x)) ∧ Below w.heap.size w w' := by
  by_cases hp : planOk key l
  · by_cases h0 : x < 0
    · rw [regionOf_no (by omega)]; exact specRegion_neg key x A l cap w hn hA h0
    · refine (specRegion_yes key x A l cap w hn hcap hA hp (by omega)).mono ?_
      rintro e w' ⟨⟨r, rfl, hr⟩, hb⟩
      rw [regionOf_yes hp (by omega) hr]
      exact ⟨rfl, hb⟩
  · rw [regionOf_no (fun h => hp h.1)]; exact specRegion_no key x A l cap w hn hA hp
open Go.RowKit
abbrev Box := Nat × TypeId × Array Value
def Kept (b : World) (L : List Box) (w : World) : Prop := Below b.heap.size b w ∧ ∀ x ∈ L, b.heap.size ≤ x.1 ∧ CellsAt w x.1 x.2.1 x.2.2
namespace Kept
variable {b u w : World} {L : List Box} {g p : Nat} {t : TypeId} {cs : Array Value}
theorem refl (b : World) : Kept b [] b := ⟨Below.refl _ _, fun x hx => by cases hx⟩
theorem of_below (h : Below b.heap.size b w) : Kept b [] w := ⟨h, fun x hx => by cases hx⟩
theorem below (h : Kept b L u) (hb : Below u.heap.size u w) : Kept b L w := ⟨h.1.trans (hb.mono h.1.size), fun x hx => ⟨(h.2 x hx).1, (h.2 x hx).2.below hb (h.2 x hx).2.lt⟩⟩
theorem grown (h : Kept b L u) (hb : u.grownBy w (some g)) (hg : b.heap.size ≤ g) (hne : ∀ x ∈ L, x.1 ≠ g) : Kept b L w :=
  ⟨bgb h.1 hb h.1.size hg, fun x hx => ⟨(h.2 x hx).1, (h.2 x hx).2.grown hb (by intro e; injection e with e; exact hne x hx e)⟩⟩
theorem alloc (h : Kept b L w) (o : Obj) : Kept b L (w.alloc o) := h.below ((Below.refl _ _).alloc (Nat.le_refl _) _)
theorem new (h : Kept b L w) (t : TypeId) (cs : Array Value) : Kept b ((w.heap.size, t, cs) :: L) (w.alloc (.cells cs t)) := by
  refine ⟨(h.alloc _).1, fun x hx => ?_⟩
  rcases List.mem_cons.1 hx with rfl | hx
  · exact ⟨h.1.size, CellsAt.new w t cs⟩
  · exact (h.alloc _).2 x hx
theorem drew (h : Kept b L w) : Kept b L w.drew := ⟨h.1.drew, h.2⟩
theorem tail {x : Box} (h : Kept b (x :: L) w) : Kept b L w := ⟨h.1, fun y hy => h.2 y (List.mem_cons_of_mem _ hy)⟩
theorem sub {L' : List Box} (h : Kept b L w) (hs : ∀ x ∈ L', x ∈ L) : Kept b L' w := ⟨h.1, fun y hy => h.2 y (hs y hy)⟩
theorem set (h : Kept b ((p, t, cs) :: L) w) (hne : ∀ x ∈ L, x.1 ≠ p) (i : Nat) (v : Value) : Kept b ((p, t, cs.setIfInBounds i v) :: L) (w.setCell ⟨p, i, none⟩ v) := by
  have hp := h.2 _ (List.mem_cons_self ..)
  refine ⟨h.1.setCell hp.1 _, fun x hx => ?_⟩
  rcases List.mem_cons.1 hx with rfl | hx
  · exact ⟨hp.1, hp.2.set_ i v⟩
  · exact ⟨(h.2 x (List.mem_cons_of_mem _ hx)).1, (h.2 x (List.mem_cons_of_mem _ hx)).2.grown (gb_set (gb_refl w (some p)) i v) (by intro e; injection e with e; exact hne x hx e)⟩
theorem at_ (h : Kept b L w) (hm : (p, t, cs) ∈ L) : CellsAt w p t cs := (h.2 _ hm).2
theorem cell (h : Kept b L w) (hm : (p, t, cs) ∈ L) (i : Nat) : w.cell? ⟨p, i, none⟩ = cs[i]? := (h.2 _ hm).2.cell i
theorem frozen (h : Kept b L w) (hm : (p, t, cs) ∈ L) (i : Nat) : w.frozen? ⟨p, i, none⟩ = false := (h.2 _ hm).2.frozen i
theorem lt (h : Kept b L w) {x : Box} (hx : x ∈ L) : x.1 < w.heap.size := (h.2 x hx).2.lt
theorem three {x y z : Value} (h : Kept b ((p, t, #[x, y, z]) :: L) w) : w.cell? ⟨p, 0, none⟩ = some x ∧ w.cell? ⟨p, 1, none⟩ = some y ∧ w.cell? ⟨p, 2, none⟩ = some z :=
  ⟨h.cell (List.mem_cons_self ..) 0, h.cell (List.mem_cons_self ..) 1, h.cell (List.mem_cons_self ..) 2⟩
end Kept
theorem szInt64S_no (A : Option Addr) (n cap : Nat) (w : World) (hn : n ≤ maxLen) (h : 1048576 < n) :
    Calls Tryz.prog 135 #[.slice A n cap, .int .i64 1048576] w fun e w' => e = .returned (.int .i64 (-1)) ∧ w = w' := by
  unfold maxLen at hn
  have hs : (1048576 : Int) - n < 0 := by omega
  go_enter Tryz.func135, Tryz.ntmps135
  go_wp2
  go_ret
  exact ⟨rfl, rfl⟩
theorem szInt64S_yes (A : Option Addr) (n cap : Nat) (w : World) (h : n ≤ 1048576) :
    Calls Tryz.prog 135 #[.slice A n cap, .int .i64 1048576] w fun e w' => e = .returned (.int .i64 (1048576 - n)) ∧ w = w' := by
  have hs : ¬ (1048576 : Int) - n < 0 := by omega
  go_enter Tryz.func135, Tryz.ntmps135
  go_wp2
  go_ret
  exact ⟨rfl, rfl⟩
theorem szPlan_no (key : Int) (A : Option Addr) (n cap : Nat) (w : World) (hn : n ≤ maxLen) (h : 1048576 < n) :
    Calls Tryz.prog 70 #[.agg (pA key A n cap), .int .i64 1048576] w fun e w' => e = .returned (.int .i64 (-1)) ∧ Below w.heap.size w w' := by
  have C := Lib.hid (fun w => szInt64S_no A n cap w hn h)
  clear hn h
  go_enter Tryz.func70, Tryz.ntmps70
  go_wp2_with fail
  refine (C.out _).mono ?_; rintro e w' ⟨rfl, rfl⟩
  go_wp2_with fail
  go_ret
  exact ⟨rfl, box_below w _⟩
theorem szPlan_yes (key : Int) (A : Option Addr) (n cap : Nat) (w : World) (h : n ≤ 1048576) :
    Calls Tryz.prog 70 #[.agg (pA key A n cap), .int .i64 1048576] w fun e w' => e = .returned (.int .i64 (1048576 - n)) ∧ Below w.heap.size w w' := by
  have C := Lib.hid (fun w => szInt64S_yes A n cap w h)
  have hs : ¬ (1048576 : Int) - n < 0 := by omega
  clear h
  go_enter Tryz.func70, Tryz.ntmps70
  go_wp2_with fail
  refine (C.out _).mono ?_; rintro e w' ⟨rfl, rfl⟩
  go_wp2_with fail
  go_ret
  exact ⟨rfl, box_below w _⟩
theorem eqPlan_same (key : Int) (A C : Option Addr) (l : List Int) (cap cap' : Nat) (w : World) (hn : l.length ≤ 1048576) (hA : Ints w .i64 w.heap.size A l) (hC : Ints w .i64 w.heap.size C l) :
    Calls Tryz.prog 78 #[.agg (pA key A l.length cap), .agg (pA key C l.length cap')] w fun e w' => e = .returned (.bool true) ∧ Below w.heap.size w w' := by
  have E := Lib.hid (fun w hA hC => eqInt64S_same A C l cap cap' w hn hA hC)
  have HA := Lib.hid ((hA.boxed (.cells (pA key A l.length cap) 26)).boxed (.cells (pA key C l.length cap') 26))
  have HC := Lib.hid ((hC.boxed (.cells (pA key A l.length cap) 26)).boxed (.cells (pA key C l.length cap') 26))
  clear hA hC
  go_enter Tryz.func78, Tryz.ntmps78
  go_wp2_with fail
  refine (E.out _ HA.out HC.out).mono ?_; rintro e w1 ⟨rfl, b1⟩
  have B1 := Lib.hid ((((Below.refl w.heap.size w).alloc (Nat.le_refl _) (.cells (pA key A l.length cap) 26)).alloc (by simp) (.cells (pA key C l.length cap') 26)).trans (b1.mono (by simp; omega)))
  clear b1
  go_wp2_with fail
  go_ret
  exact ⟨rfl, B1.out⟩
def isAt (a : Int) : Prop := 0 ≤ a ∧ a ≤ 23
def isTm (t : Int) : Prop := 0 ≤ t ∧ t ≤ 100000
def isTri (a t v : Int) : Prop := isAt a ∧ isTm t ∧ isVal v
instance (a : Int) : Decidable (isAt a) := inferInstanceAs (Decidable (_ ∧ _))
instance (a : Int) : Decidable (isTm a) := inferInstanceAs (Decidable (_ ∧ _))
instance (a : Int) : Decidable (isVal a) := inferInstanceAs (Decidable (_ ∧ _))
instance (a t v : Int) : Decidable (isTri a t v) := inferInstanceAs (Decidable (_ ∧ _))
noncomputable def tagOf (key a t v : Int) : Int := if isTri a t v then mixOf key [2, a, t, v] else -1
theorem tagOf_yes {key a t v : Int} (h : isTri a t v) : tagOf key a t v = mixOf key [2, a, t, v] := by unfold tagOf; rw [if_pos h]
theorem tagOf_no {key a t v : Int} (h : ¬ isTri a t v) : tagOf key a t v = -1 := by unfold tagOf; rw [if_neg h]
theorem tagOf_bd (key a t v : Int) : -1 ≤ tagOf key a t v ∧ tagOf key a t v ≤ 4611686018427387903 := by
  by_cases h : isTri a t v
  · rw [tagOf_yes h]; exact mixOf_bd _ _
  · rw [tagOf_no h]; omega
theorem isTri.i64 {a t v : Int} (h : isTri a t v) : I64 a ∧ I64 t ∧ I64 v := by
  unfold isTri isAt isTm isVal at h
  exact ⟨⟨by omega, by omega⟩, ⟨by omega, by omega⟩, ⟨by omega, by omega⟩⟩
theorem isPlace_yes (s : Int) (w : World) (h : isAt s) :
    Calls Tryz.prog 237 #[.int .i64 s] w fun e w' => e = .returned (.bool true) ∧ w = w' := by
  obtain ⟨h0, h1⟩ := h
  have h2 : s < 24 := by omega
  go_enter Tryz.func237, Tryz.ntmps237
  go_wp2
  go_ret
  exact ⟨rfl, rfl⟩
theorem isPlace_no (s : Int) (w : World) (h : ¬ isAt s) :
    Calls Tryz.prog 237 #[.int .i64 s] w fun e w' => e = .returned (.bool false) ∧ w = w' := by
  unfold isAt at h
  by_cases h0 : 0 ≤ s
  · have h2 : ¬ s < 24 := by omega
    clear h
    go_enter Tryz.func237, Tryz.ntmps237
    go_wp2
    go_ret
    exact ⟨rfl, rfl⟩
  · clear h
    go_enter Tryz.func237, Tryz.ntmps237
    go_wp2
    go_ret
    exact ⟨rfl, rfl⟩
theorem isTime_yes (s : Int) (w : World) (h : isTm s) :
    Calls Tryz.prog 212 #[.int .i64 s] w fun e w' => e = .returned (.bool true) ∧ w = w' := by
  obtain ⟨h0, h1⟩ := h
  go_enter Tryz.func212, Tryz.ntmps212
  go_wp2
  go_ret
  exact ⟨rfl, rfl⟩
theorem isTime_no (s : Int) (w : World) (h : ¬ isTm s) :
    Calls Tryz.prog 212 #[.int .i64 s] w fun e w' => e = .returned (.bool false) ∧ w = w' := by
  unfold isTm at h
  by_cases h0 : 0 ≤ s
  · have h2 : ¬ s ≤ 100000 := by omega
    clear h
    go_enter Tryz.func212, Tryz.ntmps212
    go_wp2
    go_ret
    exact ⟨rfl, rfl⟩
  · clear h
    go_enter Tryz.func212, Tryz.ntmps212
    go_wp2
    go_ret
    exact ⟨rfl, rfl⟩
theorem l3At_yes (s : Int) (w : World) (h : isAt s) :
    Calls Tryz.prog 204 #[.int .i64 s] w fun e w' => e = .returned (.bool true) ∧ w = w' := by
  obtain ⟨h0, h1⟩ := h
  go_enter Tryz.func204, Tryz.ntmps204
  go_wp2_with (go_at_call 69; refine (l1In_yes _ _ _ _ h0 h1).mono ?_; rintro e w' ⟨rfl, rfl⟩)
  go_ret
  exact ⟨rfl, rfl⟩
theorem l3At_no (s : Int) (w : World) (h : ¬ isAt s) :
    Calls Tryz.prog 204 #[.int .i64 s] w fun e w' => e = .returned (.bool false) ∧ w = w' := by
  unfold isAt at h
  have h' : s < 0 ∨ 23 < s := by omega
  clear h
  go_enter Tryz.func204, Tryz.ntmps204
  go_wp2_with (go_at_call 69; refine (l1In_no _ _ _ _ h').mono ?_; rintro e w' ⟨rfl, rfl⟩)
  go_ret
  exact ⟨rfl, rfl⟩
theorem l3Time_yes (s : Int) (w : World) (h : isTm s) :
    Calls Tryz.prog 186 #[.int .i64 s] w fun e w' => e = .returned (.bool true) ∧ w = w' := by
  obtain ⟨h0, h1⟩ := h
  go_enter Tryz.func186, Tryz.ntmps186
  go_wp2_with (go_at_call 69; refine (l1In_yes _ _ _ _ h0 h1).mono ?_; rintro e w' ⟨rfl, rfl⟩)
  go_ret
  exact ⟨rfl, rfl⟩
theorem l3Time_no (s : Int) (w : World) (h : ¬ isTm s) :
    Calls Tryz.prog 186 #[.int .i64 s] w fun e w' => e = .returned (.bool false) ∧ w = w' := by
  unfold isTm at h
  have h' : s < 0 ∨ 100000 < s := by omega
  clear h
  go_enter Tryz.func186, Tryz.ntmps186
  go_wp2_with (go_at_call 69; refine (l1In_no _ _ _ _ h').mono ?_; rintro e w' ⟨rfl, rfl⟩)
  go_ret
  exact ⟨rfl, rfl⟩
theorem tripleOk_calls (a t v : Int) (w : World) :
    Calls Tryz.prog 236 #[.agg #[.int .i64 a, .int .i64 t, .int .i64 v]] w fun e w' => e = .returned (.bool (decide (isTri a t v))) ∧ Below w.heap.size w w' := by
  by_cases ha : isAt a
  · by_cases ht : isTm t
    · by_cases hv : isVal v
      · have C := Lib.hid (fun w => isPlace_yes a w ha)
        have D := Lib.hid (fun w => isTime_yes t w ht)
        have E := Lib.hid (fun w => isValue_yes v w hv)
        rw [decide_eq_true (show isTri a t v from ⟨ha, ht, hv⟩)]
        clear ha ht hv
        go_enter Tryz.func236, Tryz.ntmps236
        go_wp2_with fail
        refine (C.out _).mono ?_; rintro e w' ⟨rfl, rfl⟩
        go_wp2_with fail
        refine (D.out _).mono ?_; rintro e w' ⟨rfl, rfl⟩
        go_wp2_with fail
        refine (E.out _).mono ?_; rintro e w' ⟨rfl, rfl⟩
        go_wp2_with fail
        go_ret
        exact ⟨rfl, (Below.refl _ _).alloc (Nat.le_refl _) _⟩
      · have C := Lib.hid (fun w => isPlace_yes a w ha)
        have D := Lib.hid (fun w => isTime_yes t w ht)
        have E := Lib.hid (fun w => isValue_no v w hv)
        rw [decide_eq_false (show ¬ isTri a t v from fun h => hv h.2.2)]
        clear ha ht hv
        go_enter Tryz.func236, Tryz.ntmps236
        go_wp2_with fail
        refine (C.out _).mono ?_; rintro e w' ⟨rfl, rfl⟩
        go_wp2_with fail
        refine (D.out _).mono ?_; rintro e w' ⟨rfl, rfl⟩
        go_wp2_with fail
        refine (E.out _).mono ?_; rintro e w' ⟨rfl, rfl⟩
        go_wp2_with fail
        go_ret
        exact ⟨rfl, (Below.refl _ _).alloc (Nat.le_refl _) _⟩
    · have C := Lib.hid (fun w => isPlace_yes a w ha)
      have D := Lib.hid (fun w => isTime_no t w ht)
      rw [decide_eq_false (show ¬ isTri a t v from fun h => ht h.2.1)]
      clear ha ht
      go_enter Tryz.func236, Tryz.ntmps236
      go_wp2_with fail
      refine (C.out _).mono ?_; rintro e w' ⟨rfl, rfl⟩
      go_wp2_with fail
      refine (D.out _).mono ?_; rintro e w' ⟨rfl, rfl⟩
      go_wp2_with fail
      go_ret
      exact ⟨rfl, (Below.refl _ _).alloc (Nat.le_refl _) _⟩
  · have C := Lib.hid (fun w => isPlace_no a w ha)
    rw [decide_eq_false (show ¬ isTri a t v from fun h => ha h.1)]
    clear ha
    go_enter Tryz.func236, Tryz.ntmps236
    go_wp2_with fail
    refine (C.out _).mono ?_; rintro e w' ⟨rfl, rfl⟩
    go_wp2_with fail
    go_ret
    exact ⟨rfl, (Below.refl _ _).alloc (Nat.le_refl _) _⟩
theorem specTripleOk_calls (a t v : Int) (w : World) :
    Calls Tryz.prog 178 #[.agg #[.int .i64 a, .int .i64 t, .int .i64 v]] w fun e w' => e = .returned (.bool (decide (isTri a t v))) ∧ Below w.heap.size w w' := by
  by_cases ha : isAt a
  · by_cases ht : isTm t
    · by_cases hv : isVal v
      · have C := Lib.hid (fun w => l3At_yes a w ha)
        have D := Lib.hid (fun w => l3Time_yes t w ht)
        have E := Lib.hid (fun w => l2Value_yes v w hv)
        rw [decide_eq_true (show isTri a t v from ⟨ha, ht, hv⟩)]
        clear ha ht hv
        go_enter Tryz.func178, Tryz.ntmps178
        go_wp2_with fail
        refine (C.out _).mono ?_; rintro e w' ⟨rfl, rfl⟩
        go_wp2_with fail
        refine (D.out _).mono ?_; rintro e w' ⟨rfl, rfl⟩
        go_wp2_with fail
        refine (E.out _).mono ?_; rintro e w' ⟨rfl, rfl⟩
        go_wp2_with fail
        go_ret
        exact ⟨rfl, (Below.refl _ _).alloc (Nat.le_refl _) _⟩
      · have C := Lib.hid (fun w => l3At_yes a w ha)
        have D := Lib.hid (fun w => l3Time_yes t w ht)
        have E := Lib.hid (fun w => l2Value_no v w hv)
        rw [decide_eq_false (show ¬ isTri a t v from fun h => hv h.2.2)]
        clear ha ht hv
        go_enter Tryz.func178, Tryz.ntmps178
        go_wp2_with fail
        refine (C.out _).mono ?_; rintro e w' ⟨rfl, rfl⟩
        go_wp2_with fail
        refine (D.out _).mono ?_; rintro e w' ⟨rfl, rfl⟩
        go_wp2_with fail
        refine (E.out _).mono ?_; rintro e w' ⟨rfl, rfl⟩
        go_wp2_with fail
        go_ret
        exact ⟨rfl, (Below.refl _ _).alloc (Nat.le_refl _) _⟩
    · have C := Lib.hid (fun w => l3At_yes a w ha)
      have D := Lib.hid (fun w => l3Time_no t w ht)
      rw [decide_eq_false (show ¬ isTri a t v from fun h => ht h.2.1)]
      clear ha ht
      go_enter Tryz.func178, Tryz.ntmps178
      go_wp2_with fail
      refine (C.out _).mono ?_; rintro e w' ⟨rfl, rfl⟩
      go_wp2_with fail
      refine (D.out _).mono ?_; rintro e w' ⟨rfl, rfl⟩
      go_wp2_with fail
      go_ret
      exact ⟨rfl, (Below.refl _ _).alloc (Nat.le_refl _) _⟩
  · have C := Lib.hid (fun w => l3At_no a w ha)
    rw [decide_eq_false (show ¬ isTri a t v from fun h => ha h.1)]
    clear ha
    go_enter Tryz.func178, Tryz.ntmps178
    go_wp2_with fail
    refine (C.out _).mono ?_; rintro e w' ⟨rfl, rfl⟩
    go_wp2_with fail
    go_ret
    exact ⟨rfl, (Below.refl _ _).alloc (Nat.le_refl _) _⟩
theorem mixed_four (key x y z u : Int) (g : Nat) (w : World) (hg : w.heap.size = g) (a : I64 x) (b : I64 y) (c : I64 z) (d : I64 u) :
    Calls Tryz.prog 177 (pA key (some ⟨g, 0, none⟩) 4 4) (w.alloc (.cells #[.int .i64 x, .int .i64 y, .int .i64 z, .int .i64 u] 2)) fun e w' => e = .returned (.int .i64 (mixOf key [x, y, z, u])) ∧ w.alloc (.cells #[.int .i64 x, .int .i64 y, .int .i64 z, .int .i64 u] 2) = w' := by
  subst hg
  exact mixed_calls key (some ⟨w.heap.size, 0, none⟩) [x, y, z, u] 4 (w.heap.size + 1) _ (by simp [maxLen]) (CellsAt.reads [x, y, z, u] (CellsAt.new w 2 _)) (I64s.cons a.1 a.2 (i64s_three b c d))
theorem specMix_four (key x y z u : Int) (g : Nat) (w : World) (hg : w.heap.size = g) (a : I64 x) (b : I64 y) (c : I64 z) (d : I64 u) :
    Calls Tryz.prog 181 (pA key (some ⟨g, 0, none⟩) 4 4) (w.alloc (.cells #[.int .i64 x, .int .i64 y, .int .i64 z, .int .i64 u] 2)) fun e w' => e = .returned (.int .i64 (mixOf key [x, y, z, u])) ∧ w.alloc (.cells #[.int .i64 x, .int .i64 y, .int .i64 z, .int .i64 u] 2) = w' := by
  subst hg
  exact specMix_calls key (some ⟨w.heap.size, 0, none⟩) [x, y, z, u] 4 (w.heap.size + 1) _ (by simp [maxLen]) (CellsAt.reads [x, y, z, u] (CellsAt.new w 2 _)) (I64s.cons a.1 a.2 (i64s_three b c d))
theorem two_i64 : I64 2 := ⟨by omega, by omega⟩
theorem tagged_calls (key a t v : Int) (w : World) :
    Calls Tryz.prog 242 #[.int .i64 key, .agg #[.int .i64 a, .int .i64 t, .int .i64 v]] w fun e w' => e = .returned (.int .i64 (tagOf key a t v)) ∧ Below w.heap.size w w' := by
  by_cases h : isTri a t v
  · have K := Lib.hid (fun w => tripleOk_calls a t v w)
    rw [decide_eq_true h] at K
    have C := Lib.hid (fun g w hg => mixed_four key 2 a t v g w hg two_i64 h.i64.1 h.i64.2.1 h.i64.2.2)
    rw [tagOf_yes h]
    clear h
    generalize mixOf key [2, a, t, v] = m at C
    go_enter Tryz.func242, Tryz.ntmps242
    go_wp2_with fail
    refine (K.out _).mono ?_; rintro e w1 ⟨rfl, b1⟩
    have hb := (CellsAt.new w 137 #[.int .i64 a, .int .i64 t, .int .i64 v]).below b1 (by simp)
    have c0 : w1.cell? ⟨w.heap.size, 0, none⟩ = some (.int .i64 a) := hb.cell 0
    have c1 : w1.cell? ⟨w.heap.size, 1, none⟩ = some (.int .i64 t) := hb.cell 1
    have c2 : w1.cell? ⟨w.heap.size, 2, none⟩ = some (.int .i64 v) := hb.cell 2
    have B1 := Lib.hid (((Below.refl w.heap.size w).alloc (Nat.le_refl _) _).trans (b1.mono (by simp)))
    clear hb b1
    go_wp2_with fail
    refine (C.out _ _ ?_).mono ?_; (first | rfl | simp); rintro e w7 ⟨rfl, h7⟩
    subst h7
    go_wp2_with fail
    go_ret
    exact ⟨rfl, B1.out.alloc B1.out.size _⟩
  · have K := Lib.hid (fun w => tripleOk_calls a t v w)
    rw [decide_eq_false h] at K
    rw [tagOf_no h]
    clear h
    go_enter Tryz.func242, Tryz.ntmps242
    go_wp2_with fail
    refine (K.out _).mono ?_; rintro e w1 ⟨rfl, b1⟩
    have B1 := Lib.hid (((Below.refl w.heap.size w).alloc (Nat.le_refl _) _).trans (b1.mono (by simp)))
    clear b1
    go_wp2_with fail
    go_ret
    exact ⟨rfl, B1.out⟩
theorem specTag_calls (key a t v : Int) (w : World) :
    Calls Tryz.prog 172 #[.int .i64 key, .agg #[.int .i64 a, .int .i64 t, .int .i64 v]] w fun e w' => e = .returned (.int .i64 (tagOf key a t v)) ∧ Below w.heap.size w w' := by
  by_cases h : isTri a t v
  · have K := Lib.hid (fun w => specTripleOk_calls a t v w)
    rw [decide_eq_true h] at K
    have C := Lib.hid (fun g w hg => specMix_four key 2 a t v g w hg two_i64 h.i64.1 h.i64.2.1 h.i64.2.2)
    rw [tagOf_yes h]
    clear h
    generalize mixOf key [2, a, t, v] = m at C
    go_enter Tryz.func172, Tryz.ntmps172
    go_wp2_with fail
    refine (K.out _).mono ?_; rintro e w1 ⟨rfl, b1⟩
    have hb := (CellsAt.new w 137 #[.int .i64 a, .int .i64 t, .int .i64 v]).below b1 (by simp)
    have c0 : w1.cell? ⟨w.heap.size, 0, none⟩ = some (.int .i64 a) := hb.cell 0
    have c1 : w1.cell? ⟨w.heap.size, 1, none⟩ = some (.int .i64 t) := hb.cell 1
    have c2 : w1.cell? ⟨w.heap.size, 2, none⟩ = some (.int .i64 v) := hb.cell 2
    have B1 := Lib.hid (((Below.refl w.heap.size w).alloc (Nat.le_refl _) _).trans (b1.mono (by simp)))
    clear hb b1
    go_wp2_with fail
    refine (C.out _ _ ?_).mono ?_; (first | rfl | simp); rintro e w7 ⟨rfl, h7⟩
    subst h7
    go_wp2_with fail
    go_ret
    exact ⟨rfl, B1.out.alloc B1.out.size _⟩
  · have K := Lib.hid (fun w => specTripleOk_calls a t v w)
    rw [decide_eq_false h] at K
    rw [tagOf_no h]
    clear h
    go_enter Tryz.func172, Tryz.ntmps172
    go_wp2_with fail
    refine (K.out _).mono ?_; rintro e w1 ⟨rfl, b1⟩
    have B1 := Lib.hid (((Below.refl w.heap.size w).alloc (Nat.le_refl _) _).trans (b1.mono (by simp)))
    clear b1
    go_wp2_with fail
    go_ret
    exact ⟨rfl, B1.out⟩
theorem turned_calls (by_ : Int) (p : Addr) (w : World) :
    Calls Tryz.prog 243 #[.int .i64 by_, .pointer (some p)] w fun e w' => e = .returned (.func (.func 244) #[] #[.pointer (some p), .pointer (some ⟨w.heap.size, 0, none⟩)]) ∧ w.alloc (.cells #[.int .i64 by_] 2) = w' := by
  have hmf : ∀ (fn : Fn) (first cap : Array Value) (w : World), (Instr.makeFunc fn first cap).run Tryz.prog w = .ok (.func fn first cap) w := fun _ _ _ _ => rfl
  go_enter Tryz.func243, Tryz.ntmps243
  go_wp2_with fail
  go_ret
  exact ⟨rfl, rfl⟩
def IsTurn (w : World) (p : Nat) (s by_ : Int) (v : Value) : Prop :=
  ∃ q, v = .func (.func 244) #[] #[.pointer (some ⟨p, 0, none⟩), .pointer (some ⟨q, 0, none⟩)] ∧ w.cell? ⟨p, 0, none⟩ = some (.int .i64 s) ∧ w.cell? ⟨q, 0, none⟩ = some (.int .i64 by_)
def Veils (s : Int) (w : World) (e : Ending) (w' : World) : Prop :=
  ∃ (p : Nat) (u v : Value), e = .returned (.tuple #[u, v]) ∧ IsTurn w' p s s u ∧ IsTurn w' p s (10007 - s) v ∧ Below w.heap.size w w'
theorem three_cells (w : World) (t : TypeId) (x y z : Value) : (((w.alloc (.cells #[x] t)).alloc (.cells #[y] t)).alloc (.cells #[z] t)).cell? ⟨w.heap.size, 0, none⟩ = some x ∧ (((w.alloc (.cells #[x] t)).alloc (.cells #[y] t)).alloc (.cells #[z] t)).cell? ⟨w.heap.size + 1, 0, none⟩ = some y ∧ (((w.alloc (.cells #[x] t)).alloc (.cells #[y] t)).alloc (.cells #[z] t)).cell? ⟨w.heap.size + 1 + 1, 0, none⟩ = some z := by
  refine ⟨?_, ?_, ?_⟩
  · rw [World.cell?_alloc_past _ _ _ (by simp; omega), World.cell?_alloc_past _ _ _ (by simp), World.cell?_alloc_at _ _ _ _ rfl]; rfl
  · rw [World.cell?_alloc_past _ _ _ (by simp), World.cell?_alloc_at _ _ _ _ (by simp)]; rfl
  · rw [World.cell?_alloc_at _ _ _ _ (by simp)]; rfl
theorem veil_calls (s : Int) (w : World) (s0 : -1 ≤ s) (s1 : s ≤ 10006) :
    Calls Tryz.prog 239 #[.int .i64 s] w (Veils s w) := by
  have hmf : ∀ (fn : Fn) (first cap : Array Value) (w : World), (Instr.makeFunc fn first cap).run Tryz.prog w = .ok (.func fn first cap) w := fun _ _ _ _ => rfl
  have hw : IntKind.i64.wrap (10007 - s) = 10007 - s := IntWalk.i64_in _ (by omega)
  have HW := Lib.hid hw
  clear hw
  go_enter Tryz.func239, Tryz.ntmps239
  go_wp2_with fail
  go_region_with (go_at_call 243; refine (turned_calls _ _ _).mono ?_; rintro e wx ⟨rfl, rfl⟩)
  all_goals
    go_wp2_with fail
    go_ret2
    rw [HW.out]
    have K := three_cells w 2 (.int .i64 s) (.int .i64 s) (.int .i64 (10007 - s))
    have L := three_cells w 2 (.int .i64 s) (.int .i64 (10007 - s)) (.int .i64 s)
    have B := fun x y => ((((Below.refl w.heap.size w).alloc (Nat.le_refl _) (.cells #[.int .i64 s] 2)).alloc (by simp) (.cells #[x] 2)).alloc (by simp; omega) (.cells #[y] 2)).drew
    first
      | exact ⟨w.heap.size, _, _, rfl, ⟨_, rfl, K.1, K.2.1⟩, ⟨_, rfl, K.1, K.2.2⟩, B _ _⟩
      | exact ⟨w.heap.size, _, _, rfl, ⟨_, rfl, L.1, L.2.2⟩, ⟨_, rfl, L.1, L.2.1⟩, B _ _⟩
end Go.Proofs.YtgaecedhkbneaaaGreatDoor.Mx

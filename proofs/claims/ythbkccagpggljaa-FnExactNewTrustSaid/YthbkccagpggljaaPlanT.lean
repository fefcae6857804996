/- CONTRACTS OF spec.FirstOf AND spec.RegionOf: what each call answers, at every plan and every number; nothing that was there is written. -/
import Derived.Test.YthbkccagpggljaaPlanS
namespace Go.Proofs.Ythbkccagpggljaa.Mx
open Go.ChangeShapes Go.WideShapes Go.ChangeAt Go.RowKit
set_option linter.unusedVariables false

theorem upTo_take (l : List Int) (r : Nat) : upTo (l.take r) (l.take r).length = upTo l r := by unfold upTo; rw [List.take_length]
theorem CountsOk.take {l : List Int} (h : CountsOk l) (r : Nat) : CountsOk (l.take r) := by
  intro i hi
  rw [List.length_take] at hi
  rw [List.getD_eq_getElem?_getD, List.getElem?_take_of_lt (by omega), ← List.getD_eq_getElem?_getD]
  exact h i (by omega)

/-- The sum of the first r counts: what a shortened slice is summed to. -/
theorem l5Sum_take (A : Option Addr) (l : List Int) (cap B r : Nat) (w : World) (hl : l.length ≤ 4) (hr : r ≤ l.length) (hA : Ints w .i64 B A l) (hc : CountsOk l) :
    Calls Try.prog 28 #[.slice A r cap] w fun e w' => e = .returned (.int .i64 (upTo l r)) ∧ w = w' := by
  have h := l5Sum_calls A (l.take r) cap B w (by rw [List.length_take]; omega) (hA.take r) (hc.take r)
  rw [upTo_take, List.length_take, Nat.min_eq_left hr] at h
  exact h

theorem specFirst_yes (key : Int) (A : Option Addr) (l : List Int) (cap r : Nat) (w : World) (hn : l.length ≤ maxLen) (hcap : l.length ≤ cap) (hA : Ints w .i64 w.heap.size A l) (hp : planOk key l) (hr : r < l.length) :
    Calls Try.prog 15 #[.agg #[.int .i64 key, .slice A l.length cap], .int .i64 r] w fun e w' => e = .returned (.int .i64 (upTo l r)) ∧ Below w.heap.size w w' := by
  have hl := hp.2.1.2
  have C := Lib.hid (fun w hA => specPlanOk_calls key A l cap w hn hA)
  have HA := Lib.hid (hA.boxed (.cells #[.int .i64 key, .slice A l.length cap] 31))
  have HB := Lib.hid (CellsAt.new w 31 #[.int .i64 key, .slice A l.length cap])
  have D := Lib.hid (fun B w hA => l5Sum_take A l cap B r w hp.2.1.2 (by omega) hA hp.2.2.1)
  have E := Lib.hid (fun w => l1In_yes r 0 (l.length - 1) w (by omega) (by omega))
  rw [okB_yes hp] at C
  obtain ⟨b0, off0, rfl, hb0, _⟩ := hA 0 (by omega)
  clear hA hp
  go_enter Try.func15, Try.ntmps15
  go_wp2_with fail
  refine (C.out _ HA.out).mono ?_; rintro e w1 ⟨rfl, b1⟩
  have hb := HB.out.below b1 (by simp)
  have c0 : w1.cell? ⟨w.heap.size, 0, none⟩ = some (.int .i64 key) := hb.cell 0
  have c1 : w1.cell? ⟨w.heap.size, 1, none⟩ = some (.slice (some ⟨b0, off0, none⟩) l.length cap) := hb.cell 1
  have H1 := Lib.hid ((HA.out.below b1 (Nat.le_refl _)).more b1.size)
  have B1 := Lib.hid ((box_below w _).trans (b1.mono (by simp)))
  clear b1 hb
  go_wp2_with fail
  refine (E.out _).mono ?_; rintro e w2 ⟨rfl, rfl⟩
  go_wp2_with fail
  refine (D.out _ _ H1.out).mono ?_; rintro e w2 ⟨rfl, rfl⟩
  go_wp2_with fail
  go_ret
  exact ⟨rfl, B1.out⟩
theorem specFirst_out (key x : Int) (A : Option Addr) (l : List Int) (cap : Nat) (w : World) (hn : l.length ≤ maxLen) (hA : Ints w .i64 w.heap.size A l) (hp : planOk key l) (hr : x < 0 ∨ l.length ≤ x) :
    Calls Try.prog 15 #[.agg #[.int .i64 key, .slice A l.length cap], .int .i64 x] w fun e w' => e = .returned (.int .i64 (-1)) ∧ Below w.heap.size w w' := by
  have hl := hp.2.1.2
  have C := Lib.hid (fun w hA => specPlanOk_calls key A l cap w hn hA)
  have HA := Lib.hid (hA.boxed (.cells #[.int .i64 key, .slice A l.length cap] 31))
  have HB := Lib.hid (CellsAt.new w 31 #[.int .i64 key, .slice A l.length cap])
  have E := Lib.hid (fun w => l1In_no x 0 (l.length - 1) w (by omega))
  rw [okB_yes hp] at C
  clear hA hp hr
  go_enter Try.func15, Try.ntmps15
  go_wp2_with fail
  refine (C.out _ HA.out).mono ?_; rintro e w1 ⟨rfl, b1⟩
  have hb := HB.out.below b1 (by simp)
  have c0 : w1.cell? ⟨w.heap.size, 0, none⟩ = some (.int .i64 key) := hb.cell 0
  have c1 : w1.cell? ⟨w.heap.size, 1, none⟩ = some (.slice A l.length cap) := hb.cell 1
  have B1 := Lib.hid ((box_below w _).trans (b1.mono (by simp)))
  clear b1 hb
  go_wp2_with fail
  refine (E.out _).mono ?_; rintro e w2 ⟨rfl, rfl⟩
  go_wp2_with fail
  go_ret
  exact ⟨rfl, B1.out⟩
theorem specFirst_no (key x : Int) (A : Option Addr) (l : List Int) (cap : Nat) (w : World) (hn : l.length ≤ maxLen) (hA : Ints w .i64 w.heap.size A l) (hp : ¬ planOk key l) :
    Calls Try.prog 15 #[.agg #[.int .i64 key, .slice A l.length cap], .int .i64 x] w fun e w' => e = .returned (.int .i64 (-1)) ∧ Below w.heap.size w w' := by
  have C := Lib.hid (fun w hA => specPlanOk_calls key A l cap w hn hA)
  have HA := Lib.hid (hA.boxed (.cells #[.int .i64 key, .slice A l.length cap] 31))
  rw [okB_no hp] at C
  clear hA hp
  go_enter Try.func15, Try.ntmps15
  go_wp2_with fail
  refine (C.out _ HA.out).mono ?_; rintro e w1 ⟨rfl, b1⟩
  have B1 := Lib.hid ((box_below w _).trans (b1.mono (by simp)))
  clear b1
  go_wp2_with fail
  go_ret
  exact ⟨rfl, B1.out⟩
/-- spec.FirstOf, at every plan and every number. -/
theorem specFirst_calls (key x : Int) (A : Option Addr) (l : List Int) (cap : Nat) (w : World) (hn : l.length ≤ maxLen) (hcap : l.length ≤ cap) (hA : Ints w .i64 w.heap.size A l) :
    Calls Try.prog 15 #[.agg #[.int .i64 key, .slice A l.length cap], .int .i64 x] w fun e w' => e = .returned (.int .i64 (firstOf key l x)) ∧ Below w.heap.size w w' := by
  by_cases hp : planOk key l
  · by_cases h : 0 ≤ x ∧ x < l.length
    · obtain ⟨r, rfl⟩ : ∃ r : Nat, x = r := ⟨x.toNat, by omega⟩
      rw [firstOf_yes hp (by omega)]
      exact specFirst_yes key A l cap r w hn hcap hA hp (by omega)
    · rw [firstOf_no (fun h' => h h'.2)]
      exact specFirst_out key x A l cap w hn hA hp (by omega)
  · rw [firstOf_no (fun h' => hp h'.1)]
    exact specFirst_no key x A l cap w hn hA hp

/-! ### spec.RegionOf -/
/-- Since world b nothing that was there has turned; the box g holds the plan; the cell c holds x. -/
def PlanS (b : World) (g : Nat) (cs : Array Value) (c : Addr) (x : Value) (w : World) : Prop :=
  Below b.heap.size b w ∧ CellsAt w g 31 cs ∧ c.block < w.heap.size ∧ w.cell? c = some x
theorem PlanS.cells {b : World} {g : Nat} {u v x : Value} {c : Addr} {w : World} (h : PlanS b g #[u, v] c x w) :
    (w.cell? ⟨g, 0, none⟩ = some u ∧ w.cell? ⟨g, 1, none⟩ = some v ∧ w.cell? c = some x) ∧ PlanS b g #[u, v] c x w := ⟨⟨h.2.1.cell 0, h.2.1.cell 1, h.2.2.2⟩, h⟩
theorem PlanS.keep {b : World} {g : Nat} {u v x : Value} {c : Addr} {w w' : World} (hb : Below w.heap.size w w')
    (h : (w.cell? ⟨g, 0, none⟩ = some u ∧ w.cell? ⟨g, 1, none⟩ = some v ∧ w.cell? c = some x) ∧ PlanS b g #[u, v] c x w) :
    (w'.cell? ⟨g, 0, none⟩ = some u ∧ w'.cell? ⟨g, 1, none⟩ = some v ∧ w'.cell? c = some x) ∧ PlanS b g #[u, v] c x w' :=
  PlanS.cells ⟨h.2.1.trans (hb.mono h.2.1.size), h.2.2.1.below hb h.2.2.1.lt, Nat.lt_of_lt_of_le h.2.2.2.1 hb.size, (hb.cell h.2.2.2.1).trans h.2.2.2.2⟩

end Go.Proofs.Ythbkccagpggljaa.Mx

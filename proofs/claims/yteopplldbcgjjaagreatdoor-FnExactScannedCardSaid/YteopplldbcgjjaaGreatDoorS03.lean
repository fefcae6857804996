import Derived.Test.YteopplldbcgjjaaGreatDoorS02
import Derived.Test.YteopplldbcgjjaaGreatDoorS01
import Derived.Deep.RegionWith
namespace Go.Proofs.YteopplldbcgjjaaGreatDoor.Mx
open Go.ChangeShapes Go.WideShapes Go.ChangeAt Go.RowKit
set_option linter.unusedVariables false
theorem upTo_take (l : List Int) (r : Nat) : upTo (l.take r) (l.take r).length = upTo l r := by unfold upTo; rw [List.take_length]
theorem CountsOk.take {l : List Int} (h : CountsOk l) (r : Nat) : CountsOk (l.take r) := by
  intro i hi
  rw [List.length_take] at hi
  rw [List.getD_eq_getElem?_getD, List.getElem?_take_of_lt (by omega), ← List.getD_eq_getElem?_getD]
  exact h i (by omega)
theorem l5Sum_take (A : Option Addr) (l : List Int) (cap B r : Nat) (w : World) (hl : l.length ≤ 4) (hr : r ≤ l.length) (hA : Ints w .i64 B A l) (hc : CountsOk l) :
    Calls Tryz.prog 98 #[.slice A r cap] w fun e w' => e = .returned (.int .i64 (upTo l r)) ∧ w = w' := by
  have h := l5Sum_calls A (l.take r) cap B w (by rw [List.length_take]; omega) (hA.take r) (hc.take r)
  rw [upTo_take, List.length_take, Nat.min_eq_left hr] at h
  exact h
theorem specFirst_yes (key : Int) (A : Option Addr) (l : List Int) (cap r : Nat) (w : World) (hn : l.length ≤ maxLen) (hcap : l.length ≤ cap) (hA : Ints w .i64 w.heap.size A l) (hp : planOk key l) (hr : r < l.length) :
    Calls Tryz.prog 57 #[.agg #[.int .i64 key, .slice A l.length cap], .int .i64 r] w fun e w' => e = .returned (.int .i64 (upTo l r)) ∧ Below w.heap.size w w' := by
  have hl := hp.2.1.2
  have C := Lib.hid (fun w hA => specPlanOk_calls key A l cap w hn hA)
  have HA := Lib.hid (hA.boxed (.cells #[.int .i64 key, .slice A l.length cap] 26))
  have HB := Lib.hid (CellsAt.new w 26 #[.int .i64 key, .slice A l.length cap])
  have D := Lib.hid (fun B w hA => l5Sum_take A l cap B r w hp.2.1.2 (by omega) hA hp.2.2.1)
  have E := Lib.hid (fun w => l1In_yes r 0 (l.length - 1) w (by omega) (by omega))
  rw [okB_yes hp] at C
  obtain ⟨b0, off0, rfl, hb0, _⟩ := hA 0 (by omega)
  clear hA hp
  go_enter Tryz.func57, Tryz.ntmps57
  go_wp2_with fail
  refine (C.out _ HA.out).mono ?_; rintro e w1 ⟨rfl, b1⟩
  have hb := HB.out.below b1 (by simp)
  have c0 : w1.cell? ⟨w.heap.size, 0, none⟩ = some (.int .i64 key) := hb.cell 0
  have c1 : w1.cell? ⟨w.heap.size, 1, none⟩ = some (.slice (some ⟨b0, off0, none⟩) l.length cap) := hb.cell 1
  have H1 := Lib.hid ((HA.out.below b1 (Nat.le_refl _)).more b1.size)
  have B1 := Lib.hid ((box_below w _).trans (b1.mono (by simp)))
  clear b1 hb
  go_wp2_with fail
  refine (E.out _).mono ?_; rintro e w2 ⟨rfl, rfl⟩
  go_wp2_with fail
  refine (D.out _ _ H1.out).mono ?_; rintro e w2 ⟨rfl, rfl⟩
  go_wp2_with fail
  go_ret
  exact ⟨rfl, B1.out⟩
theorem specFirst_out (key x : Int) (A : Option Addr) (l : List Int) (cap : Nat) (w : World) (hn : l.length ≤ maxLen) (hA : Ints w .i64 w.heap.size A l) (hp : planOk key l) (hr : x < 0 ∨ l.length ≤ x) :
    Calls Tryz.prog 57 #[.agg #[.int .i64 key, .slice A l.length cap], .int .i64 x] w fun e w' => e = .returned (.int .i64 (-1)) ∧ Below w.heap.size w w' := by
  have hl := hp.2.1.2
  have C := Lib.hid (fun w hA => specPlanOk_calls key A l cap w hn hA)
  have HA := Lib.hid (hA.boxed (.cells #[.int .i64 key, .slice A l.length cap] 26))
  have HB := Lib.hid (CellsAt.new w 26 #[.int .i64 key, .slice A l.length cap])
  have E := Lib.hid (fun w => l1In_no x 0 (l.length - 1) w (by omega))
  rw [okB_yes hp] at C
  clear hA hp hr
  go_enter Tryz.func57, Tryz.ntmps57
  go_wp2_with fail
  refine (C.out _ HA.out).mono ?_; rintro e w1 ⟨rfl, b1⟩
  have hb := HB.out.below b1 (by simp)
  have c0 : w1.cell? ⟨w.heap.size, 0, none⟩ = some (.int .i64 key) := hb.cell 0
  have c1 : w1.cell? ⟨w.heap.size, 1, none⟩ = some (.slice A l.length cap) := hb.cell 1
  have B1 := Lib.hid ((box_below w _).trans (b1.mono (by simp)))
  clear b1 hb
  go_wp2_with fail
  refine (E.out _).mono ?_; rintro e w2 ⟨rfl, rfl⟩
  go_wp2_with fail
  go_ret
  exact ⟨rfl, B1.out⟩
theorem specFirst_no (key x : Int) (A : Option Addr) (l : List Int) (cap : Nat) (w : World) (hn : l.length ≤ maxLen) (hA : Ints w .i64 w.heap.size A l) (hp : ¬ planOk key l) :
    Calls Tryz.prog 57 #[.agg #[.int .i64 key, .slice A l.length cap], .int .i64 x] w fun e w' => e = .returned (.int .i64 (-1)) ∧ Below w.heap.size w w' := by
  have C := Lib.hid (fun w hA => specPlanOk_calls key A l cap w hn hA)
  have HA := Lib.hid (hA.boxed (.cells #[.int .i64 key, .slice A l.length cap] 26))
  rw [okB_no hp] at C
  clear hA hp
  go_enter Tryz.func57, Tryz.ntmps57
  go_wp2_with fail
  refine (C.out _ HA.out).mono ?_; rintro e w1 ⟨rfl, b1⟩
  have B1 := Lib.hid ((box_below w _).trans (b1.mono (by simp)))
  clear b1
  go_wp2_with fail
  go_ret
  exact ⟨rfl, B1.out⟩
theorem specFirst_calls (key x : Int) (A : Option Addr) (l : List Int) (cap : Nat) (w : World) (hn : l.length ≤ maxLen) (hcap : l.length ≤ cap) (hA : Ints w .i64 w.heap.size A l) :
    Calls Tryz.prog 57 #[.agg #[.int .i64 key, .slice A l.length cap], .int .i64 x] w fun e w' => e = .returned (.int .i64 (firstOf key l x)) ∧ Below w.heap.size w w' := by
  by_cases hp : planOk key l
  · by_cases h : 0 ≤ x ∧ x < l.length
    · obtain ⟨r, rfl⟩ : ∃ r : Nat, x = r := ⟨x.toNat, by omega⟩
      rw [firstOf_yes hp (by omega)]
      exact specFirst_yes key A l cap r w hn hcap hA hp (by omega)
    · rw [firstOf_no (fun h' => h h'.2)]
      exact specFirst_out key x A l cap w hn hA hp (by omega)
  · rw [firstOf_no (fun h' => hp h'.1)]
    exact specFirst_no key x A l cap w hn hA hp
/-! ### spec.RegionOf -/
end Go.Proofs.YteopplldbcgjjaaGreatDoor.Mx
namespace Go.Proofs.YteopplldbcgjjaaGreatDoor.Mx
open Go.ChangeShapes Go.WideShapes Go.ChangeAt Go.RowKit
set_option linter.unusedVariables false
theorem szInt64S_no (A : Option Addr) (n cap : Nat) (w : World) (hn : n ≤ maxLen) (h : 1048576 < n) :
    Calls Tryz.prog 62 #[.slice A n cap, .int .i64 1048576] w fun e w' => e = .returned (.int .i64 (-1)) ∧ w = w' := by
  unfold maxLen at hn
  have hs : (1048576 : Int) - n < 0 := by omega
  go_enter Tryz.func62, Tryz.ntmps62
  go_wp2
  go_ret
  exact ⟨rfl, rfl⟩
theorem szInt64S_yes (A : Option Addr) (n cap : Nat) (w : World) (h : n ≤ 1048576) :
    Calls Tryz.prog 62 #[.slice A n cap, .int .i64 1048576] w fun e w' => e = .returned (.int .i64 (1048576 - n)) ∧ w = w' := by
  have hs : ¬ (1048576 : Int) - n < 0 := by omega
  go_enter Tryz.func62, Tryz.ntmps62
  go_wp2
  go_ret
  exact ⟨rfl, rfl⟩
theorem szPlan_no (key : Int) (A : Option Addr) (n cap : Nat) (w : World) (hn : n ≤ maxLen) (h : 1048576 < n) :
    Calls Tryz.prog 20 #[.agg #[.int .i64 key, .slice A n cap], .int .i64 1048576] w fun e w' => e = .returned (.int .i64 (-1)) ∧ Below w.heap.size w w' := by
  have C := Lib.hid (fun w => szInt64S_no A n cap w hn h)
  clear hn h
  go_enter Tryz.func20, Tryz.ntmps20
  go_wp2_with fail
  refine (C.out _).mono ?_; rintro e w' ⟨rfl, rfl⟩
  go_wp2_with fail
  go_ret
  exact ⟨rfl, box_below w _⟩
theorem szPlan_yes (key : Int) (A : Option Addr) (n cap : Nat) (w : World) (h : n ≤ 1048576) :
    Calls Tryz.prog 20 #[.agg #[.int .i64 key, .slice A n cap], .int .i64 1048576] w fun e w' => e = .returned (.int .i64 (1048576 - n)) ∧ Below w.heap.size w w' := by
  have C := Lib.hid (fun w => szInt64S_yes A n cap w h)
  have hs : ¬ (1048576 : Int) - n < 0 := by omega
  clear h
  go_enter Tryz.func20, Tryz.ntmps20
  go_wp2_with fail
  refine (C.out _).mono ?_; rintro e w' ⟨rfl, rfl⟩
  go_wp2_with fail
  go_ret
  exact ⟨rfl, box_below w _⟩
def NewRow (w : World) (g : Nat) (l : List Int) : Prop := g < w.heap.size ∧ ∀ i, i < l.length → w.cell? ⟨g, i, none⟩ = some (.int .i64 (l.getD i 0))
theorem NewRow.ints {w : World} {g : Nat} {l : List Int} (h : NewRow w g l) : Ints w .i64 w.heap.size (some ⟨g, 0, none⟩) l := fun i hi => ⟨g, 0, rfl, h.1, by rw [Nat.zero_add]; exact h.2 i hi⟩
theorem NewRow.set {w : World} {g p : Nat} {l : List Int} (h : NewRow w g l) (hne : p ≠ g) (i : Nat) (v : Value) : NewRow (w.setCell ⟨p, i, none⟩ v) g l :=
  ⟨by simpa using h.1, fun k hk => (gb_set (gb_refl w (some p)) i v).cell (h.2 k hk) (by intro e; injection e with e; exact hne e.symm)⟩
theorem toInt64S_new (A : Option Addr) (l : List Int) (cap : Nat) (w : World) (hn : l.length ≤ 1048576) (hA : Ints w .i64 w.heap.size A l) :
    Calls Tryz.prog 63 #[.slice A l.length cap] w fun e w' => ∃ g, e = .returned (.slice (some ⟨g, 0, none⟩) l.length l.length) ∧ w.heap.size ≤ g ∧ Below w.heap.size w w' ∧ NewRow w' g l := by
  refine (toInt64S_calls A l cap w hn hA).mono ?_
  rintro e w' ⟨rfl, hb, hr⟩
  exact ⟨_, rfl, Nat.le_refl _, hb, hr.lt, fun i hi => hr.cell hi⟩
theorem toPlan_calls (key : Int) (A : Option Addr) (l : List Int) (cap : Nat) (w : World) (hn : l.length ≤ 1048576) (hA : Ints w .i64 w.heap.size A l) :
    Calls Tryz.prog 21 #[.agg #[.int .i64 key, .slice A l.length cap]] w fun e w' => ∃ C, e = .returned (.agg #[.int .i64 key, .slice C l.length l.length]) ∧ Ints w' .i64 w'.heap.size C l ∧ Below w.heap.size w w' := by
  have T := Lib.hid (fun w hA => toInt64S_new A l cap w hn hA)
  have k0 := (((Kept.refl w).new 49 #[.int .i64 key, .slice A l.length cap]).new 26 #[.int .i64 0, .slice none 0 0]).new 26 #[.int .i64 key, .slice none 0 0]
  rw [show ((w.alloc (.cells #[.int .i64 key, .slice A l.length cap] 49)).alloc (.cells #[.int .i64 0, .slice none 0 0] 26)).heap.size = w.heap.size + 1 + 1 by simp, show (w.alloc (.cells #[.int .i64 key, .slice A l.length cap] 49)).heap.size = w.heap.size + 1 by simp] at k0
  have HA := Lib.hid ((hA.below k0.1 (Nat.le_refl _)).more k0.1.size)
  have K0 := Lib.hid k0
  clear hA k0
  go_enter Tryz.func21, Tryz.ntmps21
  go_wp2_with fail
  refine (T.out _ HA.out).mono ?_; rintro e w1 ⟨g, rfl, hg, b1, h1⟩
  have hg2 : w.heap.size + 1 + 1 ≠ g := by simp at hg; omega
  have hg1 : w.heap.size + 1 ≠ g := by simp at hg; omega
  clear hg
  have k1 := K0.out.below b1
  have c20 : w1.cell? ⟨w.heap.size + 1 + 1, 0, none⟩ = some (.int .i64 key) := k1.cell (List.mem_cons_self ..) 0
  have c21 : w1.cell? ⟨w.heap.size + 1 + 1, 1, none⟩ = some (.slice none 0 0) := k1.cell (List.mem_cons_self ..) 1
  have c10 : w1.cell? ⟨w.heap.size + 1, 0, none⟩ = some (.int .i64 0) := k1.tail.cell (List.mem_cons_self ..) 0
  have c11 : w1.cell? ⟨w.heap.size + 1, 1, none⟩ = some (.slice none 0 0) := k1.tail.cell (List.mem_cons_self ..) 1
  have f2 := k1.frozen (List.mem_cons_self ..) 1
  have f10 := k1.tail.frozen (List.mem_cons_self ..) 0
  have f11 := k1.tail.frozen (List.mem_cons_self ..) 1
  have K1 := Lib.hid k1
  have H1 := Lib.hid h1
  clear b1 h1 k1
  go_wp2_with fail
  have k2 := K1.out.set (by intro x hx; simp at hx; rcases hx with rfl | rfl <;> simp <;> omega) 1 (.slice (some ⟨g, 0, none⟩) l.length l.length)
  have k3 := (k2.tail.set (by intro x hx; simp at hx; subst hx; simp) 0 (.int .i64 key)).set (by intro x hx; simp at hx; subst hx; simp) 1 (.slice (some ⟨g, 0, none⟩) l.length l.length)
  have h3 := ((H1.out.set hg2 1 (.slice (some ⟨g, 0, none⟩) l.length l.length)).set hg1 0 (.int .i64 key)).set hg1 1 (.slice (some ⟨g, 0, none⟩) l.length l.length)
  generalize World.setCell _ _ _ = w4 at k3 h3 ⊢
  have d0 : w4.cell? ⟨w.heap.size + 1, 0, none⟩ = some (.int .i64 key) := k3.cell (List.mem_cons_self ..) 0
  have d1 : w4.cell? ⟨w.heap.size + 1, 1, none⟩ = some (.slice (some ⟨g, 0, none⟩) l.length l.length) := k3.cell (List.mem_cons_self ..) 1
  exact bodyPost_ret (v := .agg #[.int .i64 key, .slice (some ⟨g, 0, none⟩) l.length l.length]) (by simp [results, Tryz.results21, go_sem, d0, d1]) rfl ⟨_, rfl, h3.ints, k3.1⟩
theorem eqPlan_same (key : Int) (A C : Option Addr) (l : List Int) (cap cap' : Nat) (w : World) (hn : l.length ≤ 1048576) (hA : Ints w .i64 w.heap.size A l) (hC : Ints w .i64 w.heap.size C l) :
    Calls Tryz.prog 26 #[.agg #[.int .i64 key, .slice A l.length cap], .agg #[.int .i64 key, .slice C l.length cap']] w fun e w' => e = .returned (.bool true) ∧ Below w.heap.size w w' := by
  have E := Lib.hid (fun w hA hC => eqInt64S_same A C l cap cap' w hn hA hC)
  have HA := Lib.hid ((hA.boxed (.cells #[.int .i64 key, .slice A l.length cap] 26)).boxed (.cells #[.int .i64 key, .slice C l.length cap'] 26))
  have HC := Lib.hid ((hC.boxed (.cells #[.int .i64 key, .slice A l.length cap] 26)).boxed (.cells #[.int .i64 key, .slice C l.length cap'] 26))
  clear hA hC
  go_enter Tryz.func26, Tryz.ntmps26
  go_wp2_with fail
  refine (E.out _ HA.out HC.out).mono ?_; rintro e w1 ⟨rfl, b1⟩
  have B1 := Lib.hid ((((Below.refl w.heap.size w).alloc (Nat.le_refl _) (.cells #[.int .i64 key, .slice A l.length cap] 26)).alloc (by simp) (.cells #[.int .i64 key, .slice C l.length cap'] 26)).trans (b1.mono (by simp; omega)))
  clear b1
  go_wp2_with fail
  go_ret
  exact ⟨rfl, B1.out⟩
end Go.Proofs.YteopplldbcgjjaaGreatDoor.Mx
namespace Go.Proofs.YteopplldbcgjjaaGreatDoor.Mx
open Go.ChangeShapes Go.WideShapes Go.ChangeAt Go.RowKit
set_option linter.unusedVariables false
def isAt (a : Int) : Prop := 0 ≤ a ∧ a ≤ 23
def isTm (t : Int) : Prop := 0 ≤ t ∧ t ≤ 100000
def isTri (a t v : Int) : Prop := isAt a ∧ isTm t ∧ isVal v
instance (a : Int) : Decidable (isAt a) := inferInstanceAs (Decidable (_ ∧ _))
instance (a : Int) : Decidable (isTm a) := inferInstanceAs (Decidable (_ ∧ _))
instance (a : Int) : Decidable (isVal a) := inferInstanceAs (Decidable (_ ∧ _))
instance (a t v : Int) : Decidable (isTri a t v) := inferInstanceAs (Decidable (_ ∧ _))
noncomputable def tagOf (key a t v : Int) : Int := if isTri a t v then mixOf key [2, a, t, v] else -1
theorem tagOf_yes {key a t v : Int} (h : isTri a t v) : tagOf key a t v = mixOf key [2, a, t, v] := by unfold tagOf; rw [if_pos h]
theorem tagOf_no {key a t v : Int} (h : ¬ isTri a t v) : tagOf key a t v = -1 := by unfold tagOf; rw [if_neg h]
theorem tagOf_bd (key a t v : Int) : -1 ≤ tagOf key a t v ∧ tagOf key a t v ≤ 4611686018427387903 := by
  by_cases h : isTri a t v
  · rw [tagOf_yes h]; exact mixOf_bd _ _
  · rw [tagOf_no h]; omega
theorem isTri.i64 {a t v : Int} (h : isTri a t v) : I64 a ∧ I64 t ∧ I64 v := by
  unfold isTri isAt isTm isVal at h
  exact ⟨⟨by omega, by omega⟩, ⟨by omega, by omega⟩, ⟨by omega, by omega⟩⟩
theorem isPlace_yes (s : Int) (w : World) (h : isAt s) :
    Calls Tryz.prog 84 #[.int .i64 s] w fun e w' => e = .returned (.bool true) ∧ w = w' := by
  obtain ⟨h0, h1⟩ := h
  have h2 : s < 24 := by omega
  go_enter Tryz.func84, Tryz.ntmps84
  go_wp2
  go_ret
  exact ⟨rfl, rfl⟩
theorem isPlace_no (s : Int) (w : World) (h : ¬ isAt s) :
    Calls Tryz.prog 84 #[.int .i64 s] w fun e w' => e = .returned (.bool false) ∧ w = w' := by
  unfold isAt at h
  by_cases h0 : 0 ≤ s
  · have h2 : ¬ s < 24 := by omega
    clear h
    go_enter Tryz.func84, Tryz.ntmps84
    go_wp2
    go_ret
    exact ⟨rfl, rfl⟩
  · clear h
    go_enter Tryz.func84, Tryz.ntmps84
    go_wp2
    go_ret
    exact ⟨rfl, rfl⟩
theorem isTime_yes (s : Int) (w : World) (h : isTm s) :
    Calls Tryz.prog 90 #[.int .i64 s] w fun e w' => e = .returned (.bool true) ∧ w = w' := by
  obtain ⟨h0, h1⟩ := h
  go_enter Tryz.func90, Tryz.ntmps90
  go_wp2
  go_ret
  exact ⟨rfl, rfl⟩
theorem isTime_no (s : Int) (w : World) (h : ¬ isTm s) :
    Calls Tryz.prog 90 #[.int .i64 s] w fun e w' => e = .returned (.bool false) ∧ w = w' := by
  unfold isTm at h
  by_cases h0 : 0 ≤ s
  · have h2 : ¬ s ≤ 100000 := by omega
    clear h
    go_enter Tryz.func90, Tryz.ntmps90
    go_wp2
    go_ret
    exact ⟨rfl, rfl⟩
  · clear h
    go_enter Tryz.func90, Tryz.ntmps90
    go_wp2
    go_ret
    exact ⟨rfl, rfl⟩
theorem l3At_yes (s : Int) (w : World) (h : isAt s) :
    Calls Tryz.prog 80 #[.int .i64 s] w fun e w' => e = .returned (.bool true) ∧ w = w' := by
  obtain ⟨h0, h1⟩ := h
  go_enter Tryz.func80, Tryz.ntmps80
  go_wp2_with (go_at_call 76; refine (l1In_yes _ _ _ _ h0 h1).mono ?_; rintro e w' ⟨rfl, rfl⟩)
  go_ret
  exact ⟨rfl, rfl⟩
theorem l3At_no (s : Int) (w : World) (h : ¬ isAt s) :
    Calls Tryz.prog 80 #[.int .i64 s] w fun e w' => e = .returned (.bool false) ∧ w = w' := by
  unfold isAt at h
  have h' : s < 0 ∨ 23 < s := by omega
  clear h
  go_enter Tryz.func80, Tryz.ntmps80
  go_wp2_with (go_at_call 76; refine (l1In_no _ _ _ _ h').mono ?_; rintro e w' ⟨rfl, rfl⟩)
  go_ret
  exact ⟨rfl, rfl⟩
theorem l3Time_yes (s : Int) (w : World) (h : isTm s) :
    Calls Tryz.prog 77 #[.int .i64 s] w fun e w' => e = .returned (.bool true) ∧ w = w' := by
  obtain ⟨h0, h1⟩ := h
  go_enter Tryz.func77, Tryz.ntmps77
  go_wp2_with (go_at_call 76; refine (l1In_yes _ _ _ _ h0 h1).mono ?_; rintro e w' ⟨rfl, rfl⟩)
  go_ret
  exact ⟨rfl, rfl⟩
theorem l3Time_no (s : Int) (w : World) (h : ¬ isTm s) :
    Calls Tryz.prog 77 #[.int .i64 s] w fun e w' => e = .returned (.bool false) ∧ w = w' := by
  unfold isTm at h
  have h' : s < 0 ∨ 100000 < s := by omega
  clear h
  go_enter Tryz.func77, Tryz.ntmps77
  go_wp2_with (go_at_call 76; refine (l1In_no _ _ _ _ h').mono ?_; rintro e w' ⟨rfl, rfl⟩)
  go_ret
  exact ⟨rfl, rfl⟩
theorem tripleOk_calls (a t v : Int) (w : World) :
    Calls Tryz.prog 144 #[.agg #[.int .i64 a, .int .i64 t, .int .i64 v]] w fun e w' => e = .returned (.bool (decide (isTri a t v))) ∧ Below w.heap.size w w' := by
  by_cases ha : isAt a
  · by_cases ht : isTm t
    · by_cases hv : isVal v
      · have C := Lib.hid (fun w => isPlace_yes a w ha)
        have D := Lib.hid (fun w => isTime_yes t w ht)
        have E := Lib.hid (fun w => isValue_yes v w hv)
        rw [decide_eq_true (show isTri a t v from ⟨ha, ht, hv⟩)]
        clear ha ht hv
        go_enter Tryz.func144, Tryz.ntmps144
        go_wp2_with fail
        refine (C.out _).mono ?_; rintro e w' ⟨rfl, rfl⟩
        go_wp2_with fail
        refine (D.out _).mono ?_; rintro e w' ⟨rfl, rfl⟩
        go_wp2_with fail
        refine (E.out _).mono ?_; rintro e w' ⟨rfl, rfl⟩
        go_wp2_with fail
        go_ret
        exact ⟨rfl, (Below.refl _ _).alloc (Nat.le_refl _) _⟩
      · have C := Lib.hid (fun w => isPlace_yes a w ha)
        have D := Lib.hid (fun w => isTime_yes t w ht)
        have E := Lib.hid (fun w => isValue_no v w hv)
        rw [decide_eq_false (show ¬ isTri a t v from fun h => hv h.2.2)]
        clear ha ht hv
        go_enter Tryz.func144, Tryz.ntmps144
        go_wp2_with fail
        refine (C.out _).mono ?_; rintro e w' ⟨rfl, rfl⟩
        go_wp2_with fail
        refine (D.out _).mono ?_; rintro e w' ⟨rfl, rfl⟩
        go_wp2_with fail
        refine (E.out _).mono ?_; rintro e w' ⟨rfl, rfl⟩
        go_wp2_with fail
        go_ret
        exact ⟨rfl, (Below.refl _ _).alloc (Nat.le_refl _) _⟩
    · have C := Lib.hid (fun w => isPlace_yes a w ha)
      have D := Lib.hid (fun w => isTime_no t w ht)
      rw [decide_eq_false (show ¬ isTri a t v from fun h => ht h.2.1)]
      clear ha ht
      go_enter Tryz.func144, Tryz.ntmps144
      go_wp2_with fail
      refine (C.out _).mono ?_; rintro e w' ⟨rfl, rfl⟩
      go_wp2_with fail
      refine (D.out _).mono ?_; rintro e w' ⟨rfl, rfl⟩
      go_wp2_with fail
      go_ret
      exact ⟨rfl, (Below.refl _ _).alloc (Nat.le_refl _) _⟩
  · have C := Lib.hid (fun w => isPlace_no a w ha)
    rw [decide_eq_false (show ¬ isTri a t v from fun h => ha h.1)]
    clear ha
    go_enter Tryz.func144, Tryz.ntmps144
    go_wp2_with fail
    refine (C.out _).mono ?_; rintro e w' ⟨rfl, rfl⟩
    go_wp2_with fail
    go_ret
    exact ⟨rfl, (Below.refl _ _).alloc (Nat.le_refl _) _⟩
theorem specTripleOk_calls (a t v : Int) (w : World) :
    Calls Tryz.prog 82 #[.agg #[.int .i64 a, .int .i64 t, .int .i64 v]] w fun e w' => e = .returned (.bool (decide (isTri a t v))) ∧ Below w.heap.size w w' := by
  by_cases ha : isAt a
  · by_cases ht : isTm t
    · by_cases hv : isVal v
      · have C := Lib.hid (fun w => l3At_yes a w ha)
        have D := Lib.hid (fun w => l3Time_yes t w ht)
        have E := Lib.hid (fun w => l2Value_yes v w hv)
        rw [decide_eq_true (show isTri a t v from ⟨ha, ht, hv⟩)]
        clear ha ht hv
        go_enter Tryz.func82, Tryz.ntmps82
        go_wp2_with fail
        refine (C.out _).mono ?_; rintro e w' ⟨rfl, rfl⟩
        go_wp2_with fail
        refine (D.out _).mono ?_; rintro e w' ⟨rfl, rfl⟩
        go_wp2_with fail
        refine (E.out _).mono ?_; rintro e w' ⟨rfl, rfl⟩
        go_wp2_with fail
        go_ret
        exact ⟨rfl, (Below.refl _ _).alloc (Nat.le_refl _) _⟩
      · have C := Lib.hid (fun w => l3At_yes a w ha)
        have D := Lib.hid (fun w => l3Time_yes t w ht)
        have E := Lib.hid (fun w => l2Value_no v w hv)
        rw [decide_eq_false (show ¬ isTri a t v from fun h => hv h.2.2)]
        clear ha ht hv
        go_enter Tryz.func82, Tryz.ntmps82
        go_wp2_with fail
        refine (C.out _).mono ?_; rintro e w' ⟨rfl, rfl⟩
        go_wp2_with fail
        refine (D.out _).mono ?_; rintro e w' ⟨rfl, rfl⟩
        go_wp2_with fail
        refine (E.out _).mono ?_; rintro e w' ⟨rfl, rfl⟩
        go_wp2_with fail
        go_ret
        exact ⟨rfl, (Below.refl _ _).alloc (Nat.le_refl _) _⟩
    · have C := Lib.hid (fun w => l3At_yes a w ha)
      have D := Lib.hid (fun w => l3Time_no t w ht)
      rw [decide_eq_false (show ¬ isTri a t v from fun h => ht h.2.1)]
      clear ha ht
      go_enter Tryz.func82, Tryz.ntmps82
      go_wp2_with fail
      refine (C.out _).mono ?_; rintro e w' ⟨rfl, rfl⟩
      go_wp2_with fail
      refine (D.out _).mono ?_; rintro e w' ⟨rfl, rfl⟩
      go_wp2_with fail
      go_ret
      exact ⟨rfl, (Below.refl _ _).alloc (Nat.le_refl _) _⟩
  · have C := Lib.hid (fun w => l3At_no a w ha)
    rw [decide_eq_false (show ¬ isTri a t v from fun h => ha h.1)]
    clear ha
    go_enter Tryz.func82, Tryz.ntmps82
    go_wp2_with fail
    refine (C.out _).mono ?_; rintro e w' ⟨rfl, rfl⟩
    go_wp2_with fail
    go_ret
    exact ⟨rfl, (Below.refl _ _).alloc (Nat.le_refl _) _⟩
theorem mixed_four (key x y z u : Int) (g : Nat) (w : World) (hg : w.heap.size = g) (a : I64 x) (b : I64 y) (c : I64 z) (d : I64 u) :
    Calls Tryz.prog 121 #[.int .i64 key, .slice (some ⟨g, 0, none⟩) 4 4] (w.alloc (.cells #[.int .i64 x, .int .i64 y, .int .i64 z, .int .i64 u] 2)) fun e w' => e = .returned (.int .i64 (mixOf key [x, y, z, u])) ∧ w.alloc (.cells #[.int .i64 x, .int .i64 y, .int .i64 z, .int .i64 u] 2) = w' := by
  subst hg
  exact mixed_calls key (some ⟨w.heap.size, 0, none⟩) [x, y, z, u] 4 (w.heap.size + 1) _ (by simp [maxLen]) (CellsAt.reads [x, y, z, u] (CellsAt.new w 2 _)) (I64s.cons a.1 a.2 (i64s_three b c d))
theorem specMix_four (key x y z u : Int) (g : Nat) (w : World) (hg : w.heap.size = g) (a : I64 x) (b : I64 y) (c : I64 z) (d : I64 u) :
    Calls Tryz.prog 99 #[.int .i64 key, .slice (some ⟨g, 0, none⟩) 4 4] (w.alloc (.cells #[.int .i64 x, .int .i64 y, .int .i64 z, .int .i64 u] 2)) fun e w' => e = .returned (.int .i64 (mixOf key [x, y, z, u])) ∧ w.alloc (.cells #[.int .i64 x, .int .i64 y, .int .i64 z, .int .i64 u] 2) = w' := by
  subst hg
  exact specMix_calls key (some ⟨w.heap.size, 0, none⟩) [x, y, z, u] 4 (w.heap.size + 1) _ (by simp [maxLen]) (CellsAt.reads [x, y, z, u] (CellsAt.new w 2 _)) (I64s.cons a.1 a.2 (i64s_three b c d))
theorem two_i64 : I64 2 := ⟨by omega, by omega⟩
theorem tagged_calls (key a t v : Int) (w : World) :
    Calls Tryz.prog 154 #[.int .i64 key, .agg #[.int .i64 a, .int .i64 t, .int .i64 v]] w fun e w' => e = .returned (.int .i64 (tagOf key a t v)) ∧ Below w.heap.size w w' := by
  by_cases h : isTri a t v
  · have K := Lib.hid (fun w => tripleOk_calls a t v w)
    rw [decide_eq_true h] at K
    have C := Lib.hid (fun g w hg => mixed_four key 2 a t v g w hg two_i64 h.i64.1 h.i64.2.1 h.i64.2.2)
    rw [tagOf_yes h]
    clear h
    generalize mixOf key [2, a, t, v] = m at C
    go_enter Tryz.func154, Tryz.ntmps154
    go_wp2_with fail
    refine (K.out _).mono ?_; rintro e w1 ⟨rfl, b1⟩
    have hb := (CellsAt.new w 85 #[.int .i64 a, .int .i64 t, .int .i64 v]).below b1 (by simp)
    have c0 : w1.cell? ⟨w.heap.size, 0, none⟩ = some (.int .i64 a) := hb.cell 0
    have c1 : w1.cell? ⟨w.heap.size, 1, none⟩ = some (.int .i64 t) := hb.cell 1
    have c2 : w1.cell? ⟨w.heap.size, 2, none⟩ = some (.int .i64 v) := hb.cell 2
    have B1 := Lib.hid (((Below.refl w.heap.size w).alloc (Nat.le_refl _) _).trans (b1.mono (by simp)))
    clear hb b1
    go_wp2_with fail
    refine (C.out _ _ ?_).mono ?_; (first | rfl | simp); rintro e w7 ⟨rfl, h7⟩
    subst h7
    go_wp2_with fail
    go_ret
    exact ⟨rfl, B1.out.alloc B1.out.size _⟩
  · have K := Lib.hid (fun w => tripleOk_calls a t v w)
    rw [decide_eq_false h] at K
    rw [tagOf_no h]
    clear h
    go_enter Tryz.func154, Tryz.ntmps154
    go_wp2_with fail
    refine (K.out _).mono ?_; rintro e w1 ⟨rfl, b1⟩
    have B1 := Lib.hid (((Below.refl w.heap.size w).alloc (Nat.le_refl _) _).trans (b1.mono (by simp)))
    clear b1
    go_wp2_with fail
    go_ret
    exact ⟨rfl, B1.out⟩
theorem specTag_calls (key a t v : Int) (w : World) :
    Calls Tryz.prog 59 #[.int .i64 key, .agg #[.int .i64 a, .int .i64 t, .int .i64 v]] w fun e w' => e = .returned (.int .i64 (tagOf key a t v)) ∧ Below w.heap.size w w' := by
  by_cases h : isTri a t v
  · have K := Lib.hid (fun w => specTripleOk_calls a t v w)
    rw [decide_eq_true h] at K
    have C := Lib.hid (fun g w hg => specMix_four key 2 a t v g w hg two_i64 h.i64.1 h.i64.2.1 h.i64.2.2)
    rw [tagOf_yes h]
    clear h
    generalize mixOf key [2, a, t, v] = m at C
    go_enter Tryz.func59, Tryz.ntmps59
    go_wp2_with fail
    refine (K.out _).mono ?_; rintro e w1 ⟨rfl, b1⟩
    have hb := (CellsAt.new w 85 #[.int .i64 a, .int .i64 t, .int .i64 v]).below b1 (by simp)
    have c0 : w1.cell? ⟨w.heap.size, 0, none⟩ = some (.int .i64 a) := hb.cell 0
    have c1 : w1.cell? ⟨w.heap.size, 1, none⟩ = some (.int .i64 t) := hb.cell 1
    have c2 : w1.cell? ⟨w.heap.size, 2, none⟩ = some (.int .i64 v) := hb.cell 2
    have B1 := Lib.hid (((Below.refl w.heap.size w).alloc (Nat.le_refl _) _).trans (b1.mono (by simp)))
    clear hb b1
    go_wp2_with fail
    refine (C.out _ _ ?_).mono ?_; (first | rfl | simp); rintro e w7 ⟨rfl, h7⟩
    subst h7
    go_wp2_with fail
    go_ret
    exact ⟨rfl, B1.out.alloc B1.out.size _⟩
  · have K := Lib.hid (fun w => specTripleOk_calls a t v w)
    rw [decide_eq_false h] at K
    rw [tagOf_no h]
    clear h
    go_enter Tryz.func59, Tryz.ntmps59
    go_wp2_with fail
    refine (K.out _).mono ?_; rintro e w1 ⟨rfl, b1⟩
    have B1 := Lib.hid (((Below.refl w.heap.size w).alloc (Nat.le_refl _) _).trans (b1.mono (by simp)))
    clear b1
    go_wp2_with fail
    go_ret
    exact ⟨rfl, B1.out⟩
end Go.Proofs.YteopplldbcgjjaaGreatDoor.Mx
namespace Go.Proofs.YteopplldbcgjjaaGreatDoor.Mx
open Go.ChangeShapes Go.WideShapes Go.ChangeAt Go.RowKit
set_option linter.unusedVariables false
theorem turned_calls (by_ : Int) (p : Addr) (w : World) :
    Calls Tryz.prog 119 #[.int .i64 by_, .pointer (some p)] w fun e w' => e = .returned (.func (.func 120) #[] #[.pointer (some p), .pointer (some ⟨w.heap.size, 0, none⟩)]) ∧ w.alloc (.cells #[.int .i64 by_] 2) = w' := by
  have hmf : ∀ (fn : Fn) (first cap : Array Value) (w : World), (Instr.makeFunc fn first cap).run Tryz.prog w = .ok (.func fn first cap) w := fun _ _ _ _ => rfl
  go_enter Tryz.func119, Tryz.ntmps119
  go_wp2_with fail
  go_ret
  exact ⟨rfl, rfl⟩
def IsTurn (w : World) (p : Nat) (s by_ : Int) (v : Value) : Prop :=
  ∃ q, v = .func (.func 120) #[] #[.pointer (some ⟨p, 0, none⟩), .pointer (some ⟨q, 0, none⟩)] ∧ w.cell? ⟨p, 0, none⟩ = some (.int .i64 s) ∧ w.cell? ⟨q, 0, none⟩ = some (.int .i64 by_)
def Veils (s : Int) (w : World) (e : Ending) (w' : World) : Prop :=
  ∃ (p : Nat) (u v : Value), e = .returned (.tuple #[u, v]) ∧ IsTurn w' p s s u ∧ IsTurn w' p s (10007 - s) v ∧ Below w.heap.size w w'
theorem three_cells (w : World) (t : TypeId) (x y z : Value) : (((w.alloc (.cells #[x] t)).alloc (.cells #[y] t)).alloc (.cells #[z] t)).cell? ⟨w.heap.size, 0, none⟩ = some x ∧ (((w.alloc (.cells #[x] t)).alloc (.cells #[y] t)).alloc (.cells #[z] t)).cell? ⟨w.heap.size + 1, 0, none⟩ = some y ∧ (((w.alloc (.cells #[x] t)).alloc (.cells #[y] t)).alloc (.cells #[z] t)).cell? ⟨w.heap.size + 1 + 1, 0, none⟩ = some z := by
  refine ⟨?_, ?_, ?_⟩
  · rw [World.cell?_alloc_past _ _ _ (by simp; omega), World.cell?_alloc_past _ _ _ (by simp), World.cell?_alloc_at _ _ _ _ rfl]; rfl
  · rw [World.cell?_alloc_past _ _ _ (by simp), World.cell?_alloc_at _ _ _ _ (by simp)]; rfl
  · rw [World.cell?_alloc_at _ _ _ _ (by simp)]; rfl
theorem veil_calls (s : Int) (w : World) (s0 : -1 ≤ s) (s1 : s ≤ 10006) :
    Calls Tryz.prog 87 #[.int .i64 s] w (Veils s w) := by
  have hmf : ∀ (fn : Fn) (first cap : Array Value) (w : World), (Instr.makeFunc fn first cap).run Tryz.prog w = .ok (.func fn first cap) w := fun _ _ _ _ => rfl
  have hw : IntKind.i64.wrap (10007 - s) = 10007 - s := IntWalk.i64_in _ (by omega)
  have HW := Lib.hid hw
  clear hw
  go_enter Tryz.func87, Tryz.ntmps87
  go_wp2_with fail
  go_region_with (go_at_call 119; refine (turned_calls _ _ _).mono ?_; rintro e wx ⟨rfl, rfl⟩)
  all_goals
    go_wp2_with fail
    go_ret2
    rw [HW.out]
    have K := three_cells w 2 (.int .i64 s) (.int .i64 s) (.int .i64 (10007 - s))
    have L := three_cells w 2 (.int .i64 s) (.int .i64 (10007 - s)) (.int .i64 s)
    have B := fun x y => ((((Below.refl w.heap.size w).alloc (Nat.le_refl _) (.cells #[.int .i64 s] 2)).alloc (by simp) (.cells #[x] 2)).alloc (by simp; omega) (.cells #[y] 2)).drew
    first
      | exact ⟨w.heap.size, _, _, rfl, ⟨_, rfl, K.1, K.2.1⟩, ⟨_, rfl, K.1, K.2.2⟩, B _ _⟩
      | exact ⟨w.heap.size, _, _, rfl, ⟨_, rfl, L.1, L.2.2⟩, ⟨_, rfl, L.1, L.2.1⟩, B _ _⟩
end Go.Proofs.YteopplldbcgjjaaGreatDoor.Mx
namespace Go.Proofs.YteopplldbcgjjaaGreatDoor.Mx
open Go.ChangeShapes Go.WideShapes Go.ChangeAt Go.RowKit
set_option linter.unusedVariables false
open Classical in
noncomputable def turnOf (s by_ v : Int) : Int := if 0 ≤ s ∧ isVal v then (v + by_) % 10007 else -1
theorem turnOf_yes {s by_ v : Int} (h : 0 ≤ s) (hv : isVal v) : turnOf s by_ v = (v + by_) % 10007 := by unfold turnOf; rw [if_pos ⟨h, hv⟩]
theorem turnOf_neg {s by_ v : Int} (h : s < 0) : turnOf s by_ v = -1 := by unfold turnOf; rw [if_neg (by omega)]
theorem turnOf_no {s by_ v : Int} (hv : ¬ isVal v) : turnOf s by_ v = -1 := by unfold turnOf; rw [if_neg (fun h => hv h.2)]
theorem turnOf_bd (s by_ v : Int) : -1 ≤ turnOf s by_ v ∧ turnOf s by_ v ≤ 10006 := by
  unfold turnOf
  split <;> omega
noncomputable def hiddenOf (key at_ time v : Int) : Int := turnOf (streamOf key at_ time) (streamOf key at_ time) v
noncomputable def shownOf (key at_ time v : Int) : Int := turnOf (streamOf key at_ time) (10007 - streamOf key at_ time) v
theorem hidden_nat {key at_ time v : Int} (k0 : 1 ≤ key) (k1 : key ≤ 1000000) (ha : 0 ≤ at_) (ht : 0 ≤ time) (hv : isVal v) : ¬ hiddenOf key at_ time v < 0 := by
  have := streamOf_nat k0 k1 ha ht
  unfold hiddenOf
  rw [turnOf_yes this hv]
  unfold isVal at hv
  omega
theorem turn_calls (s by_ v : Int) (p q : Nat) (w : World) (hp : w.cell? ⟨p, 0, none⟩ = some (.int .i64 s)) (hq : w.cell? ⟨q, 0, none⟩ = some (.int .i64 by_)) (b0 : -1 ≤ by_) (b1 : by_ ≤ 10008) (b2 : 0 ≤ s → 0 ≤ by_) :
    Calls Tryz.prog 120 #[.int .i64 v, .pointer (some ⟨p, 0, none⟩), .pointer (some ⟨q, 0, none⟩)] w fun e w' => e = .returned (.int .i64 (turnOf s by_ v)) ∧ w = w' := by
  by_cases hs : s < 0
  · rw [turnOf_neg hs]
    go_enter Tryz.func120, Tryz.ntmps120
    go_wp2_with fail
    go_ret
    exact ⟨rfl, rfl⟩
  · by_cases hv : isVal v
    · rw [turnOf_yes (by omega) hv]
      have C := Lib.hid (fun w => isValue_yes v w hv)
      obtain ⟨v0, v1⟩ := hv
      have b3 := b2 (by omega)
      go_enter Tryz.func120, Tryz.ntmps120
      go_wp2_with fail
      refine (C.out _).mono ?_; rintro e w' ⟨rfl, rfl⟩
      go_wp2_with fail
      go_ret
      exact ⟨rfl, rfl⟩
    · rw [turnOf_no hv]
      have C := Lib.hid (fun w => isValue_no v w hv)
      clear hv
      go_enter Tryz.func120, Tryz.ntmps120
      go_wp2_with fail
      refine (C.out _).mono ?_; rintro e w' ⟨rfl, rfl⟩
      go_wp2_with fail
      go_ret
      exact ⟨rfl, rfl⟩
theorem hidden_calls (key at_ time v : Int) (w : World) (ha : I64 at_) (ht : I64 time) :
    Calls Tryz.prog 116 #[.int .i64 key, .int .i64 at_, .int .i64 time, .int .i64 v] w fun e w' => e = .returned (.int .i64 (hiddenOf key at_ time v)) ∧ Below w.heap.size w w' := by
  have C := Lib.hid (fun w => stream_calls key at_ time w ha ht)
  have S := streamOf_bd key at_ time
  unfold hiddenOf
  clear ha ht
  generalize streamOf key at_ time = s at C S
  obtain ⟨s0, s1⟩ := S
  go_enter Tryz.func116, Tryz.ntmps116
  go_wp2_with fail
  refine (C.out _).mono ?_; rintro e w1 ⟨rfl, b1⟩
  have B1 := Lib.hid b1
  clear b1
  go_wp2_with fail
  refine (veil_calls s w1 s0 s1).mono ?_; rintro e w2 ⟨p, U, V, rfl, hU, hV, b2⟩
  have B2 := Lib.hid (B1.out.trans (b2.mono B1.out.size))
  obtain ⟨q, rfl, cp, cq⟩ := hU
  have T := Lib.hid (turn_calls s _ v p q w2 cp cq (by omega) (by omega) (by omega))
  clear b2 cp cq hV
  go_wp2_with fail
  refine T.out.mono ?_; rintro e w' ⟨rfl, rfl⟩
  go_wp2_with fail
  go_ret
  exact ⟨rfl, B2.out⟩
theorem shown_calls (key at_ time v : Int) (w : World) (ha : I64 at_) (ht : I64 time) :
    Calls Tryz.prog 50 #[.int .i64 key, .int .i64 at_, .int .i64 time, .int .i64 v] w fun e w' => e = .returned (.int .i64 (shownOf key at_ time v)) ∧ Below w.heap.size w w' := by
  have C := Lib.hid (fun w => stream_calls key at_ time w ha ht)
  have S := streamOf_bd key at_ time
  unfold shownOf
  clear ha ht
  generalize streamOf key at_ time = s at C S
  obtain ⟨s0, s1⟩ := S
  go_enter Tryz.func50, Tryz.ntmps50
  go_wp2_with fail
  refine (C.out _).mono ?_; rintro e w1 ⟨rfl, b1⟩
  have B1 := Lib.hid b1
  clear b1
  go_wp2_with fail
  refine (veil_calls s w1 s0 s1).mono ?_; rintro e w2 ⟨p, U, V, rfl, hU, hV, b2⟩
  have B2 := Lib.hid (B1.out.trans (b2.mono B1.out.size))
  obtain ⟨q, rfl, cp, cq⟩ := hV
  have T := Lib.hid (turn_calls s _ v p q w2 cp cq (by omega) (by omega) (by omega))
  clear b2 cp cq hU
  go_wp2_with fail
  refine T.out.mono ?_; rintro e w' ⟨rfl, rfl⟩
  go_wp2_with fail
  go_ret
  exact ⟨rfl, B2.out⟩
theorem specHidden_calls (key at_ time v : Int) (w : World) (ha : I64 at_) (ht : I64 time) :
    Calls Tryz.prog 83 #[.int .i64 key, .int .i64 at_, .int .i64 time, .int .i64 v] w fun e w' => e = .returned (.int .i64 (hiddenOf key at_ time v)) ∧ Below w.heap.size w w' := by
  have C := Lib.hid (fun w => specStream_calls key at_ time w ha ht)
  have S := streamOf_bd key at_ time
  unfold hiddenOf
  clear ha ht
  generalize streamOf key at_ time = s at C S
  obtain ⟨s0, s1⟩ := S
  by_cases hs : s < 0
  · rw [turnOf_neg hs]
    go_enter Tryz.func83, Tryz.ntmps83
    go_wp2_with fail
    refine (C.out _).mono ?_; rintro e w1 ⟨rfl, b1⟩
    have B1 := Lib.hid b1
    clear b1
    go_wp2_with fail
    go_ret
    exact ⟨rfl, B1.out⟩
  · by_cases hv : isVal v
    · rw [turnOf_yes (by omega) hv]
      have D := Lib.hid (fun w => l2Value_yes v w hv)
      obtain ⟨v0, v1⟩ := hv
      go_enter Tryz.func83, Tryz.ntmps83
      go_wp2_with fail
      refine (C.out _).mono ?_; rintro e w1 ⟨rfl, b1⟩
      have B1 := Lib.hid b1
      clear b1
      go_wp2_with fail
      refine (D.out _).mono ?_; rintro e w' ⟨rfl, rfl⟩
      go_wp2_with fail
      go_ret
      exact ⟨rfl, B1.out⟩
    · rw [turnOf_no hv]
      have D := Lib.hid (fun w => l2Value_no v w hv)
      clear hv
      go_enter Tryz.func83, Tryz.ntmps83
      go_wp2_with fail
      refine (C.out _).mono ?_; rintro e w1 ⟨rfl, b1⟩
      have B1 := Lib.hid b1
      clear b1
      go_wp2_with fail
      refine (D.out _).mono ?_; rintro e w' ⟨rfl, rfl⟩
      go_wp2_with fail
      go_ret
      exact ⟨rfl, B1.out⟩
theorem specShown_calls (key at_ time v : Int) (w : World) (ha : I64 at_) (ht : I64 time) :
    Calls Tryz.prog 81 #[.int .i64 key, .int .i64 at_, .int .i64 time, .int .i64 v] w fun e w' => e = .returned (.int .i64 (shownOf key at_ time v)) ∧ Below w.heap.size w w' := by
  have C := Lib.hid (fun w => specStream_calls key at_ time w ha ht)
  have S := streamOf_bd key at_ time
  unfold shownOf
  clear ha ht
  generalize streamOf key at_ time = s at C S
  obtain ⟨s0, s1⟩ := S
  by_cases hs : s < 0
  · rw [turnOf_neg hs]
    go_enter Tryz.func81, Tryz.ntmps81
    go_wp2_with fail
    refine (C.out _).mono ?_; rintro e w1 ⟨rfl, b1⟩
    have B1 := Lib.hid b1
    clear b1
    go_wp2_with fail
    go_ret
    exact ⟨rfl, B1.out⟩
  · by_cases hv : isVal v
    · rw [turnOf_yes (by omega) hv]
      have D := Lib.hid (fun w => l2Value_yes v w hv)
      obtain ⟨v0, v1⟩ := hv
      go_enter Tryz.func81, Tryz.ntmps81
      go_wp2_with fail
      refine (C.out _).mono ?_; rintro e w1 ⟨rfl, b1⟩
      have B1 := Lib.hid b1
      clear b1
      go_wp2_with fail
      refine (D.out _).mono ?_; rintro e w' ⟨rfl, rfl⟩
      go_wp2_with fail
      go_ret
      exact ⟨by rw [show v + (10007 - s) = v - s + 10007 by omega]; rfl, B1.out⟩
    · rw [turnOf_no hv]
      have D := Lib.hid (fun w => l2Value_no v w hv)
      clear hv
      go_enter Tryz.func81, Tryz.ntmps81
      go_wp2_with fail
      refine (C.out _).mono ?_; rintro e w1 ⟨rfl, b1⟩
      have B1 := Lib.hid b1
      clear b1
      go_wp2_with fail
      refine (D.out _).mono ?_; rintro e w' ⟨rfl, rfl⟩
      go_wp2_with fail
      go_ret
      exact ⟨rfl, B1.out⟩
end Go.Proofs.YteopplldbcgjjaaGreatDoor.Mx

import Derived.Test.YtgaecedhkbneaaaGreatDoorH03
import Derived.Test.YtgaecedhkbneaaaGreatDoorH04
import Derived.Test.YtgaecedhkbneaaaGreatDoorH13
import Derived.Test.YtgaecedhkbneaaaGreatDoorH05
import Derived.Deep.CutRange
import Derived.Test.YtgaecedhkbneaaaGreatDoorH22
import Derived.Test.YtgaecedhkbneaaaGreatDoorRows
import Derived.LaidLaws
import Derived.LaidMore
import Derived.LaidHandle
namespace Go.Proofs.YtgaecedhkbneaaaGreatDoor.Mx
open Go.ChangeShapes Go.WideShapes Go.ChangeAt Go.RowKit
set_option linter.unusedVariables false
theorem number_calls (m : Int) (w : World) : Calls Tryz.prog 238 #[.int .i64 m] w fun e w' => e = .returned (.int .i64 m) ∧ w = w' := by
  go_enter Tryz.func238, Tryz.ntmps238
  go_wp2_with fail
  go_ret
  exact ⟨rfl, rfl⟩
theorem inTime_yes (m : Int) (w : World) (h : isTm m) : Calls Tryz.prog 231 #[.int .i64 m] w fun e w' => e = .returned (.bool true) ∧ w = w' := by
  have C := Lib.hid (fun w => number_calls m w)
  have D := Lib.hid (fun w => isTime_yes m w h)
  clear h
  go_enter Tryz.func231, Tryz.ntmps231
  go_wp2_with fail
  refine (C.out _).mono ?_; rintro e w' ⟨rfl, rfl⟩
  go_wp2_with fail
  refine (D.out _).mono ?_; rintro e w' ⟨rfl, rfl⟩
  go_wp2_with fail
  go_ret
  exact ⟨rfl, rfl⟩
theorem inTime_no (m : Int) (w : World) (h : ¬ isTm m) : Calls Tryz.prog 231 #[.int .i64 m] w fun e w' => e = .returned (.bool false) ∧ w = w' := by
  have C := Lib.hid (fun w => number_calls m w)
  have D := Lib.hid (fun w => isTime_no m w h)
  clear h
  go_enter Tryz.func231, Tryz.ntmps231
  go_wp2_with fail
  refine (C.out _).mono ?_; rintro e w' ⟨rfl, rfl⟩
  go_wp2_with fail
  refine (D.out _).mono ?_; rintro e w' ⟨rfl, rfl⟩
  go_wp2_with fail
  go_ret
  exact ⟨rfl, rfl⟩
theorem isRight_calls (t v : Int) (w : World) :
    Calls Tryz.prog 216 #[.agg (cA t v)] w fun e w' => e = .returned (.bool (decide (isCell t v))) ∧ Below w.heap.size w w' := by
  by_cases ht : isTm t
  · have D := Lib.hid (fun w => inTime_yes t w ht)
    by_cases hv : isVal v
    · have E := Lib.hid (fun w => isValue_yes v w hv)
      rw [decide_eq_true (show isCell t v from ⟨ht, hv⟩)]
      clear ht hv
      go_enter Tryz.func216, Tryz.ntmps216
      go_wp2_with fail
      refine (D.out _).mono ?_; rintro e w' ⟨rfl, rfl⟩
      go_wp2_with fail
      refine (E.out _).mono ?_; rintro e w' ⟨rfl, rfl⟩
      go_wp2_with fail
      go_ret
      exact ⟨rfl, (Below.refl _ _).alloc (Nat.le_refl _) _⟩
    · have E := Lib.hid (fun w => isValue_no v w hv)
      rw [decide_eq_false (show ¬ isCell t v from fun h => hv h.2)]
      clear ht hv
      go_enter Tryz.func216, Tryz.ntmps216
      go_wp2_with fail
      refine (D.out _).mono ?_; rintro e w' ⟨rfl, rfl⟩
      go_wp2_with fail
      refine (E.out _).mono ?_; rintro e w' ⟨rfl, rfl⟩
      go_wp2_with fail
      go_ret
      exact ⟨rfl, (Below.refl _ _).alloc (Nat.le_refl _) _⟩
  · have D := Lib.hid (fun w => inTime_no t w ht)
    rw [decide_eq_false (show ¬ isCell t v from fun h => ht h.1)]
    clear ht
    go_enter Tryz.func216, Tryz.ntmps216
    go_wp2_with fail
    refine (D.out _).mono ?_; rintro e w' ⟨rfl, rfl⟩
    go_wp2_with fail
    go_ret
    exact ⟨rfl, (Below.refl _ _).alloc (Nat.le_refl _) _⟩
theorem timedOf_calls (t v : Int) (w : World) :
    Calls Tryz.prog 215 #[.agg (cA t v)] w fun e w' => e = .returned (.agg (cA t v)) ∧ Below w.heap.size w w' := by
  go_enter Tryz.func215, Tryz.ntmps215
  go_wp2_with fail
  exact bodyPost_ret (v := .agg (cA t v)) (by simp [results, Tryz.results215, go_sem]) rfl ⟨rfl, ((Below.refl _ _).alloc (Nat.le_refl _) _).alloc (by simp) _⟩
theorem ansCellOk : AnsCellOk := by
  intro t v w _ _
  have C := Lib.hid (fun w => timedOf_calls t v w)
  have D := Lib.hid (fun w => isRight_calls t v w)
  generalize decide (isCell t v) = b at D
  go_enter Tryz.func184, Tryz.ntmps184
  go_wp2_with fail
  refine (C.out _).mono ?_; rintro e w1 ⟨rfl, b1⟩
  have B1 := Lib.hid (((Below.refl w.heap.size w).alloc (Nat.le_refl _) _).trans (b1.mono (by simp)))
  clear b1
  go_wp2_with fail
  refine (D.out _).mono ?_; rintro e w2 ⟨rfl, b2⟩
  have B2 := Lib.hid (B1.out.trans (b2.mono B1.out.size))
  clear b2
  go_wp2_with fail
  go_ret
  exact ⟨rfl, B2.out⟩
theorem way_no (key a t v : Int) (f : Value) (w : World) (h : ¬ (isAt a ∧ isCell t v)) :
    Calls Tryz.prog 227 #[.agg (cA t v), f, .int .i64 key, .int .i64 a] w fun e w' => e = .returned (.int .i64 (-1)) ∧ Below w.heap.size w w' := by
  by_cases ha : isAt a
  · have C := Lib.hid (fun w => isPlace_yes a w ha)
    have D := Lib.hid (fun w => isRight_calls t v w)
    rw [decide_eq_false (show ¬ isCell t v from fun h' => h ⟨ha, h'⟩)] at D
    clear ha h
    go_enter Tryz.func227, Tryz.ntmps227
    go_wp2_with fail
    refine (C.out _).mono ?_; rintro e w' ⟨rfl, rfl⟩
    go_wp2_with fail
    refine (D.out _).mono ?_; rintro e w2 ⟨rfl, b2⟩
    have B2 := Lib.hid (((Below.refl w.heap.size w).alloc (Nat.le_refl _) _).trans (b2.mono (by simp)))
    clear b2
    go_wp2_with fail
    go_ret
    exact ⟨rfl, B2.out⟩
  · have C := Lib.hid (fun w => isPlace_no a w ha)
    clear ha h
    go_enter Tryz.func227, Tryz.ntmps227
    go_wp2_with fail
    refine (C.out _).mono ?_; rintro e w' ⟨rfl, rfl⟩
    go_wp2_with fail
    go_ret
    exact ⟨rfl, (Below.refl _ _).alloc (Nat.le_refl _) _⟩
set_option maxRecDepth 20000 in
theorem way_yesH (key a t v z : Int) (w : World) (ha : isAt a) (hc : isCell t v)
    (H : ∀ w, Calls Tryz.prog 229 #[.int .i64 key, .int .i64 a, .int .i64 t, .int .i64 v] w fun e w' => e = .returned (.int .i64 z) ∧ Below w.heap.size w w') :
    Calls Tryz.prog 227 #[.agg (cA t v), .func (.func 229) #[] #[], .int .i64 key, .int .i64 a] w fun e w' => e = .returned (.int .i64 z) ∧ Below w.heap.size w w' := by
  have C := Lib.hid (fun w => isPlace_yes a w ha)
  have D := Lib.hid (fun w => isRight_calls t v w)
  rw [decide_eq_true hc] at D
  have N := Lib.hid (fun w => number_calls t w)
  have K := Lib.hid ((Kept.refl w).new 222 (cA t v))
  have G := Lib.hid H
  clear ha hc H
  go_enter Tryz.func227, Tryz.ntmps227
  go_wp2_with fail
  refine (C.out _).mono ?_; rintro e w' ⟨rfl, rfl⟩
  go_wp2_with fail
  refine (D.out _).mono ?_; rintro e w1 ⟨rfl, b1⟩
  have k1 := K.out.below b1
  clear b1
  go_wp2_with fail
  have P1 : ∀ u, Kept w [(w.heap.size, 222, (cA t v))] u → Calls Tryz.prog 229 #[.int .i64 key, .int .i64 a, .int .i64 t, .int .i64 v] u fun e w' => e = .returned (.int .i64 z) ∧ Kept w [(w.heap.size, 222, (cA t v))] w' :=
    fun u hu => (G.out u).mono fun e w' h => ⟨h.1, hu.below h.2⟩
  have P2 : ∀ u, Kept w [(w.heap.size, 222, (cA t v))] u → Calls Tryz.prog 238 #[.int .i64 t] u fun e w' => e = .returned (.int .i64 t) ∧ Kept w [(w.heap.size, 222, (cA t v))] w' :=
    fun u hu => class_same hu (N.out u)
  have PP1 := Lib.hid P1
  have PP2 := Lib.hid P2
  clear P1 P2
  refine wp_region_class (C := fun u => Kept w [(w.heap.size, 222, (cA t v))] u) (by kernel_rfl) (by kernel_rfl) k1.drew ?_
  clear k1
  iterate 10
    (first
      | go_big_quiet_skip
      | (go_big_quiet_want
         go_big_quiet_op
         first
           | go_big_quiet_on
           | (apply Exists.intro
              refine ⟨fun u hu => ?_, ?_⟩
              · first
                  | with_reducible rfl
                  | (go_at_call 238; exact PP2.out u hu)
                  | (go_at_call 229; exact PP1.out u hu)
                  | (have c0 := hu.cell (List.mem_cons_self ..) 0; have c1 := hu.cell (List.mem_cons_self ..) 1; simp only [List.getElem?_toArray, List.getElem?_cons_zero, List.getElem?_cons_succ] at c0 c1; go_simp; first | done | with_reducible rfl)
              go_big_quiet_on)))
  refine wpQuiet_nil ?_; intro wz hz
  go_wp2_with fail
  go_ret
  exact ⟨rfl, hz.1⟩
set_option maxRecDepth 20000 in
theorem way_yesS (key a t v z : Int) (w : World) (ha : isAt a) (hc : isCell t v)
    (H : ∀ w, Calls Tryz.prog 228 #[.int .i64 key, .int .i64 a, .int .i64 t, .int .i64 v] w fun e w' => e = .returned (.int .i64 z) ∧ Below w.heap.size w w') :
    Calls Tryz.prog 227 #[.agg (cA t v), .func (.func 228) #[] #[], .int .i64 key, .int .i64 a] w fun e w' => e = .returned (.int .i64 z) ∧ Below w.heap.size w w' := by
  have C := Lib.hid (fun w => isPlace_yes a w ha)
  have D := Lib.hid (fun w => isRight_calls t v w)
  rw [decide_eq_true hc] at D
  have N := Lib.hid (fun w => number_calls t w)
  have K := Lib.hid ((Kept.refl w).new 222 (cA t v))
  have G := Lib.hid H
  clear ha hc H
  go_enter Tryz.func227, Tryz.ntmps227
  go_wp2_with fail
  refine (C.out _).mono ?_; rintro e w' ⟨rfl, rfl⟩
  go_wp2_with fail
  refine (D.out _).mono ?_; rintro e w1 ⟨rfl, b1⟩
  have k1 := K.out.below b1
  clear b1
  go_wp2_with fail
  have P1 : ∀ u, Kept w [(w.heap.size, 222, (cA t v))] u → Calls Tryz.prog 228 #[.int .i64 key, .int .i64 a, .int .i64 t, .int .i64 v] u fun e w' => e = .returned (.int .i64 z) ∧ Kept w [(w.heap.size, 222, (cA t v))] w' :=
    fun u hu => (G.out u).mono fun e w' h => ⟨h.1, hu.below h.2⟩
  have P2 : ∀ u, Kept w [(w.heap.size, 222, (cA t v))] u → Calls Tryz.prog 238 #[.int .i64 t] u fun e w' => e = .returned (.int .i64 t) ∧ Kept w [(w.heap.size, 222, (cA t v))] w' :=
    fun u hu => class_same hu (N.out u)
  have PP1 := Lib.hid P1
  have PP2 := Lib.hid P2
  clear P1 P2
  refine wp_region_class (C := fun u => Kept w [(w.heap.size, 222, (cA t v))] u) (by kernel_rfl) (by kernel_rfl) k1.drew ?_
  clear k1
  iterate 10
    (first
      | go_big_quiet_skip
      | (go_big_quiet_want
         go_big_quiet_op
         first
           | go_big_quiet_on
           | (apply Exists.intro
              refine ⟨fun u hu => ?_, ?_⟩
              · first
                  | with_reducible rfl
                  | (go_at_call 238; exact PP2.out u hu)
                  | (go_at_call 228; exact PP1.out u hu)
                  | (have c0 := hu.cell (List.mem_cons_self ..) 0; have c1 := hu.cell (List.mem_cons_self ..) 1; simp only [List.getElem?_toArray, List.getElem?_cons_zero, List.getElem?_cons_succ] at c0 c1; go_simp; first | done | with_reducible rfl)
              go_big_quiet_on)))
  refine wpQuiet_nil ?_; intro wz hz
  go_wp2_with fail
  go_ret
  exact ⟨rfl, hz.1⟩
theorem shownOf_nokey {key a t v : Int} (hk : ¬ isKey key) : shownOf key a t v = -1 := by
  have h : streamOf key a t = -1 := by
    unfold streamOf
    rw [if_pos (by rw [mixOf_key (by unfold isKey at hk; omega)]; omega)]
  unfold shownOf; rw [h]; exact turnOf_neg (by omega)
theorem hiddenOf_nokey {key a t v : Int} (hk : ¬ isKey key) : hiddenOf key a t v = -1 := by
  have h : streamOf key a t = -1 := by
    unfold streamOf
    rw [if_pos (by rw [mixOf_key (by unfold isKey at hk; omega)]; omega)]
  unfold hiddenOf; rw [h]; exact turnOf_neg (by omega)
theorem ansValueIn : AnsValueIn := by
  intro key a t v w _ ha ht _
  have C := Lib.hid (fun w => timedOf_calls t v w)
  have D : ∀ w, Calls Tryz.prog 227 #[.agg (cA t v), .func (.func 228) #[] #[], .int .i64 key, .int .i64 a] w fun e w' => e = .returned (.int .i64 (valueIn key a t v)) ∧ Below w.heap.size w w' := by
    intro w
    by_cases h : isAt a ∧ isCell t v
    · have e : valueIn key a t v = shownOf key a t v := by
        by_cases hk : isKey key
        · exact valueIn_yes hk h.1 h.2
        · rw [valueIn_no (fun h' => hk h'.1), shownOf_nokey hk]
      rw [e]
      exact way_yesS key a t v _ w h.1 h.2 (fun w => shown_calls key a t v w ha ht)
    · rw [valueIn_no (fun h' => h h'.2)]
      exact way_no key a t v _ w h
  have DD := Lib.hid D
  generalize valueIn key a t v = z at DD ⊢
  clear D ha ht
  go_enter Tryz.func201, Tryz.ntmps201
  go_wp2_with fail
  refine (C.out _).mono ?_; rintro e w1 ⟨rfl, b1⟩
  have B1 := Lib.hid (((Below.refl w.heap.size w).alloc (Nat.le_refl _) _).trans (b1.mono (by simp)))
  clear b1
  go_wp2_with fail
  refine (DD.out _).mono ?_; rintro e w2 ⟨rfl, b2⟩
  have B2 := Lib.hid (B1.out.trans (b2.mono B1.out.size))
  clear b2
  go_wp2_with fail
  go_ret
  exact ⟨rfl, B2.out⟩
theorem ansCellOf : AnsCellOf := by
  intro key a t v w _ ha ht _
  have k0 := ((Kept.refl w).new 112 zC).new 222 (cA t v)
  rw [show (w.alloc (.cells zC 112)).heap.size = w.heap.size + 1 by simp] at k0
  have K0 := Lib.hid k0
  clear k0
  by_cases h : isKey key ∧ isTri a t v
  · rw [cellOf_yes h.1 h.2]
    have hz : ¬ hiddenOf key a t v < 0 := hidden_nat h.1.1 h.1.2 (by have := h.2.1.1; omega) (by have := h.2.2.1.1; omega) h.2.2.2
    have D := Lib.hid (fun w => way_yesH key a t v _ w h.2.1 h.2.2 (fun w => hidden_calls key a t v w ha ht))
    generalize hiddenOf key a t v = z at D hz
    clear h ha ht
    go_enter Tryz.func202, Tryz.ntmps202
    go_wp2_with fail
    refine (D.out _).mono ?_; rintro e w1 ⟨rfl, b1⟩
    have k1 := K0.out.below b1
    have r0 := k1.cell (List.mem_cons_of_mem _ (List.mem_cons_self ..)) 0
    have r1 := k1.cell (List.mem_cons_of_mem _ (List.mem_cons_self ..)) 1
    have f0 := k1.frozen (List.mem_cons_of_mem _ (List.mem_cons_self ..)) 0
    have f1 := k1.frozen (List.mem_cons_of_mem _ (List.mem_cons_self ..)) 1
    simp only [List.getElem?_toArray, List.getElem?_cons_zero, List.getElem?_cons_succ] at r0 r1
    have K1 := Lib.hid k1.tail
    clear b1 k1
    go_wp2_with fail
    obtain ⟨w9, e9, ⟨d0, d1⟩, hb⟩ := cell_end (x := .int .i64 t) (y := .int .i64 z) (K1.out.at_ (List.mem_cons_self ..)) K1.out.1 (Nat.le_refl _)
    rw [e9]
    exact bodyPost_ret (v := .agg (cA t z)) (by simp [results, Tryz.results202, go_sem, d0, d1]) rfl ⟨rfl, hb⟩
  · rw [cellOf_no h]
    have D : ∃ z, z < 0 ∧ ∀ w, Calls Tryz.prog 227 #[.agg (cA t v), .func (.func 229) #[] #[], .int .i64 key, .int .i64 a] w fun e w' => e = .returned (.int .i64 z) ∧ Below w.heap.size w w' := by
      by_cases h2 : isAt a ∧ isCell t v
      · refine ⟨-1, by omega, fun w => ?_⟩
        have e : hiddenOf key a t v = -1 := hiddenOf_nokey (fun hk => h ⟨hk, h2.1, h2.2.1, h2.2.2⟩)
        rw [← e]
        exact way_yesH key a t v _ w h2.1 h2.2 (fun w => hidden_calls key a t v w ha ht)
      · exact ⟨-1, by omega, fun w => way_no key a t v _ w h2⟩
    obtain ⟨z, hz, D⟩ := D
    have DD := Lib.hid D
    clear h ha ht D
    go_enter Tryz.func202, Tryz.ntmps202
    go_wp2_with fail
    refine (DD.out _).mono ?_; rintro e w1 ⟨rfl, b1⟩
    have k1 := K0.out.below b1
    have r0 := k1.cell (List.mem_cons_of_mem _ (List.mem_cons_self ..)) 0
    have r1 := k1.cell (List.mem_cons_of_mem _ (List.mem_cons_self ..)) 1
    have f0 := k1.frozen (List.mem_cons_of_mem _ (List.mem_cons_self ..)) 0
    have f1 := k1.frozen (List.mem_cons_of_mem _ (List.mem_cons_self ..)) 1
    simp only [List.getElem?_toArray, List.getElem?_cons_zero, List.getElem?_cons_succ] at r0 r1
    have K1 := Lib.hid k1.tail
    clear b1 k1
    go_wp2_with fail
    obtain ⟨w9, e9, ⟨d0, d1⟩, hb⟩ := cell_end (x := .int .i64 0) (y := .int .i64 0) (K1.out.at_ (List.mem_cons_self ..)) K1.out.1 (Nat.le_refl _)
    rw [e9]
    exact bodyPost_ret (v := .agg zC) (by simp [results, Tryz.results202, go_sem, d0, d1]) rfl ⟨rfl, hb⟩
theorem ansTripleIn : AnsTripleIn := by
  intro a t v w _ _ _
  have k0 := ((((Kept.refl w).new 112 (cA t v)).new 137 #[.int .i64 0, .int .i64 0, .int .i64 0]).new 137 #[.int .i64 a, .int .i64 t, .int .i64 v])
  rw [show ((w.alloc (.cells (cA t v) 112)).alloc (.cells #[.int .i64 0, .int .i64 0, .int .i64 0] 137)).heap.size = w.heap.size + 1 + 1 by simp, show (w.alloc (.cells (cA t v) 112)).heap.size = w.heap.size + 1 by simp] at k0
  have K0 := Lib.hid k0
  clear k0
  have D := Lib.hid (fun w => tripleOk_calls a t v w)
  by_cases h : isTri a t v
  · rw [tripleIn_yes h]
    rw [decide_eq_true h] at D
    clear h
    go_enter Tryz.func226, Tryz.ntmps226
    go_wp2_with fail
    refine (D.out _).mono ?_; rintro e w1 ⟨rfl, b1⟩
    have k1 := K0.out.below b1
    obtain ⟨e0, e1, e2⟩ := k1.three
    obtain ⟨r0, r1, r2⟩ := k1.tail.three
    have f0 := k1.tail.frozen (List.mem_cons_self ..) 0
    have f1 := k1.tail.frozen (List.mem_cons_self ..) 1
    have f2 := k1.tail.frozen (List.mem_cons_self ..) 2
    have K1 := Lib.hid k1
    clear b1 k1
    go_wp2_with fail
    obtain ⟨w9, e9, ⟨d0, d1, d2⟩, hb⟩ := triple_end (x := .int .i64 a) (y := .int .i64 t) (z := .int .i64 v) (K1.out.tail.at_ (List.mem_cons_self ..)) K1.out.1 (Nat.le_succ _)
    rw [e9]
    exact bodyPost_ret (v := .agg #[.int .i64 a, .int .i64 t, .int .i64 v]) (by simp [results, Tryz.results226, go_sem, d0, d1, d2]) rfl ⟨rfl, hb⟩
  · rw [tripleIn_no h]
    rw [decide_eq_false h] at D
    clear h
    go_enter Tryz.func226, Tryz.ntmps226
    go_wp2_with fail
    refine (D.out _).mono ?_; rintro e w1 ⟨rfl, b1⟩
    have k1 := K0.out.below b1
    obtain ⟨r0, r1, r2⟩ := k1.tail.three
    have f0 := k1.tail.frozen (List.mem_cons_self ..) 0
    have f1 := k1.tail.frozen (List.mem_cons_self ..) 1
    have f2 := k1.tail.frozen (List.mem_cons_self ..) 2
    have K1 := Lib.hid k1
    clear b1 k1
    go_wp2_with fail
    obtain ⟨w9, e9, ⟨d0, d1, d2⟩, hb⟩ := triple_end (x := .int .i64 0) (y := .int .i64 0) (z := .int .i64 0) (K1.out.tail.at_ (List.mem_cons_self ..)) K1.out.1 (Nat.le_succ _)
    rw [e9]
    exact bodyPost_ret (v := .agg #[.int .i64 0, .int .i64 0, .int .i64 0]) (by simp [results, Tryz.results226, go_sem, d0, d1, d2]) rfl ⟨rfl, hb⟩
theorem cellOf_i64 {key a t v : Int} (hk : I64 key) (ht : I64 t) : I64 (cellOf key a t v).1 ∧ I64 (cellOf key a t v).2 := by
  by_cases h : isKey key ∧ isTri a t v
  · rw [cellOf_yes h.1 h.2]
    refine ⟨h.2.i64.2.1, ?_⟩
    have hs := streamOf_nat h.1.1 h.1.2 h.2.1.1 h.2.2.1.1
    simp only []
    unfold hiddenOf
    rw [turnOf_yes hs h.2.2.2]
    unfold I64; omega
  · rw [cellOf_no h]; exact ⟨⟨by decide, by decide⟩, ⟨by decide, by decide⟩⟩
theorem triI64 (a t v : Int) : I64 (tripleIn a t v).1 ∧ I64 (tripleIn a t v).2.1 ∧ I64 (tripleIn a t v).2.2 := by
  by_cases h : isTri a t v
  · rw [tripleIn_yes h]; exact h.i64
  · rw [tripleIn_no h]; exact ⟨⟨by decide, by decide⟩, ⟨by decide, by decide⟩, ⟨by decide, by decide⟩⟩
theorem allocP (w : World) (o : Obj) : Below w.heap.size w (w.alloc o) := (Below.refl _ _).alloc (Nat.le_refl _) _
theorem gb_newP {w w' : World} {g b : Nat} (h : w.grownBy w' (some g)) (hb : w.heap.size ≤ b) (i : Nat) (u : Value) : w.grownBy (w'.setCell ⟨b, i, none⟩ u) (some g) :=
  ⟨h.os, h.tape, h.output, by simpa [World.setCell] using h.size, fun k hk hr => (Below.heap_setCell _ _ _ _ (by simp; omega)).trans (h.block k hk hr)⟩
theorem gb_belowP {a b c : World} {g : Nat} (h : a.grownBy b (some g)) (hb : Below a.heap.size b c) : a.grownBy c (some g) :=
  ⟨hb.os.trans h.os, hb.tape.trans h.tape, hb.output.trans h.output, Nat.le_trans h.size hb.size, fun k hk hr => (hb.block k hk).trans (h.block k hk hr)⟩
noncomputable def tagIn (key a x1 x2 : Int) : Int := tagOf key (tripleIn a x1 x2).1 (tripleIn a x1 x2).2.1 (tripleIn a x1 x2).2.2
set_option maxRecDepth 20000 in
set_option maxHeartbeats 4000000 in
theorem added_calls (s key a x1 x2 : Int) (w : World) (ha : I64 a) (h1 : I64 x1) (h2 : I64 x2) :
    Calls Tryz.prog 200 #[.int .i64 s, .int .i64 key, .int .i64 a, .agg (cA x1 x2)] w fun e w' => e = .returned (.int .i64 (addOf s (tagIn key a x1 x2))) ∧ Below w.heap.size w w' := by
  unfold tagIn
  have CT := Lib.hid (fun u => ansTripleIn a x1 x2 u ha h1 h2)
  have h3 := triI64 a x1 x2
  generalize (tripleIn a x1 x2).1 = y1 at CT h3 ⊢
  generalize (tripleIn a x1 x2).2.1 = y2 at CT h3 ⊢
  generalize (tripleIn a x1 x2).2.2 = y3 at CT h3 ⊢
  have CG := Lib.hid (fun u => tag_calls key y1 y2 y3 u h3.1 h3.2.1 h3.2.2)
  generalize tagOf key y1 y2 y3 = g at CG ⊢
  have CA := Lib.hid (fun u => add_calls s g u)
  generalize addOf s g = z at CA ⊢
  have K0 := Lib.hid (show Kept w [(w.heap.size, 112, (cA x1 x2))] _ from (Kept.refl w).put1 _ _ (cA x1 x2) rfl)
  clear h3 ha h1 h2
  go_enter Tryz.func200, Tryz.ntmps200
  go_upto_region 1 with fail
  have hk0 := K0.out
  clear K0
  generalize World.alloc _ _ = w0 at hk0 ⊢
  obtain ⟨kc0, kf0, -⟩ := hk0.rd
  go_wp2_with fail
  refine (CT.out _).mono ?_; rintro e w2 ⟨rfl, b2⟩
  have hk2 := hk0.below b2
  clear hk0 b2 kc0 kf0 CT
  go_wp2_with fail
  refine (CG.out _).mono ?_; rintro e w3 ⟨rfl, b3⟩
  have hk3 := hk2.below b3
  clear hk2 b3 CG
  go_wp2_with fail
  refine (CA.out _).mono ?_; rintro e w4 ⟨rfl, rfl⟩
  go_wp2_with fail
  go_ret
  exact ⟨rfl, hk3.1⟩
def Errs (w : World) (a0 a1 a2 a3 : Addr) : Prop :=
  w.cell? ⟨4, 0, none⟩ = some hErr ∧ (w.cell? ⟨0, 0, none⟩ = some (.iface 264 (.pointer (some a0))) ∧ w.cell? ⟨1, 0, none⟩ = some (.iface 264 (.pointer (some a1))) ∧ w.cell? ⟨2, 0, none⟩ = some (.iface 264 (.pointer (some a2))) ∧ w.cell? ⟨3, 0, none⟩ = some (.iface 264 (.pointer (some a3)))) ∧
  (a0 ≠ a1 ∧ a0 ≠ a2 ∧ a0 ≠ a3 ∧ a1 ≠ a2 ∧ a1 ≠ a3 ∧ a2 ≠ a3) ∧
  (∃ c t, w.heap[a0.block]? = some (.cells c t (0, 0))) ∧ (∃ c t, w.heap[a1.block]? = some (.cells c t (0, 0))) ∧ (∃ c t, w.heap[a2.block]? = some (.cells c t (0, 0))) ∧ (∃ c t, w.heap[a3.block]? = some (.cells c t (0, 0)))
theorem cell_lt {w : World} {a : Addr} {v : Value} (h : w.cell? a = some v) : a.block < w.heap.size := by
  rcases Nat.lt_or_ge a.block w.heap.size with h' | h'
  · exact h'
  · simp [World.cell?, Array.getElem?_eq_none h'] at h
theorem Errs.below {w u : World} {a0 a1 a2 a3 : Addr} (h : Errs w a0 a1 a2 a3) (hb : Below w.heap.size w u) : Errs u a0 a1 a2 a3 := by
  obtain ⟨h0, ⟨g0, g1, g2, g3⟩, hn, ⟨c0, s0, r0⟩, ⟨c1, s1, r1⟩, ⟨c2, s2, r2⟩, ⟨c3, s3, r3⟩⟩ := h
  have K : ∀ {a : Addr} {v : Value}, w.cell? a = some v → u.cell? a = some v := fun hc => (hb.cell (cell_lt hc)).trans hc
  have R : ∀ {b : Nat} {o : Obj}, w.heap[b]? = some o → u.heap[b]? = some o := fun hc => (hb.block _ (Array.getElem?_eq_some_iff.1 hc).1).trans hc
  exact ⟨K h0, ⟨K g0, K g1, K g2, K g3⟩, hn, ⟨c0, s0, R r0⟩, ⟨c1, s1, R r1⟩, ⟨c2, s2, R r2⟩, ⟨c3, s3, R r3⟩⟩
set_option maxRecDepth 20000 in
set_option maxHeartbeats 4000000 in
theorem take_calls (key a s ct cv : Int) (p k : Nat) (cs : Array Value) (w : World) (hkey : I64 key) (ha : I64 a) (hct : I64 ct) (hcv : I64 cv) (hp : CellsAt w p 80 cs) (ek : cs[k]? = some (.int .i64 s)) :
    Calls Tryz.prog 160 #[.pointer (some ⟨p, k, none⟩), .int .i64 key, .int .i64 a, .agg (cA ct cv)] w fun e w' =>
      e = .returned (.int .i64 (valueIn key a ct cv)) ∧ w.grownBy w' (some p) ∧ CellsAt w' p 80 (cs.setIfInBounds k (.int .i64 (addOf s (tagIn key a ct cv)))) := by
  have CA := Lib.hid (fun u => added_calls s key a ct cv u ha hct hcv)
  have CV := Lib.hid (fun u => ansValueIn key a ct cv u hkey ha hct hcv)
  generalize addOf s (tagIn key a ct cv) = z at CA ⊢
  generalize valueIn key a ct cv = y at CV ⊢
  have lp := hp.lt
  have P0 := Lib.hid (show CellsAt (w.alloc (.cells (cA ct cv) 112)) p 80 cs from hp.below (allocP w _) lp)
  have G0 := Lib.hid (show w.grownBy (w.alloc (.cells (cA ct cv) 112)) (some p) from gb_alloc (gb_refl w (some p)) _)
  have R0 := Lib.hid (show CellsAt (w.alloc (.cells (cA ct cv) 112)) w.heap.size 112 (cA ct cv) from CellsAt.new w _ _)
  have EK := Lib.hid ek
  clear hp hkey ha hct hcv ek
  go_enter Tryz.func160, Tryz.ntmps160
  go_upto_region 1 with fail
  have hp0 := P0.out
  have hg0 := G0.out
  have hr0 := R0.out
  clear P0 G0 R0
  generalize World.alloc _ _ = w0 at hp0 hg0 hr0 ⊢
  have CK : ∀ u, Below w0.heap.size w0 u → u.cell? ⟨p, k, none⟩ = some (.int .i64 s) ∧ (∀ i, u.frozen? ⟨p, i, none⟩ = false) ∧ (∀ i, u.cell? ⟨w.heap.size, i, none⟩ = (cA ct cv)[i]?) := fun u hu =>
    ⟨((hp0.below hu hp0.lt).cell k).trans EK.out, (hp0.below hu hp0.lt).frozen, (hr0.below hu hr0.lt).cell⟩
  have HK := Lib.hid CK
  have HP := Lib.hid hp0
  have HG := Lib.hid hg0
  have HR := Lib.hid hr0
  clear CK hp0 hg0 hr0
  refine wp_region_class_tail (C := fun u => Below w0.heap.size w0 u) 9 (by kernel_rfl) (by kernel_rfl) (Below.refl _ _).drew ?_
  simp only [List.take_succ_cons, List.take_zero, List.drop_succ_cons, List.drop_zero]
  iterate 9 (first
    | go_big_quiet_skip
    | (go_big_quiet_want
       go_big_quiet_op
       first
         | go_big_quiet_on
         | (apply Exists.intro
            refine ⟨fun u hu => ?_, ?_⟩
            · first
                | with_reducible rfl
                | (go_at_call 200; refine (CA.out u).mono ?_; rintro e wx ⟨rfl, bx⟩; exact ⟨rfl, hu.trans (bx.mono hu.size)⟩)
                | (obtain ⟨ck, cf, cq⟩ := HK.out u hu; go_simp; first | done | with_reducible rfl)
            go_big_quiet_on)))
  refine wpQuiet_nil ?_
  intro w4 hb4
  obtain ⟨ck, cf, cq⟩ := HK.out w4 hb4
  have hne : ¬ p = w.heap.size := by omega
  have hp4 := HP.out.below hb4 HP.out.lt
  have hr4 := HR.out.below hb4 HR.out.lt
  have hg4 := gb_belowP HG.out (hb4.mono HG.out.size)
  clear HP HR HG HK CA hb4
  go_upto_region 2 with fail
  have hp5 := hp4.set_ k (.int .i64 z)
  have hr5 := hr4.grown (gb_set (gb_refl w4 (some p)) k (.int .i64 z)) (by intro e; injection e; omega)
  have hg5 := gb_set hg4 k (.int .i64 z)
  clear hp4 hr4 hg4 ck cf cq
  generalize World.setCell _ _ _ = w5 at hp5 hr5 hg5 ⊢
  have rc : ∀ i, w5.cell? ⟨w.heap.size, i, none⟩ = (cA ct cv)[i]? := hr5.cell
  go_wp2_with fail
  refine (CV.out _).mono ?_; rintro e w6 ⟨rfl, b6⟩
  have hp6 := hp5.below b6 hp5.lt
  have hg6 := gb_belowP hg5 (b6.mono hg5.size)
  clear hp5 hg5 hr5 rc b6
  go_wp2_with fail
  go_ret
  exact ⟨rfl, hg6, hp6⟩
-- codeOf: of the sentinels, by their places
set_option maxRecDepth 20000 in
set_option maxHeartbeats 2000000 in
theorem codeOf_1 (r : Nat) (a0 a1 a2 a3 : Addr) (zs : List Value) (w : World) (he : Errs w a0 a1 a2 a3) (hr : CellsAt w r 211 (.iface 264 (.pointer (some a1)) :: zs).toArray) :
    Calls Tryz.prog 157 #[.iface 207 (.pointer (some ⟨r, 0, none⟩))] w fun e w' => e = .returned (.int .i64 2) ∧ w = w' := by
  obtain ⟨h0, ⟨g0, g1, g2, g3⟩, ⟨n01, n02, n03, n12, n13, n23⟩, ⟨c0, s0, r0⟩, ⟨c1, s1, r1⟩, ⟨c2, s2, r2⟩, ⟨c3, s3, r3⟩⟩ := he
  have hc : w.cell? ⟨r, 0, none⟩ = some (.iface 264 (.pointer (some a1))) := by rw [hr.cell 0]; simp
  have I1 := Lib.hid (is_same r a1 w hc)
  have I2 := Lib.hid (is_other r a2 a1 c1 c2 s1 s2 w hc n12 r1 r2)
  have I3 := Lib.hid (is_other r a3 a1 c1 c3 s1 s3 w hc n13 r1 r3)
  clear hr hc h0 r0 r1 r2 r3 n01 n02 n03 n12 n13 n23
  go_enter Tryz.func157, Tryz.ntmps157
  go_wp2_with fail
  refine (I1.out).mono ?_; rintro e w' ⟨rfl, rfl⟩
  go_wp2_with fail
  go_ret
  exact ⟨rfl, rfl⟩
set_option maxRecDepth 20000 in
set_option maxHeartbeats 2000000 in
theorem codeOf_2 (r : Nat) (a0 a1 a2 a3 : Addr) (zs : List Value) (w : World) (he : Errs w a0 a1 a2 a3) (hr : CellsAt w r 211 (.iface 264 (.pointer (some a2)) :: zs).toArray) :
    Calls Tryz.prog 157 #[.iface 207 (.pointer (some ⟨r, 0, none⟩))] w fun e w' => e = .returned (.int .i64 3) ∧ w = w' := by
  obtain ⟨h0, ⟨g0, g1, g2, g3⟩, ⟨n01, n02, n03, n12, n13, n23⟩, ⟨c0, s0, r0⟩, ⟨c1, s1, r1⟩, ⟨c2, s2, r2⟩, ⟨c3, s3, r3⟩⟩ := he
  have hc : w.cell? ⟨r, 0, none⟩ = some (.iface 264 (.pointer (some a2))) := by rw [hr.cell 0]; simp
  have I1 := Lib.hid (is_other r a1 a2 c2 c1 s2 s1 w hc n12.symm r2 r1)
  have I2 := Lib.hid (is_same r a2 w hc)
  have I3 := Lib.hid (is_other r a3 a2 c2 c3 s2 s3 w hc n23 r2 r3)
  clear hr hc h0 r0 r1 r2 r3 n01 n02 n03 n12 n13 n23
  go_enter Tryz.func157, Tryz.ntmps157
  go_wp2_with fail
  refine (I1.out).mono ?_; rintro e w' ⟨rfl, rfl⟩
  go_wp2_with fail
  refine (I2.out).mono ?_; rintro e w' ⟨rfl, rfl⟩
  go_wp2_with fail
  go_ret
  exact ⟨rfl, rfl⟩
set_option maxRecDepth 20000 in
set_option maxHeartbeats 2000000 in
theorem codeOf_3 (r : Nat) (a0 a1 a2 a3 : Addr) (zs : List Value) (w : World) (he : Errs w a0 a1 a2 a3) (hr : CellsAt w r 211 (.iface 264 (.pointer (some a3)) :: zs).toArray) :
    Calls Tryz.prog 157 #[.iface 207 (.pointer (some ⟨r, 0, none⟩))] w fun e w' => e = .returned (.int .i64 4) ∧ w = w' := by
  obtain ⟨h0, ⟨g0, g1, g2, g3⟩, ⟨n01, n02, n03, n12, n13, n23⟩, ⟨c0, s0, r0⟩, ⟨c1, s1, r1⟩, ⟨c2, s2, r2⟩, ⟨c3, s3, r3⟩⟩ := he
  have hc : w.cell? ⟨r, 0, none⟩ = some (.iface 264 (.pointer (some a3))) := by rw [hr.cell 0]; simp
  have I1 := Lib.hid (is_other r a1 a3 c3 c1 s3 s1 w hc n13.symm r3 r1)
  have I2 := Lib.hid (is_other r a2 a3 c3 c2 s3 s2 w hc n23.symm r3 r2)
  have I3 := Lib.hid (is_same r a3 w hc)
  clear hr hc h0 r0 r1 r2 r3 n01 n02 n03 n12 n13 n23
  go_enter Tryz.func157, Tryz.ntmps157
  go_wp2_with fail
  refine (I1.out).mono ?_; rintro e w' ⟨rfl, rfl⟩
  go_wp2_with fail
  refine (I2.out).mono ?_; rintro e w' ⟨rfl, rfl⟩
  go_wp2_with fail
  refine (I3.out).mono ?_; rintro e w' ⟨rfl, rfl⟩
  go_wp2_with fail
  go_ret
  exact ⟨rfl, rfl⟩
set_option maxRecDepth 20000 in
set_option maxHeartbeats 8000000 in
theorem leftBy_calls (r : Nat) (a : Addr) (t0 t1 t2 t3 t4 t5 t6 : Int) (t7 : Bool) (ct cv : Int) (w : World) (hg : w.cell? ⟨4, 0, none⟩ = some hErr) (hr : CellsAt w r 211 #[.iface 264 (.pointer (some a)), .int .i64 t0, .int .i64 t1, .int .i64 t2, .int .i64 t3, .int .i64 t4, .int .i64 t5, .int .i64 t6, .bool t7, .int .i64 ct, .int .i64 cv]) :
    Calls Tryz.prog 156 #[.iface 207 (.pointer (some ⟨r, 0, none⟩))] w fun e w' => e = .returned (.tuple #[.agg (tA t0 t1 t2 t3 t4 t5 t6 t7), .agg (cA ct cv)]) ∧ Below w.heap.size w w' := by
  have hlt := hr.lt
  have K0 := Lib.hid (show Kept w [(w.heap.size + 1 + 1, 207, #[.pointer none]), (w.heap.size + 1, 112, zC), (w.heap.size, 80, zT)] _ from ((((Kept.refl w).put1 _ _ zT rfl).put1 _ _ zC (by simp)).put1 _ _ #[.pointer none] (by simp)))
  have HA := Lib.hid (fun (u : World) (hb : Below w.heap.size w u) (hp : CellsAt u (w.heap.size + 1 + 1) 207 #[.pointer none]) => as_box ⟨r, 0, none⟩ (w.heap.size + 1 + 1) (.pointer none) u ((hb.cell (cell_lt hg)).trans hg) hp)
  have HR := Lib.hid (fun (u : World) (hb : Below w.heap.size w u) => hr.below hb hlt)
  clear hg hr
  go_enter Tryz.func156, Tryz.ntmps156
  go_upto_region 2 with fail
  have k0 := K0.out
  clear K0
  generalize World.alloc (World.alloc _ _) _ = w0 at k0 ⊢
  go_wp2_with fail
  refine (HA.out _ k0.1 (k0.at_ (by simp))).mono ?_; rintro e w1 ⟨rfl, hg1, hc1⟩
  have k1 := k0.put (k := 0) rfl (by unfold Apart; simp <;> omega) hg1 hc1
  clear k0 hg1 hc1 HA
  have k1' : Kept w [(w.heap.size + 1 + 1, 207, #[.pointer (some ⟨r, 0, none⟩)]), (w.heap.size + 1, 112, zC), (w.heap.size, 80, zT)] w1 := k1
  clear k1
  have hr1 := HR.out _ k1'.1
  have c1 : ∀ i, w1.cell? ⟨r, i, none⟩ = #[.iface 264 (.pointer (some a)), .int .i64 t0, .int .i64 t1, .int .i64 t2, .int .i64 t3, .int .i64 t4, .int .i64 t5, .int .i64 t6, .bool t7, .int .i64 ct, .int .i64 cv][i]? := hr1.cell
  obtain ⟨kc0, kf0, kc1, kf1, kc2, kf2, -⟩ := k1'.rd
  go_upto_region 4 with fail
  have K4 := Lib.hid k1'
  clear k1' hr1 HR
  go_region
  all_goals
    go_wp2_with fail
    obtain ⟨w9, e9, ⟨d0, d1, d2, d3, d4, d5, d6, d7, d8, d9⟩, hb⟩ := touch_end (x0 := .int .i64 t0) (x1 := .int .i64 t1) (x2 := .int .i64 t2) (x3 := .int .i64 t3) (x4 := .int .i64 t4) (x5 := .int .i64 t5) (x6 := .int .i64 t6) (x7 := .bool t7) (y0 := .int .i64 ct) (y1 := .int .i64 cv) (K4.out.at_ (p := w.heap.size) (t := 80) (cs := zT) (by simp)) (K4.out.at_ (p := w.heap.size + 1) (t := 112) (cs := zC) (by simp)) (by omega) K4.out.1 (by omega) (by omega)
    rw [e9]
    clear e9
    exact bodyPost_ret (v := (.tuple #[.agg (tA t0 t1 t2 t3 t4 t5 t6 t7), .agg (cA ct cv)])) (by simp [results, Tryz.results156, go_sem, d0, d1, d2, d3, d4, d5, d6, d7, d8, d9]) rfl ⟨rfl, hb.drew⟩
open Go.ChangeShapes Go.WideShapes Go.RowKit
def Laid5 : List (String × DataW Unit) := [("errors.errorType", Rows.laid_errors_errorType), ("loop.example/g00775/impl.errBad", Rows.laid_loop_example_g00775_impl_errBad), ("loop.example/g00775/impl.errFailed", Rows.laid_loop_example_g00775_impl_errFailed), ("loop.example/g00775/impl.errSpent", Rows.laid_loop_example_g00775_impl_errSpent), ("loop.example/g00775/impl.errCaught", Rows.laid_loop_example_g00775_impl_errCaught)]
theorem xStar : "*" ++ "errors.errorString" = "*errors.errorString" := by decide
theorem xRowES (u : TypeId) (h : Tryz.prog.typeName? 3 u = some "*errors.errorString") : u = 264 :=
  typeName_ptr_named (nm := "errors.errorString") (by rw [xStar]; kernel_rfl) (by kernel_rfl) (by decide) u (by rw [xStar]; exact h)
theorem xCellsE : Tryz.prog.cellsOf 286 = 1 := by kernel_rfl
theorem xCellsS : Tryz.prog.cellsOf 9 = 1 := by kernel_rfl
theorem xG0 : Tryz.prog.globalNamed "loop.example/g00775/impl.errBad" = some 0 := by kernel_rfl
theorem xT0 : (Tryz.prog.globals[0]?).map (·.type) = some 115 := by kernel_rfl
theorem xG1 : Tryz.prog.globalNamed "loop.example/g00775/impl.errFailed" = some 1 := by kernel_rfl
theorem xT1 : (Tryz.prog.globals[1]?).map (·.type) = some 115 := by kernel_rfl
theorem xG2 : Tryz.prog.globalNamed "loop.example/g00775/impl.errSpent" = some 2 := by kernel_rfl
theorem xT2 : (Tryz.prog.globals[2]?).map (·.type) = some 115 := by kernel_rfl
theorem xG3 : Tryz.prog.globalNamed "loop.example/g00775/impl.errCaught" = some 3 := by kernel_rfl
theorem xT3 : (Tryz.prog.globals[3]?).map (·.type) = some 115 := by kernel_rfl
theorem xGE : Tryz.prog.globalNamed "errors.errorType" = some 4 := by kernel_rfl
theorem xRtype : (Tryz.prog.cutTypes.find? (·.1 == "internal/reflectlite.rtype")).map (·.2) = some 242 := by kernel_rfl
theorem xOneRow : ((List.range Tryz.prog.types.size).filter fun t => Tryz.prog.rowNamed t [101, 114, 114, 111, 114]) = [115] := by kernel_rfl
theorem xHandle : typeHandle Tryz.prog 115 = .pointer (some ⟨5, 115, none⟩) := by kernel_rfl
set_option maxRecDepth 100000 in
theorem sentinel_one {W : World} {n : String} {g : Nat} {text : List UInt8} {r : List (String × DataW Unit)} {ps : List MemPlace} (hg : Tryz.prog.globalNamed n = some g) (ht : (Tryz.prog.globals[g]?).map (·.type) = some 115)
    (h : DataW.LaidVars Tryz.prog W ((n, .iface "*errors.errorString" (.ptr (.agg [.lit (.string text)]))) :: r) ps)
    (hrows : ∀ b off, MemPlace.cell b off ∈ ps → (∃ c t, W.heap[b]? = some (.cells c t (0, 0))) ∧ ∀ u v, W.cell? ⟨b, off, none⟩ = some (.iface u v) → Value.okWide Tryz.prog W .any 0 u v) :
    ∃ a q n0, W.cell? ⟨g, 0, none⟩ = some (.iface 264 (.pointer (some a))) ∧ ps = n0 ++ MemPlace.row a 1 ++ q ∧ (∃ c t, W.heap[a.block]? = some (.cells c t (0, 0))) ∧ DataW.LaidVars Tryz.prog W r q := by
  obtain ⟨g', t', cs, f, p, q, hg', ht', hv, hd, hr, rfl⟩ := h
  obtain rfl := Option.some.inj (hg.symm.trans hg')
  obtain rfl := Option.some.inj (ht.symm.trans ht')
  obtain ⟨l0⟩ := cs
  have ok0 : ∀ u v, l0 = [.iface u v] → Value.okWide Tryz.prog W .any 0 u v := fun u v e => by
    subst e
    exact (hrows g 0 (by simp [MemPlace.row])).2 u v (by simpa using World.var?_cell hg' hv 0)
  obtain ⟨a0, s0, rfl, hc0, hs0, hz0, rfl⟩ := errorString_of_trod Tryz.underlying115 xRowES Tryz.underlying264 Tryz.underlying286 rfl rfl Tryz.underlying9 xCellsE xCellsS hd ok0
  exact ⟨a0, q, _, by simpa using World.var?_cell hg' hv 0, rfl, (hrows a0.block a0.off (by simp [MemPlace.row])).1, hr⟩
set_option maxRecDepth 100000 in
theorem errs_of_laid {W : World} (h : laidMetH Tryz.prog Laid5 W) : ∃ a0 a1 a2 a3, Errs W a0 a1 a2 a3 := by
  have h' : laidMet Tryz.prog [("loop.example/g00775/impl.errBad", Rows.laid_loop_example_g00775_impl_errBad), ("loop.example/g00775/impl.errFailed", Rows.laid_loop_example_g00775_impl_errFailed), ("loop.example/g00775/impl.errSpent", Rows.laid_loop_example_g00775_impl_errSpent), ("loop.example/g00775/impl.errCaught", Rows.laid_loop_example_g00775_impl_errCaught)] W ∧ handlesMet Tryz.prog [("errors.errorType", Rows.laid_errors_errorType)] W := h
  obtain ⟨⟨ps, hv, hnd, hrows⟩, hh⟩ := h'
  obtain ⟨a0, q0, n0, c0, rfl, r0, v0⟩ := sentinel_one xG0 xT0 hv hrows
  obtain ⟨a1, q1, n1, c1, rfl, r1, v1⟩ := sentinel_one xG1 xT1 v0 (fun b off hm => hrows b off (List.mem_append_right _ hm))
  obtain ⟨a2, q2, n2, c2, rfl, r2, v2⟩ := sentinel_one xG2 xT2 v1 (fun b off hm => hrows b off (List.mem_append_right _ (List.mem_append_right _ hm)))
  obtain ⟨a3, q3, n3, c3, rfl, r3, v3⟩ := sentinel_one xG3 xT3 v2 (fun b off hm => hrows b off (List.mem_append_right _ (List.mem_append_right _ (List.mem_append_right _ hm))))
  obtain ⟨name, u, ty, e1, e2, e3, e4, e5⟩ := hh _ (List.mem_singleton.2 rfl)
  have en : name = [101, 114, 114, 111, 114] := (Option.some.inj e1).symm
  subst en
  obtain rfl := Option.some.inj (xRtype.symm.trans e2)
  have hm : ty ∈ (List.range Tryz.prog.types.size).filter fun t => Tryz.prog.rowNamed t [101, 114, 114, 111, 114] := List.mem_filter.2 ⟨List.mem_range.2 e3, e4⟩
  rw [xOneRow] at hm
  obtain rfl := List.mem_singleton.1 hm
  rw [xHandle] at e5
  have l : ∀ (a : Addr), MemPlace.row a 1 = [MemPlace.cell a.block a.off] := fun a => by simp [MemPlace.row]
  simp only [l, List.append_assoc, List.singleton_append] at hnd
  have k0 := (List.nodup_append.1 hnd).2.1
  have m0 := (List.nodup_cons.1 k0).1
  have k1 := (List.nodup_append.1 (List.nodup_cons.1 k0).2).2.1
  have m1 := (List.nodup_cons.1 k1).1
  have k2 := (List.nodup_append.1 (List.nodup_cons.1 k1).2).2.1
  have m2 := (List.nodup_cons.1 k2).1
  refine ⟨a0, a1, a2, a3, by simpa using World.var?_cell xGE e5 0, ⟨c0, c1, c2, c3⟩, ⟨fun e => m0 ?_, fun e => m0 ?_, fun e => m0 ?_, fun e => m1 ?_, fun e => m1 ?_, fun e => m2 ?_⟩, r0, r1, r2, r3⟩
  all_goals (subst e; simp)
theorem trodVars_four {H : Type} {enc : TypeId × Value → H} {P : Program} {W : World} {sp : Nat → Bool} {n0 n1 n2 n3 : String} {gs : List (DataW H)} {ps : List MemPlace} (h : DataW.TrodVars enc P W sp [n0, n1, n2, n3] gs ps) : ∃ d0 d1 d2 d3, gs = [d0, d1, d2, d3] := by
  match gs, h with
  | [], h => exact h.elim
  | [_], h => obtain ⟨_, _, _, _, _, _, _, _, _, _, h, _⟩ := h; exact h.elim
  | [_, _], h => obtain ⟨_, _, _, _, _, _, _, _, _, _, h, _⟩ := h; obtain ⟨_, _, _, _, _, _, _, _, _, _, h, _⟩ := h; exact h.elim
  | [_, _, _], h => obtain ⟨_, _, _, _, _, _, _, _, _, _, h, _⟩ := h; obtain ⟨_, _, _, _, _, _, _, _, _, _, h, _⟩ := h; obtain ⟨_, _, _, _, _, _, _, _, _, _, h, _⟩ := h; exact h.elim
  | [a, b, c, d], _ => exact ⟨a, b, c, d, rfl⟩
  | _ :: _ :: _ :: _ :: _ :: _, h => obtain ⟨_, _, _, _, _, _, _, _, _, _, h, _⟩ := h; obtain ⟨_, _, _, _, _, _, _, _, _, _, h, _⟩ := h; obtain ⟨_, _, _, _, _, _, _, _, _, _, h, _⟩ := h; obtain ⟨_, _, _, _, _, _, _, _, _, _, h, _⟩ := h; exact h.elim
theorem door_met (os : Os) (args : Array Value) : laidMetH Tryz.prog Laid5 ((World.doorLaid Tryz.prog 400 os).forCall (fun _ _ => 0) ⟨#[], args, []⟩).memory :=
  laidMetH_of_parts3 (fuel := 8) (laidMet_of_run' 8 (by kernel_rfl) (by kernel_rfl)) (by kernel_rfl) (by kernel_rfl)
end Go.Proofs.YtgaecedhkbneaaaGreatDoor.Mx

/- WHAT THE CODE'S CellOk, CellOf, ValueIn, TripleIn ANSWER, at every argument of int64 numbers; nothing that was there is written. -/
import Derived.Test.YthbkccagpggljaaCellL
import Derived.Test.YthbkccagpggljaaStreamC
import Derived.Test.YthbkccagpggljaaClass
namespace Go.Proofs.Ythbkccagpggljaa.Mx
open Go.ChangeShapes Go.WideShapes Go.ChangeAt Go.RowKit
set_option linter.unusedVariables false

/-- moment.number. -/
theorem number_calls (m : Int) (w : World) : Calls Try.prog 58 #[.int .i64 m] w fun e w' => e = .returned (.int .i64 m) ∧ w = w' := by
  go_enter Try.func58, Try.ntmps58
  go_wp2_with fail
  go_ret
  exact ⟨rfl, rfl⟩
/-- moment.inTime. -/
theorem inTime_yes (m : Int) (w : World) (h : isTm m) : Calls Try.prog 64 #[.int .i64 m] w fun e w' => e = .returned (.bool true) ∧ w = w' := by
  have C := Lib.hid (fun w => number_calls m w)
  have D := Lib.hid (fun w => isTime_yes m w h)
  clear h
  go_enter Try.func64, Try.ntmps64
  go_wp2_with fail
  refine (C.out _).mono ?_; rintro e w' ⟨rfl, rfl⟩
  go_wp2_with fail
  refine (D.out _).mono ?_; rintro e w' ⟨rfl, rfl⟩
  go_wp2_with fail
  go_ret
  exact ⟨rfl, rfl⟩
theorem inTime_no (m : Int) (w : World) (h : ¬ isTm m) : Calls Try.prog 64 #[.int .i64 m] w fun e w' => e = .returned (.bool false) ∧ w = w' := by
  have C := Lib.hid (fun w => number_calls m w)
  have D := Lib.hid (fun w => isTime_no m w h)
  clear h
  go_enter Try.func64, Try.ntmps64
  go_wp2_with fail
  refine (C.out _).mono ?_; rintro e w' ⟨rfl, rfl⟩
  go_wp2_with fail
  refine (D.out _).mono ?_; rintro e w' ⟨rfl, rfl⟩
  go_wp2_with fail
  go_ret
  exact ⟨rfl, rfl⟩

/-- timed.isRight, at every cell. -/
theorem isRight_calls (t v : Int) (w : World) :
    Calls Try.prog 57 #[.agg #[.int .i64 t, .int .i64 v]] w fun e w' => e = .returned (.bool (decide (isCell t v))) ∧ Below w.heap.size w w' := by
  by_cases ht : isTm t
  · have D := Lib.hid (fun w => inTime_yes t w ht)
    by_cases hv : isVal v
    · have E := Lib.hid (fun w => isValue_yes v w hv)
      rw [decide_eq_true (show isCell t v from ⟨ht, hv⟩)]
      clear ht hv
      go_enter Try.func57, Try.ntmps57
      go_wp2_with fail
      refine (D.out _).mono ?_; rintro e w' ⟨rfl, rfl⟩
      go_wp2_with fail
      refine (E.out _).mono ?_; rintro e w' ⟨rfl, rfl⟩
      go_wp2_with fail
      go_ret
      exact ⟨rfl, (Below.refl _ _).alloc (Nat.le_refl _) _⟩
    · have E := Lib.hid (fun w => isValue_no v w hv)
      rw [decide_eq_false (show ¬ isCell t v from fun h => hv h.2)]
      clear ht hv
      go_enter Try.func57, Try.ntmps57
      go_wp2_with fail
      refine (D.out _).mono ?_; rintro e w' ⟨rfl, rfl⟩
      go_wp2_with fail
      refine (E.out _).mono ?_; rintro e w' ⟨rfl, rfl⟩
      go_wp2_with fail
      go_ret
      exact ⟨rfl, (Below.refl _ _).alloc (Nat.le_refl _) _⟩
  · have D := Lib.hid (fun w => inTime_no t w ht)
    rw [decide_eq_false (show ¬ isCell t v from fun h => ht h.1)]
    clear ht
    go_enter Try.func57, Try.ntmps57
    go_wp2_with fail
    refine (D.out _).mono ?_; rintro e w' ⟨rfl, rfl⟩
    go_wp2_with fail
    go_ret
    exact ⟨rfl, (Below.refl _ _).alloc (Nat.le_refl _) _⟩

/-- timed.turned, where the place or the cell is not right: whatever the way. -/
theorem way_no (key a t v : Int) (f : Value) (w : World) (h : ¬ (isAt a ∧ isCell t v)) :
    Calls Try.prog 50 #[.agg #[.int .i64 t, .int .i64 v], f, .int .i64 key, .int .i64 a] w fun e w' => e = .returned (.int .i64 (-1)) ∧ Below w.heap.size w w' := by
  by_cases ha : isAt a
  · have C := Lib.hid (fun w => isPlace_yes a w ha)
    have D := Lib.hid (fun w => isRight_calls t v w)
    rw [decide_eq_false (show ¬ isCell t v from fun h' => h ⟨ha, h'⟩)] at D
    clear ha h
    go_enter Try.func50, Try.ntmps50
    go_wp2_with fail
    refine (C.out _).mono ?_; rintro e w' ⟨rfl, rfl⟩
    go_wp2_with fail
    refine (D.out _).mono ?_; rintro e w2 ⟨rfl, b2⟩
    have B2 := Lib.hid (((Below.refl w.heap.size w).alloc (Nat.le_refl _) _).trans (b2.mono (by simp)))
    clear b2
    go_wp2_with fail
    go_ret
    exact ⟨rfl, B2.out⟩
  · have C := Lib.hid (fun w => isPlace_no a w ha)
    clear ha h
    go_enter Try.func50, Try.ntmps50
    go_wp2_with fail
    refine (C.out _).mono ?_; rintro e w' ⟨rfl, rfl⟩
    go_wp2_with fail
    go_ret
    exact ⟨rfl, (Below.refl _ _).alloc (Nat.le_refl _) _⟩

set_option maxRecDepth 20000 in
/-- timed.turned by Hidden, where the place and the cell are right. -/
theorem way_yesH (key a t v z : Int) (w : World) (ha : isAt a) (hc : isCell t v)
    (H : ∀ w, Calls Try.prog 51 #[.int .i64 key, .int .i64 a, .int .i64 t, .int .i64 v] w fun e w' => e = .returned (.int .i64 z) ∧ Below w.heap.size w w') :
    Calls Try.prog 50 #[.agg #[.int .i64 t, .int .i64 v], .func (.func 51) #[] #[], .int .i64 key, .int .i64 a] w fun e w' => e = .returned (.int .i64 z) ∧ Below w.heap.size w w' := by
  have C := Lib.hid (fun w => isPlace_yes a w ha)
  have D := Lib.hid (fun w => isRight_calls t v w)
  rw [decide_eq_true hc] at D
  have N := Lib.hid (fun w => number_calls t w)
  have K := Lib.hid ((Kept.refl w).new 76 #[.int .i64 t, .int .i64 v])
  have G := Lib.hid H
  clear ha hc H
  go_enter Try.func50, Try.ntmps50
  go_wp2_with fail
  refine (C.out _).mono ?_; rintro e w' ⟨rfl, rfl⟩
  go_wp2_with fail
  refine (D.out _).mono ?_; rintro e w1 ⟨rfl, b1⟩
  have k1 := K.out.below b1
  clear b1
  go_wp2_with fail
  have P1 : ∀ u, Kept w [(w.heap.size, 76, #[.int .i64 t, .int .i64 v])] u → Calls Try.prog 51 #[.int .i64 key, .int .i64 a, .int .i64 t, .int .i64 v] u fun e w' => e = .returned (.int .i64 z) ∧ Kept w [(w.heap.size, 76, #[.int .i64 t, .int .i64 v])] w' :=
    fun u hu => (G.out u).mono fun e w' h => ⟨h.1, hu.below h.2⟩
  have P2 : ∀ u, Kept w [(w.heap.size, 76, #[.int .i64 t, .int .i64 v])] u → Calls Try.prog 58 #[.int .i64 t] u fun e w' => e = .returned (.int .i64 t) ∧ Kept w [(w.heap.size, 76, #[.int .i64 t, .int .i64 v])] w' :=
    fun u hu => class_same hu (N.out u)
  have PP1 := Lib.hid P1
  have PP2 := Lib.hid P2
  clear P1 P2
  refine wp_region_class (C := fun u => Kept w [(w.heap.size, 76, #[.int .i64 t, .int .i64 v])] u) (by kernel_rfl) (by kernel_rfl) k1.drew ?_
  clear k1
  iterate 10
    (first
      | go_big_quiet_skip
      | (go_big_quiet_want
         go_big_quiet_op
         first
           | go_big_quiet_on
           | (apply Exists.intro
              refine ⟨fun u hu => ?_, ?_⟩
              · first
                  | with_reducible rfl
                  | (go_at_call 58; exact PP2.out u hu)
                  | (go_at_call 51; exact PP1.out u hu)
                  | (have c0 := hu.cell (List.mem_cons_self ..) 0; have c1 := hu.cell (List.mem_cons_self ..) 1; simp only [List.getElem?_toArray, List.getElem?_cons_zero, List.getElem?_cons_succ] at c0 c1; go_simp; first | done | with_reducible rfl)
              go_big_quiet_on)))
  refine wpQuiet_nil ?_; intro wz hz
  go_wp2_with fail
  go_ret
  exact ⟨rfl, hz.1⟩

/-- impl.ValueIn, at every argument. -/
theorem shownOf_nokey {key a t v : Int} (hk : ¬ isKey key) : shownOf key a t v = -1 := by
  have h : streamOf key a t = -1 := by
    unfold streamOf
    rw [if_pos (by rw [mixOf_key (by unfold isKey at hk; omega)]; omega)]
  unfold shownOf; rw [h]; exact turnOf_neg (by omega)
theorem hiddenOf_nokey {key a t v : Int} (hk : ¬ isKey key) : hiddenOf key a t v = -1 := by
  have h : streamOf key a t = -1 := by
    unfold streamOf
    rw [if_pos (by rw [mixOf_key (by unfold isKey at hk; omega)]; omega)]
  unfold hiddenOf; rw [h]; exact turnOf_neg (by omega)
/-- What is hidden is below 0 just where it is no key, or the triple is not right. -/
theorem ansCellOf : AnsCellOf := by
  intro key a t v w _ ha ht _
  have k0 := ((Kept.refl w).new 43 #[.int .i64 0, .int .i64 0]).new 76 #[.int .i64 t, .int .i64 v]
  rw [show (w.alloc (.cells #[.int .i64 0, .int .i64 0] 43)).heap.size = w.heap.size + 1 by simp] at k0
  have K0 := Lib.hid k0
  clear k0
  by_cases h : isKey key ∧ isTri a t v
  · rw [cellOf_yes h.1 h.2]
    have hz : ¬ hiddenOf key a t v < 0 := hidden_nat h.1.1 h.1.2 (by have := h.2.1.1; omega) (by have := h.2.2.1.1; omega) h.2.2.2
    have D := Lib.hid (fun w => way_yesH key a t v _ w h.2.1 h.2.2 (fun w => hidden_calls key a t v w ha ht))
    generalize hiddenOf key a t v = z at D hz
    clear h ha ht
    go_enter Try.func44, Try.ntmps44
    go_wp2_with fail
    refine (D.out _).mono ?_; rintro e w1 ⟨rfl, b1⟩
    have k1 := K0.out.below b1
    have r0 := k1.cell (List.mem_cons_of_mem _ (List.mem_cons_self ..)) 0
    have r1 := k1.cell (List.mem_cons_of_mem _ (List.mem_cons_self ..)) 1
    have f0 := k1.frozen (List.mem_cons_of_mem _ (List.mem_cons_self ..)) 0
    have f1 := k1.frozen (List.mem_cons_of_mem _ (List.mem_cons_self ..)) 1
    simp only [List.getElem?_toArray, List.getElem?_cons_zero, List.getElem?_cons_succ] at r0 r1
    have K1 := Lib.hid k1.tail
    clear b1 k1
    go_wp2_with fail
    obtain ⟨w9, e9, ⟨d0, d1⟩, hb⟩ := cell_end (x := .int .i64 t) (y := .int .i64 z) (K1.out.at_ (List.mem_cons_self ..)) K1.out.1 (Nat.le_refl _)
    rw [e9]
    exact bodyPost_ret (v := .agg #[.int .i64 t, .int .i64 z]) (by simp [results, Try.results44, go_sem, d0, d1]) rfl ⟨rfl, hb⟩
  · rw [cellOf_no h]
    have D : ∃ z, z < 0 ∧ ∀ w, Calls Try.prog 50 #[.agg #[.int .i64 t, .int .i64 v], .func (.func 51) #[] #[], .int .i64 key, .int .i64 a] w fun e w' => e = .returned (.int .i64 z) ∧ Below w.heap.size w w' := by
      by_cases h2 : isAt a ∧ isCell t v
      · refine ⟨-1, by omega, fun w => ?_⟩
        have e : hiddenOf key a t v = -1 := hiddenOf_nokey (fun hk => h ⟨hk, h2.1, h2.2.1, h2.2.2⟩)
        rw [← e]
        exact way_yesH key a t v _ w h2.1 h2.2 (fun w => hidden_calls key a t v w ha ht)
      · exact ⟨-1, by omega, fun w => way_no key a t v _ w h2⟩
    obtain ⟨z, hz, D⟩ := D
    have DD := Lib.hid D
    clear h ha ht D
    go_enter Try.func44, Try.ntmps44
    go_wp2_with fail
    refine (DD.out _).mono ?_; rintro e w1 ⟨rfl, b1⟩
    have k1 := K0.out.below b1
    have r0 := k1.cell (List.mem_cons_of_mem _ (List.mem_cons_self ..)) 0
    have r1 := k1.cell (List.mem_cons_of_mem _ (List.mem_cons_self ..)) 1
    have f0 := k1.frozen (List.mem_cons_of_mem _ (List.mem_cons_self ..)) 0
    have f1 := k1.frozen (List.mem_cons_of_mem _ (List.mem_cons_self ..)) 1
    simp only [List.getElem?_toArray, List.getElem?_cons_zero, List.getElem?_cons_succ] at r0 r1
    have K1 := Lib.hid k1.tail
    clear b1 k1
    go_wp2_with fail
    obtain ⟨w9, e9, ⟨d0, d1⟩, hb⟩ := cell_end (x := .int .i64 0) (y := .int .i64 0) (K1.out.at_ (List.mem_cons_self ..)) K1.out.1 (Nat.le_refl _)
    rw [e9]
    exact bodyPost_ret (v := .agg #[.int .i64 0, .int .i64 0]) (by simp [results, Try.results44, go_sem, d0, d1]) rfl ⟨rfl, hb⟩

/-- impl.TripleIn, at every argument. -/
theorem ansTripleIn : AnsTripleIn := by
  intro a t v w _ _ _
  have k0 := ((((Kept.refl w).new 43 #[.int .i64 t, .int .i64 v]).new 46 #[.int .i64 0, .int .i64 0, .int .i64 0]).new 46 #[.int .i64 a, .int .i64 t, .int .i64 v])
  rw [show ((w.alloc (.cells #[.int .i64 t, .int .i64 v] 43)).alloc (.cells #[.int .i64 0, .int .i64 0, .int .i64 0] 46)).heap.size = w.heap.size + 1 + 1 by simp, show (w.alloc (.cells #[.int .i64 t, .int .i64 v] 43)).heap.size = w.heap.size + 1 by simp] at k0
  have K0 := Lib.hid k0
  clear k0
  have D := Lib.hid (fun w => tripleOk_calls a t v w)
  by_cases h : isTri a t v
  · rw [tripleIn_yes h]
    rw [decide_eq_true h] at D
    clear h
    go_enter Try.func54, Try.ntmps54
    go_wp2_with fail
    refine (D.out _).mono ?_; rintro e w1 ⟨rfl, b1⟩
    have k1 := K0.out.below b1
    obtain ⟨e0, e1, e2⟩ := k1.three
    obtain ⟨r0, r1, r2⟩ := k1.tail.three
    have f0 := k1.tail.frozen (List.mem_cons_self ..) 0
    have f1 := k1.tail.frozen (List.mem_cons_self ..) 1
    have f2 := k1.tail.frozen (List.mem_cons_self ..) 2
    have K1 := Lib.hid k1
    clear b1 k1
    go_wp2_with fail
    obtain ⟨w9, e9, ⟨d0, d1, d2⟩, hb⟩ := triple_end (x := .int .i64 a) (y := .int .i64 t) (z := .int .i64 v) (K1.out.tail.at_ (List.mem_cons_self ..)) K1.out.1 (Nat.le_succ _)
    rw [e9]
    exact bodyPost_ret (v := .agg #[.int .i64 a, .int .i64 t, .int .i64 v]) (by simp [results, Try.results54, go_sem, d0, d1, d2]) rfl ⟨rfl, hb⟩
  · rw [tripleIn_no h]
    rw [decide_eq_false h] at D
    clear h
    go_enter Try.func54, Try.ntmps54
    go_wp2_with fail
    refine (D.out _).mono ?_; rintro e w1 ⟨rfl, b1⟩
    have k1 := K0.out.below b1
    obtain ⟨r0, r1, r2⟩ := k1.tail.three
    have f0 := k1.tail.frozen (List.mem_cons_self ..) 0
    have f1 := k1.tail.frozen (List.mem_cons_self ..) 1
    have f2 := k1.tail.frozen (List.mem_cons_self ..) 2
    have K1 := Lib.hid k1
    clear b1 k1
    go_wp2_with fail
    obtain ⟨w9, e9, ⟨d0, d1, d2⟩, hb⟩ := triple_end (x := .int .i64 0) (y := .int .i64 0) (z := .int .i64 0) (K1.out.tail.at_ (List.mem_cons_self ..)) K1.out.1 (Nat.le_succ _)
    rw [e9]
    exact bodyPost_ret (v := .agg #[.int .i64 0, .int .i64 0, .int .i64 0]) (by simp [results, Try.results54, go_sem, d0, d1, d2]) rfl ⟨rfl, hb⟩
end Go.Proofs.Ythbkccagpggljaa.Mx

import Derived.Test.YtgaecedhkbneaaaGreatDoorG24
import Derived.Test.YtgaecedhkbneaaaGreatDoorG02
import Derived.Test.YtgaecedhkbneaaaGreatDoorG04
import Derived.Test.YtgaecedhkbneaaaGreatDoorG17
import Derived.Test.YtgaecedhkbneaaaGreatDoorG05
import Derived.Deep.CutRange
namespace Go.Proofs.YtgaecedhkbneaaaGreatDoor.Mx
open Go.ChangeShapes Go.WideShapes Go.ChangeAt Go.RowKit
set_option linter.unusedVariables false
set_option maxRecDepth 20000 in
set_option maxHeartbeats 2000000 in
theorem implBehind_calls (key x : Int) (A : Option Addr) (l : List Int) (cap : Nat) (t0 t1 t2 t3 t4 t5 t6 : Int) (t7 : Bool) (w : World) (hn : l.length ≤ maxLen) (hcap : l.length ≤ cap) (hA : Ints w .i64 w.heap.size A l) (hx : I64 x) :
    Calls Tryz.prog 159 #[.agg (pA key A l.length cap), .agg (tA t0 t1 t2 t3 t4 t5 t6 t7), .int .i64 x] w fun e w' => e = .returned (.bool (behindB key l t2 x)) ∧ Below w.heap.size w w' := by
  have k0 := ((Kept.refl w).new 26 (pA key A l.length cap)).new 80 (tA t0 t1 t2 t3 t4 t5 t6 t7)
  rw [show (w.alloc (.cells (pA key A l.length cap) 26)).heap.size = w.heap.size + 1 by simp] at k0
  have R := Lib.hid (fun (u : World) (hb : Below w.heap.size w u) => regionOf_calls key x A l cap u hn hcap ((hA.below hb (Nat.le_refl _)).more hb.size) hx)
  have F := Lib.hid (fun (u : World) (r : Int) (hb : Below w.heap.size w u) => firstOf_calls key r A l cap u hn hcap ((hA.below hb (Nat.le_refl _)).more hb.size))
  have K0 := Lib.hid k0
  clear hA hn k0
  unfold behindB
  by_cases hr : 0 ≤ regionOf key l x
  · obtain ⟨i, e, hi, hp, hx0, hu0, hu1⟩ := regionOf_up hr
    have hb := upTo_bd hp.2.2.1 (show i ≤ l.length by omega)
    rw [e] at R ⊢
    rw [firstOf_yes hp hi]
    have FI := Lib.hid (fun u hb => F.out u i hb)
    rw [firstOf_yes hp hi] at FI
    have hx1 := hx.2
    have hi0 : (0 : Int) ≤ i := by omega
    have hwr : IntKind.i64.wrap (x - upTo l i) = x - upTo l i := IntWalk.i64_in _ (by omega)
    rw [decide_eq_true hi0, Bool.true_and]
    generalize upTo l i = f at FI hwr
    clear hr e hp hu0 hu1 hb F hx hx0 hx1
    go_enter Tryz.func159, Tryz.ntmps159
    go_wp2_with fail
    refine (R.out _ K0.out.1).mono ?_; rintro e w1 ⟨rfl, b1⟩
    have k1 := (K0.out.below b1).drew
    have P1 := Lib.hid (fun (u : World) (h : Kept w [(w.heap.size + 1, 80, (tA t0 t1 t2 t3 t4 t5 t6 t7)), (w.heap.size, 26, (pA key A l.length cap))] u) => (FI.out u h.1).mono (fun e w' ⟨he, hb⟩ => (⟨he, h.below hb⟩ : _ ∧ Kept w [(w.heap.size + 1, 80, (tA t0 t1 t2 t3 t4 t5 t6 t7)), (w.heap.size, 26, (pA key A l.length cap))] w')))
    clear b1 R FI K0
    go_upto_region 2 with fail
    refine wp_region_class (C := fun u => Kept w [(w.heap.size + 1, 80, (tA t0 t1 t2 t3 t4 t5 t6 t7)), (w.heap.size, 26, (pA key A l.length cap))] u) (by kernel_rfl) (by kernel_rfl) k1 ?_
    iterate 13 (first
      | go_big_quiet_skip
      | (go_big_quiet_want
         go_big_quiet_op
         first
           | go_big_quiet_on
           | (apply Exists.intro
              refine ⟨fun u hu => ?_, ?_⟩
              · first
                  | with_reducible rfl
                  | (go_at_call 103; exact P1.out u hu)
                  | (have e0 := hu.cell (p := w.heap.size) (t := 26) (cs := (pA key A l.length cap)) (by simp) 0; have e1 := hu.cell (p := w.heap.size) (t := 26) (cs := (pA key A l.length cap)) (by simp) 1; have e2 := hu.cell (p := w.heap.size + 1) (t := 80) (cs := (tA t0 t1 t2 t3 t4 t5 t6 t7)) (by simp) 2; simp only [List.getElem?_toArray, List.getElem?_cons_zero, List.getElem?_cons_succ] at e0 e1 e2; go_simp; first | done | with_reducible rfl)
              go_big_quiet_on)))
    refine wpQuiet_nil ?_
    intro wz hz
    go_wp2_with fail
    go_ret
    exact ⟨rfl, hz.1⟩
  · have hr' : regionOf key l x < 0 := by omega
    have hr2 : (regionOf key l x : Int) ≤ -1 := by omega
    have hd : decide (0 ≤ regionOf key l x) = false := decide_eq_false hr
    rw [hd, Bool.false_and]
    generalize regionOf key l x = r at R hd hr'
    clear hr hr2 hr' F
    go_enter Tryz.func159, Tryz.ntmps159
    go_wp2_with fail
    refine (R.out _ K0.out.1).mono ?_; rintro e w1 ⟨rfl, b1⟩
    have k1 := (K0.out.below b1).drew
    clear b1 R K0
    go_upto_region 2 with fail
    refine wp_region_class (C := fun u => Kept w [(w.heap.size + 1, 80, (tA t0 t1 t2 t3 t4 t5 t6 t7)), (w.heap.size, 26, (pA key A l.length cap))] u) (by kernel_rfl) (by kernel_rfl) k1 ?_
    iterate 13 (first
      | go_big_quiet_skip
      | (go_big_quiet_want
         go_big_quiet_op
         first
           | go_big_quiet_on
           | (apply Exists.intro
              refine ⟨fun u hu => ?_, ?_⟩
              · first
                  | with_reducible rfl
                  | (have e0 := hu.cell (p := w.heap.size) (t := 26) (cs := (pA key A l.length cap)) (by simp) 0; have e1 := hu.cell (p := w.heap.size) (t := 26) (cs := (pA key A l.length cap)) (by simp) 1; have e2 := hu.cell (p := w.heap.size + 1) (t := 80) (cs := (tA t0 t1 t2 t3 t4 t5 t6 t7)) (by simp) 2; simp only [List.getElem?_toArray, List.getElem?_cons_zero, List.getElem?_cons_succ] at e0 e1 e2; go_simp; first | done | with_reducible rfl)
              go_big_quiet_on)))
    refine wpQuiet_nil ?_
    intro wz hz
    go_wp2_with fail
    go_ret
    exact ⟨rfl, hz.1⟩
theorem number_calls (m : Int) (w : World) : Calls Tryz.prog 238 #[.int .i64 m] w fun e w' => e = .returned (.int .i64 m) ∧ w = w' := by
  go_enter Tryz.func238, Tryz.ntmps238
  go_wp2_with fail
  go_ret
  exact ⟨rfl, rfl⟩
theorem inTime_yes (m : Int) (w : World) (h : isTm m) : Calls Tryz.prog 231 #[.int .i64 m] w fun e w' => e = .returned (.bool true) ∧ w = w' := by
  have C := Lib.hid (fun w => number_calls m w)
  have D := Lib.hid (fun w => isTime_yes m w h)
  clear h
  go_enter Tryz.func231, Tryz.ntmps231
  go_wp2_with fail
  refine (C.out _).mono ?_; rintro e w' ⟨rfl, rfl⟩
  go_wp2_with fail
  refine (D.out _).mono ?_; rintro e w' ⟨rfl, rfl⟩
  go_wp2_with fail
  go_ret
  exact ⟨rfl, rfl⟩
theorem inTime_no (m : Int) (w : World) (h : ¬ isTm m) : Calls Tryz.prog 231 #[.int .i64 m] w fun e w' => e = .returned (.bool false) ∧ w = w' := by
  have C := Lib.hid (fun w => number_calls m w)
  have D := Lib.hid (fun w => isTime_no m w h)
  clear h
  go_enter Tryz.func231, Tryz.ntmps231
  go_wp2_with fail
  refine (C.out _).mono ?_; rintro e w' ⟨rfl, rfl⟩
  go_wp2_with fail
  refine (D.out _).mono ?_; rintro e w' ⟨rfl, rfl⟩
  go_wp2_with fail
  go_ret
  exact ⟨rfl, rfl⟩
theorem isRight_calls (t v : Int) (w : World) :
    Calls Tryz.prog 216 #[.agg (cA t v)] w fun e w' => e = .returned (.bool (decide (isCell t v))) ∧ Below w.heap.size w w' := by
  by_cases ht : isTm t
  · have D := Lib.hid (fun w => inTime_yes t w ht)
    by_cases hv : isVal v
    · have E := Lib.hid (fun w => isValue_yes v w hv)
      rw [decide_eq_true (show isCell t v from ⟨ht, hv⟩)]
      clear ht hv
      go_enter Tryz.func216, Tryz.ntmps216
      go_wp2_with fail
      refine (D.out _).mono ?_; rintro e w' ⟨rfl, rfl⟩
      go_wp2_with fail
      refine (E.out _).mono ?_; rintro e w' ⟨rfl, rfl⟩
      go_wp2_with fail
      go_ret
      exact ⟨rfl, (Below.refl _ _).alloc (Nat.le_refl _) _⟩
    · have E := Lib.hid (fun w => isValue_no v w hv)
      rw [decide_eq_false (show ¬ isCell t v from fun h => hv h.2)]
      clear ht hv
      go_enter Tryz.func216, Tryz.ntmps216
      go_wp2_with fail
      refine (D.out _).mono ?_; rintro e w' ⟨rfl, rfl⟩
      go_wp2_with fail
      refine (E.out _).mono ?_; rintro e w' ⟨rfl, rfl⟩
      go_wp2_with fail
      go_ret
      exact ⟨rfl, (Below.refl _ _).alloc (Nat.le_refl _) _⟩
  · have D := Lib.hid (fun w => inTime_no t w ht)
    rw [decide_eq_false (show ¬ isCell t v from fun h => ht h.1)]
    clear ht
    go_enter Tryz.func216, Tryz.ntmps216
    go_wp2_with fail
    refine (D.out _).mono ?_; rintro e w' ⟨rfl, rfl⟩
    go_wp2_with fail
    go_ret
    exact ⟨rfl, (Below.refl _ _).alloc (Nat.le_refl _) _⟩
theorem timedOf_calls (t v : Int) (w : World) :
    Calls Tryz.prog 215 #[.agg (cA t v)] w fun e w' => e = .returned (.agg (cA t v)) ∧ Below w.heap.size w w' := by
  go_enter Tryz.func215, Tryz.ntmps215
  go_wp2_with fail
  exact bodyPost_ret (v := .agg (cA t v)) (by simp [results, Tryz.results215, go_sem]) rfl ⟨rfl, ((Below.refl _ _).alloc (Nat.le_refl _) _).alloc (by simp) _⟩
theorem ansCellOk : AnsCellOk := by
  intro t v w _ _
  have C := Lib.hid (fun w => timedOf_calls t v w)
  have D := Lib.hid (fun w => isRight_calls t v w)
  generalize decide (isCell t v) = b at D
  go_enter Tryz.func184, Tryz.ntmps184
  go_wp2_with fail
  refine (C.out _).mono ?_; rintro e w1 ⟨rfl, b1⟩
  have B1 := Lib.hid (((Below.refl w.heap.size w).alloc (Nat.le_refl _) _).trans (b1.mono (by simp)))
  clear b1
  go_wp2_with fail
  refine (D.out _).mono ?_; rintro e w2 ⟨rfl, b2⟩
  have B2 := Lib.hid (B1.out.trans (b2.mono B1.out.size))
  clear b2
  go_wp2_with fail
  go_ret
  exact ⟨rfl, B2.out⟩
theorem way_no (key a t v : Int) (f : Value) (w : World) (h : ¬ (isAt a ∧ isCell t v)) :
    Calls Tryz.prog 227 #[.agg (cA t v), f, .int .i64 key, .int .i64 a] w fun e w' => e = .returned (.int .i64 (-1)) ∧ Below w.heap.size w w' := by
  by_cases ha : isAt a
  · have C := Lib.hid (fun w => isPlace_yes a w ha)
    have D := Lib.hid (fun w => isRight_calls t v w)
    rw [decide_eq_false (show ¬ isCell t v from fun h' => h ⟨ha, h'⟩)] at D
    clear ha h
    go_enter Tryz.func227, Tryz.ntmps227
    go_wp2_with fail
    refine (C.out _).mono ?_; rintro e w' ⟨rfl, rfl⟩
    go_wp2_with fail
    refine (D.out _).mono ?_; rintro e w2 ⟨rfl, b2⟩
    have B2 := Lib.hid (((Below.refl w.heap.size w).alloc (Nat.le_refl _) _).trans (b2.mono (by simp)))
    clear b2
    go_wp2_with fail
    go_ret
    exact ⟨rfl, B2.out⟩
  · have C := Lib.hid (fun w => isPlace_no a w ha)
    clear ha h
    go_enter Tryz.func227, Tryz.ntmps227
    go_wp2_with fail
    refine (C.out _).mono ?_; rintro e w' ⟨rfl, rfl⟩
    go_wp2_with fail
    go_ret
    exact ⟨rfl, (Below.refl _ _).alloc (Nat.le_refl _) _⟩
set_option maxRecDepth 20000 in
theorem way_yesH (key a t v z : Int) (w : World) (ha : isAt a) (hc : isCell t v)
    (H : ∀ w, Calls Tryz.prog 229 #[.int .i64 key, .int .i64 a, .int .i64 t, .int .i64 v] w fun e w' => e = .returned (.int .i64 z) ∧ Below w.heap.size w w') :
    Calls Tryz.prog 227 #[.agg (cA t v), .func (.func 229) #[] #[], .int .i64 key, .int .i64 a] w fun e w' => e = .returned (.int .i64 z) ∧ Below w.heap.size w w' := by
  have C := Lib.hid (fun w => isPlace_yes a w ha)
  have D := Lib.hid (fun w => isRight_calls t v w)
  rw [decide_eq_true hc] at D
  have N := Lib.hid (fun w => number_calls t w)
  have K := Lib.hid ((Kept.refl w).new 222 (cA t v))
  have G := Lib.hid H
  clear ha hc H
  go_enter Tryz.func227, Tryz.ntmps227
  go_wp2_with fail
  refine (C.out _).mono ?_; rintro e w' ⟨rfl, rfl⟩
  go_wp2_with fail
  refine (D.out _).mono ?_; rintro e w1 ⟨rfl, b1⟩
  have k1 := K.out.below b1
  clear b1
  go_wp2_with fail
  have P1 : ∀ u, Kept w [(w.heap.size, 222, (cA t v))] u → Calls Tryz.prog 229 #[.int .i64 key, .int .i64 a, .int .i64 t, .int .i64 v] u fun e w' => e = .returned (.int .i64 z) ∧ Kept w [(w.heap.size, 222, (cA t v))] w' :=
    fun u hu => (G.out u).mono fun e w' h => ⟨h.1, hu.below h.2⟩
  have P2 : ∀ u, Kept w [(w.heap.size, 222, (cA t v))] u → Calls Tryz.prog 238 #[.int .i64 t] u fun e w' => e = .returned (.int .i64 t) ∧ Kept w [(w.heap.size, 222, (cA t v))] w' :=
    fun u hu => class_same hu (N.out u)
  have PP1 := Lib.hid P1
  have PP2 := Lib.hid P2
  clear P1 P2
  refine wp_region_class (C := fun u => Kept w [(w.heap.size, 222, (cA t v))] u) (by kernel_rfl) (by kernel_rfl) k1.drew ?_
  clear k1
  iterate 10
    (first
      | go_big_quiet_skip
      | (go_big_quiet_want
         go_big_quiet_op
         first
           | go_big_quiet_on
           | (apply Exists.intro
              refine ⟨fun u hu => ?_, ?_⟩
              · first
                  | with_reducible rfl
                  | (go_at_call 238; exact PP2.out u hu)
                  | (go_at_call 229; exact PP1.out u hu)
                  | (have c0 := hu.cell (List.mem_cons_self ..) 0; have c1 := hu.cell (List.mem_cons_self ..) 1; simp only [List.getElem?_toArray, List.getElem?_cons_zero, List.getElem?_cons_succ] at c0 c1; go_simp; first | done | with_reducible rfl)
              go_big_quiet_on)))
  refine wpQuiet_nil ?_; intro wz hz
  go_wp2_with fail
  go_ret
  exact ⟨rfl, hz.1⟩
set_option maxRecDepth 20000 in
theorem way_yesS (key a t v z : Int) (w : World) (ha : isAt a) (hc : isCell t v)
    (H : ∀ w, Calls Tryz.prog 228 #[.int .i64 key, .int .i64 a, .int .i64 t, .int .i64 v] w fun e w' => e = .returned (.int .i64 z) ∧ Below w.heap.size w w') :
    Calls Tryz.prog 227 #[.agg (cA t v), .func (.func 228) #[] #[], .int .i64 key, .int .i64 a] w fun e w' => e = .returned (.int .i64 z) ∧ Below w.heap.size w w' := by
  have C := Lib.hid (fun w => isPlace_yes a w ha)
  have D := Lib.hid (fun w => isRight_calls t v w)
  rw [decide_eq_true hc] at D
  have N := Lib.hid (fun w => number_calls t w)
  have K := Lib.hid ((Kept.refl w).new 222 (cA t v))
  have G := Lib.hid H
  clear ha hc H
  go_enter Tryz.func227, Tryz.ntmps227
  go_wp2_with fail
  refine (C.out _).mono ?_; rintro e w' ⟨rfl, rfl⟩
  go_wp2_with fail
  refine (D.out _).mono ?_; rintro e w1 ⟨rfl, b1⟩
  have k1 := K.out.below b1
  clear b1
  go_wp2_with fail
  have P1 : ∀ u, Kept w [(w.heap.size, 222, (cA t v))] u → Calls Tryz.prog 228 #[.int .i64 key, .int .i64 a, .int .i64 t, .int .i64 v] u fun e w' => e = .returned (.int .i64 z) ∧ Kept w [(w.heap.size, 222, (cA t v))] w' :=
    fun u hu => (G.out u).mono fun e w' h => ⟨h.1, hu.below h.2⟩
  have P2 : ∀ u, Kept w [(w.heap.size, 222, (cA t v))] u → Calls Tryz.prog 238 #[.int .i64 t] u fun e w' => e = .returned (.int .i64 t) ∧ Kept w [(w.heap.size, 222, (cA t v))] w' :=
    fun u hu => class_same hu (N.out u)
  have PP1 := Lib.hid P1
  have PP2 := Lib.hid P2
  clear P1 P2
  refine wp_region_class (C := fun u => Kept w [(w.heap.size, 222, (cA t v))] u) (by kernel_rfl) (by kernel_rfl) k1.drew ?_
  clear k1
  iterate 10
    (first
      | go_big_quiet_skip
      | (go_big_quiet_want
         go_big_quiet_op
         first
           | go_big_quiet_on
           | (apply Exists.intro
              refine ⟨fun u hu => ?_, ?_⟩
              · first
                  | with_reducible rfl
                  | (go_at_call 238; exact PP2.out u hu)
                  | (go_at_call 228; exact PP1.out u hu)
                  | (have c0 := hu.cell (List.mem_cons_self ..) 0; have c1 := hu.cell (List.mem_cons_self ..) 1; simp only [List.getElem?_toArray, List.getElem?_cons_zero, List.getElem?_cons_succ] at c0 c1; go_simp; first | done | with_reducible rfl)
              go_big_quiet_on)))
  refine wpQuiet_nil ?_; intro wz hz
  go_wp2_with fail
  go_ret
  exact ⟨rfl, hz.1⟩
theorem shownOf_nokey {key a t v : Int} (hk : ¬ isKey key) : shownOf key a t v = -1 := by
  have h : streamOf key a t = -1 := by
    unfold streamOf
    rw [if_pos (by rw [mixOf_key (by unfold isKey at hk; omega)]; omega)]
  unfold shownOf; rw [h]; exact turnOf_neg (by omega)
theorem hiddenOf_nokey {key a t v : Int} (hk : ¬ isKey key) : hiddenOf key a t v = -1 := by
  have h : streamOf key a t = -1 := by
    unfold streamOf
    rw [if_pos (by rw [mixOf_key (by unfold isKey at hk; omega)]; omega)]
  unfold hiddenOf; rw [h]; exact turnOf_neg (by omega)
theorem ansValueIn : AnsValueIn := by
  intro key a t v w _ ha ht _
  have C := Lib.hid (fun w => timedOf_calls t v w)
  have D : ∀ w, Calls Tryz.prog 227 #[.agg (cA t v), .func (.func 228) #[] #[], .int .i64 key, .int .i64 a] w fun e w' => e = .returned (.int .i64 (valueIn key a t v)) ∧ Below w.heap.size w w' := by
    intro w
    by_cases h : isAt a ∧ isCell t v
    · have e : valueIn key a t v = shownOf key a t v := by
        by_cases hk : isKey key
        · exact valueIn_yes hk h.1 h.2
        · rw [valueIn_no (fun h' => hk h'.1), shownOf_nokey hk]
      rw [e]
      exact way_yesS key a t v _ w h.1 h.2 (fun w => shown_calls key a t v w ha ht)
    · rw [valueIn_no (fun h' => h h'.2)]
      exact way_no key a t v _ w h
  have DD := Lib.hid D
  generalize valueIn key a t v = z at DD ⊢
  clear D ha ht
  go_enter Tryz.func201, Tryz.ntmps201
  go_wp2_with fail
  refine (C.out _).mono ?_; rintro e w1 ⟨rfl, b1⟩
  have B1 := Lib.hid (((Below.refl w.heap.size w).alloc (Nat.le_refl _) _).trans (b1.mono (by simp)))
  clear b1
  go_wp2_with fail
  refine (DD.out _).mono ?_; rintro e w2 ⟨rfl, b2⟩
  have B2 := Lib.hid (B1.out.trans (b2.mono B1.out.size))
  clear b2
  go_wp2_with fail
  go_ret
  exact ⟨rfl, B2.out⟩
theorem ansCellOf : AnsCellOf := by
  intro key a t v w _ ha ht _
  have k0 := ((Kept.refl w).new 112 zC).new 222 (cA t v)
  rw [show (w.alloc (.cells zC 112)).heap.size = w.heap.size + 1 by simp] at k0
  have K0 := Lib.hid k0
  clear k0
  by_cases h : isKey key ∧ isTri a t v
  · rw [cellOf_yes h.1 h.2]
    have hz : ¬ hiddenOf key a t v < 0 := hidden_nat h.1.1 h.1.2 (by have := h.2.1.1; omega) (by have := h.2.2.1.1; omega) h.2.2.2
    have D := Lib.hid (fun w => way_yesH key a t v _ w h.2.1 h.2.2 (fun w => hidden_calls key a t v w ha ht))
    generalize hiddenOf key a t v = z at D hz
    clear h ha ht
    go_enter Tryz.func202, Tryz.ntmps202
    go_wp2_with fail
    refine (D.out _).mono ?_; rintro e w1 ⟨rfl, b1⟩
    have k1 := K0.out.below b1
    have r0 := k1.cell (List.mem_cons_of_mem _ (List.mem_cons_self ..)) 0
    have r1 := k1.cell (List.mem_cons_of_mem _ (List.mem_cons_self ..)) 1
    have f0 := k1.frozen (List.mem_cons_of_mem _ (List.mem_cons_self ..)) 0
    have f1 := k1.frozen (List.mem_cons_of_mem _ (List.mem_cons_self ..)) 1
    simp only [List.getElem?_toArray, List.getElem?_cons_zero, List.getElem?_cons_succ] at r0 r1
    have K1 := Lib.hid k1.tail
    clear b1 k1
    go_wp2_with fail
    obtain ⟨w9, e9, ⟨d0, d1⟩, hb⟩ := cell_end (x := .int .i64 t) (y := .int .i64 z) (K1.out.at_ (List.mem_cons_self ..)) K1.out.1 (Nat.le_refl _)
    rw [e9]
    exact bodyPost_ret (v := .agg (cA t z)) (by simp [results, Tryz.results202, go_sem, d0, d1]) rfl ⟨rfl, hb⟩
  · rw [cellOf_no h]
    have D : ∃ z, z < 0 ∧ ∀ w, Calls Tryz.prog 227 #[.agg (cA t v), .func (.func 229) #[] #[], .int .i64 key, .int .i64 a] w fun e w' => e = .returned (.int .i64 z) ∧ Below w.heap.size w w' := by
      by_cases h2 : isAt a ∧ isCell t v
      · refine ⟨-1, by omega, fun w => ?_⟩
        have e : hiddenOf key a t v = -1 := hiddenOf_nokey (fun hk => h ⟨hk, h2.1, h2.2.1, h2.2.2⟩)
        rw [← e]
        exact way_yesH key a t v _ w h2.1 h2.2 (fun w => hidden_calls key a t v w ha ht)
      · exact ⟨-1, by omega, fun w => way_no key a t v _ w h2⟩
    obtain ⟨z, hz, D⟩ := D
    have DD := Lib.hid D
    clear h ha ht D
    go_enter Tryz.func202, Tryz.ntmps202
    go_wp2_with fail
    refine (DD.out _).mono ?_; rintro e w1 ⟨rfl, b1⟩
    have k1 := K0.out.below b1
    have r0 := k1.cell (List.mem_cons_of_mem _ (List.mem_cons_self ..)) 0
    have r1 := k1.cell (List.mem_cons_of_mem _ (List.mem_cons_self ..)) 1
    have f0 := k1.frozen (List.mem_cons_of_mem _ (List.mem_cons_self ..)) 0
    have f1 := k1.frozen (List.mem_cons_of_mem _ (List.mem_cons_self ..)) 1
    simp only [List.getElem?_toArray, List.getElem?_cons_zero, List.getElem?_cons_succ] at r0 r1
    have K1 := Lib.hid k1.tail
    clear b1 k1
    go_wp2_with fail
    obtain ⟨w9, e9, ⟨d0, d1⟩, hb⟩ := cell_end (x := .int .i64 0) (y := .int .i64 0) (K1.out.at_ (List.mem_cons_self ..)) K1.out.1 (Nat.le_refl _)
    rw [e9]
    exact bodyPost_ret (v := .agg zC) (by simp [results, Tryz.results202, go_sem, d0, d1]) rfl ⟨rfl, hb⟩
theorem ansTripleIn : AnsTripleIn := by
  intro a t v w _ _ _
  have k0 := ((((Kept.refl w).new 112 (cA t v)).new 137 #[.int .i64 0, .int .i64 0, .int .i64 0]).new 137 #[.int .i64 a, .int .i64 t, .int .i64 v])
  rw [show ((w.alloc (.cells (cA t v) 112)).alloc (.cells #[.int .i64 0, .int .i64 0, .int .i64 0] 137)).heap.size = w.heap.size + 1 + 1 by simp, show (w.alloc (.cells (cA t v) 112)).heap.size = w.heap.size + 1 by simp] at k0
  have K0 := Lib.hid k0
  clear k0
  have D := Lib.hid (fun w => tripleOk_calls a t v w)
  by_cases h : isTri a t v
  · rw [tripleIn_yes h]
    rw [decide_eq_true h] at D
    clear h
    go_enter Tryz.func226, Tryz.ntmps226
    go_wp2_with fail
    refine (D.out _).mono ?_; rintro e w1 ⟨rfl, b1⟩
    have k1 := K0.out.below b1
    obtain ⟨e0, e1, e2⟩ := k1.three
    obtain ⟨r0, r1, r2⟩ := k1.tail.three
    have f0 := k1.tail.frozen (List.mem_cons_self ..) 0
    have f1 := k1.tail.frozen (List.mem_cons_self ..) 1
    have f2 := k1.tail.frozen (List.mem_cons_self ..) 2
    have K1 := Lib.hid k1
    clear b1 k1
    go_wp2_with fail
    obtain ⟨w9, e9, ⟨d0, d1, d2⟩, hb⟩ := triple_end (x := .int .i64 a) (y := .int .i64 t) (z := .int .i64 v) (K1.out.tail.at_ (List.mem_cons_self ..)) K1.out.1 (Nat.le_succ _)
    rw [e9]
    exact bodyPost_ret (v := .agg #[.int .i64 a, .int .i64 t, .int .i64 v]) (by simp [results, Tryz.results226, go_sem, d0, d1, d2]) rfl ⟨rfl, hb⟩
  · rw [tripleIn_no h]
    rw [decide_eq_false h] at D
    clear h
    go_enter Tryz.func226, Tryz.ntmps226
    go_wp2_with fail
    refine (D.out _).mono ?_; rintro e w1 ⟨rfl, b1⟩
    have k1 := K0.out.below b1
    obtain ⟨r0, r1, r2⟩ := k1.tail.three
    have f0 := k1.tail.frozen (List.mem_cons_self ..) 0
    have f1 := k1.tail.frozen (List.mem_cons_self ..) 1
    have f2 := k1.tail.frozen (List.mem_cons_self ..) 2
    have K1 := Lib.hid k1
    clear b1 k1
    go_wp2_with fail
    obtain ⟨w9, e9, ⟨d0, d1, d2⟩, hb⟩ := triple_end (x := .int .i64 0) (y := .int .i64 0) (z := .int .i64 0) (K1.out.tail.at_ (List.mem_cons_self ..)) K1.out.1 (Nat.le_succ _)
    rw [e9]
    exact bodyPost_ret (v := .agg #[.int .i64 0, .int .i64 0, .int .i64 0]) (by simp [results, Tryz.results226, go_sem, d0, d1, d2]) rfl ⟨rfl, hb⟩
theorem cellOf_i64 {key a t v : Int} (hk : I64 key) (ht : I64 t) : I64 (cellOf key a t v).1 ∧ I64 (cellOf key a t v).2 := by
  by_cases h : isKey key ∧ isTri a t v
  · rw [cellOf_yes h.1 h.2]
    refine ⟨h.2.i64.2.1, ?_⟩
    have hs := streamOf_nat h.1.1 h.1.2 h.2.1.1 h.2.2.1.1
    simp only []
    unfold hiddenOf
    rw [turnOf_yes hs h.2.2.2]
    unfold I64; omega
  · rw [cellOf_no h]; exact ⟨⟨by decide, by decide⟩, ⟨by decide, by decide⟩⟩
theorem triI64 (a t v : Int) : I64 (tripleIn a t v).1 ∧ I64 (tripleIn a t v).2.1 ∧ I64 (tripleIn a t v).2.2 := by
  by_cases h : isTri a t v
  · rw [tripleIn_yes h]; exact h.i64
  · rw [tripleIn_no h]; exact ⟨⟨by decide, by decide⟩, ⟨by decide, by decide⟩, ⟨by decide, by decide⟩⟩
theorem allocP (w : World) (o : Obj) : Below w.heap.size w (w.alloc o) := (Below.refl _ _).alloc (Nat.le_refl _) _
theorem gb_newP {w w' : World} {g b : Nat} (h : w.grownBy w' (some g)) (hb : w.heap.size ≤ b) (i : Nat) (u : Value) : w.grownBy (w'.setCell ⟨b, i, none⟩ u) (some g) :=
  ⟨h.os, h.tape, h.output, by simpa [World.setCell] using h.size, fun k hk hr => (Below.heap_setCell _ _ _ _ (by simp; omega)).trans (h.block k hk hr)⟩
theorem gb_belowP {a b c : World} {g : Nat} (h : a.grownBy b (some g)) (hb : Below a.heap.size b c) : a.grownBy c (some g) :=
  ⟨hb.os.trans h.os, hb.tape.trans h.tape, hb.output.trans h.output, Nat.le_trans h.size hb.size, fun k hk hr => (hb.block k hk).trans (h.block k hk hr)⟩
noncomputable def tagIn (key a x1 x2 : Int) : Int := tagOf key (tripleIn a x1 x2).1 (tripleIn a x1 x2).2.1 (tripleIn a x1 x2).2.2
set_option maxRecDepth 20000 in
set_option maxHeartbeats 4000000 in
theorem added_calls (s key a x1 x2 : Int) (w : World) (ha : I64 a) (h1 : I64 x1) (h2 : I64 x2) :
    Calls Tryz.prog 200 #[.int .i64 s, .int .i64 key, .int .i64 a, .agg (cA x1 x2)] w fun e w' => e = .returned (.int .i64 (addOf s (tagIn key a x1 x2))) ∧ Below w.heap.size w w' := by
  unfold tagIn
  have CT := Lib.hid (fun u => ansTripleIn a x1 x2 u ha h1 h2)
  have h3 := triI64 a x1 x2
  generalize (tripleIn a x1 x2).1 = y1 at CT h3 ⊢
  generalize (tripleIn a x1 x2).2.1 = y2 at CT h3 ⊢
  generalize (tripleIn a x1 x2).2.2 = y3 at CT h3 ⊢
  have CG := Lib.hid (fun u => tag_calls key y1 y2 y3 u h3.1 h3.2.1 h3.2.2)
  generalize tagOf key y1 y2 y3 = g at CG ⊢
  have CA := Lib.hid (fun u => add_calls s g u)
  generalize addOf s g = z at CA ⊢
  have K0 := Lib.hid (show Kept w [(w.heap.size, 112, (cA x1 x2))] _ from (Kept.refl w).put1 _ _ (cA x1 x2) rfl)
  clear h3 ha h1 h2
  go_enter Tryz.func200, Tryz.ntmps200
  go_upto_region 1 with fail
  have hk0 := K0.out
  clear K0
  generalize World.alloc _ _ = w0 at hk0 ⊢
  obtain ⟨kc0, kf0, -⟩ := hk0.rd
  go_wp2_with fail
  refine (CT.out _).mono ?_; rintro e w2 ⟨rfl, b2⟩
  have hk2 := hk0.below b2
  clear hk0 b2 kc0 kf0 CT
  go_wp2_with fail
  refine (CG.out _).mono ?_; rintro e w3 ⟨rfl, b3⟩
  have hk3 := hk2.below b3
  clear hk2 b3 CG
  go_wp2_with fail
  refine (CA.out _).mono ?_; rintro e w4 ⟨rfl, rfl⟩
  go_wp2_with fail
  go_ret
  exact ⟨rfl, hk3.1⟩
set_option maxRecDepth 20000 in
set_option maxHeartbeats 4000000 in
theorem put_calls (key a c s v : Int) (p k : Nat) (cs : Array Value) (w : World) (hkey : I64 key) (ha : I64 a) (hc0 : 0 ≤ c) (hc1 : c ≤ 1000000) (hv : I64 v) (hp : CellsAt w p 80 cs) (e0 : cs[0]? = some (.int .i64 c)) (ek : cs[k]? = some (.int .i64 s)) (k0 : 0 < k) :
    Calls Tryz.prog 161 #[.pointer (some ⟨p, 0, none⟩), .pointer (some ⟨p, k, none⟩), .int .i64 key, .int .i64 a, .int .i64 v] w fun e w' =>
      e = .returned (.agg (cA ((cellOf key a (c + 1) v).1) ((cellOf key a (c + 1) v).2))) ∧ w.grownBy w' (some p) ∧
      CellsAt w' p 80 ((cs.setIfInBounds 0 (.int .i64 (c + 1))).setIfInBounds k (.int .i64 (addOf s (tagIn key a (cellOf key a (c + 1) v).1 (cellOf key a (c + 1) v).2)))) := by
  have hi := cellOf_i64 (a := a) (t := c + 1) (v := v) hkey ⟨by omega, by omega⟩
  have CC := Lib.hid (fun u => ansCellOf key a (c + 1) v u hkey ha ⟨by omega, by omega⟩ hv)
  generalize (cellOf key a (c + 1) v).1 = x1 at CC hi ⊢
  generalize (cellOf key a (c + 1) v).2 = x2 at CC hi ⊢
  have CA := Lib.hid (fun u => added_calls s key a x1 x2 u ha hi.1 hi.2)
  generalize addOf s (tagIn key a x1 x2) = z at CA ⊢
  have hwc : IntKind.i64.wrap (c + 1) = c + 1 := IntWalk.i64_in _ (by omega)
  have lp := hp.lt
  have P0 := Lib.hid (show CellsAt (w.alloc (.cells zC 112)) p 80 cs from hp.below (allocP w _) lp)
  have G0 := Lib.hid (show w.grownBy (w.alloc (.cells zC 112)) (some p) from gb_alloc (gb_refl w (some p)) _)
  have R0 := Lib.hid (show CellsAt (w.alloc (.cells zC 112)) w.heap.size 112 zC from CellsAt.new w _ _)
  have E0 := Lib.hid e0
  have EK := Lib.hid ek
  have hne : ¬ p = w.heap.size := by omega
  have hne' : ¬ w.heap.size = p := by omega
  clear hp hi ha hkey hv e0 ek
  go_enter Tryz.func161, Tryz.ntmps161
  go_upto_region 1 with fail
  have hp0 := P0.out
  have hg0 := G0.out
  have hr0 := R0.out
  clear P0 G0 R0
  generalize World.alloc _ _ = w0 at hp0 hg0 hr0 ⊢
  have c0 : w0.cell? ⟨p, 0, none⟩ = some (.int .i64 c) := (hp0.cell 0).trans E0.out
  have f0 : ∀ i, w0.frozen? ⟨p, i, none⟩ = false := hp0.frozen
  go_upto_region 2 with fail
  have hp1 := hp0.set_ 0 (.int .i64 (c + 1))
  have hg1 := gb_set hg0 0 (.int .i64 (c + 1))
  have hr1 := hr0.grown (gb_set (gb_refl w0 (some p)) 0 (.int .i64 (c + 1))) (by intro e; injection e; omega)
  clear hp0 hg0 hr0 c0 f0
  generalize World.setCell _ _ _ = w1 at hp1 hg1 hr1 ⊢
  have hsz : cs.size ≠ 0 := by intro h; have := E0.out; rw [Array.getElem?_eq_none (by omega)] at this; cases this
  have c1 : w1.cell? ⟨p, 0, none⟩ = some (.int .i64 (c + 1)) := by rw [hp1.cell 0, Array.getElem?_setIfInBounds_self_of_lt (by omega)]
  go_wp2_with fail
  refine (CC.out _).mono ?_; rintro e w2 ⟨rfl, b2⟩
  have hp2 := hp1.below b2 hp1.lt
  have hr2 := hr1.below b2 hr1.lt
  have hg2 := gb_belowP hg1 (b2.mono hg1.size)
  have l2 : w.heap.size < w2.heap.size := hr2.lt
  clear hp1 hr1 hg1 b2 c1 CC
  have hp3 := hp2.below (allocP w2 (.cells (cA x1 x2) 112)) hp2.lt
  have hr3 := hr2.below (allocP w2 (.cells (cA x1 x2) 112)) hr2.lt
  have hg3 := gb_alloc hg2 (.cells (cA x1 x2) 112)
  have hq3 := CellsAt.new w2 112 (cA x1 x2)
  have hne2 : ¬ p = w2.heap.size := by omega
  have hne2' : ¬ w2.heap.size = p := by omega
  clear hp2 hr2 hg2
  go_upto_region 3 with fail
  generalize hw3 : World.alloc _ _ = w3 at hp3 hr3 hg3 hq3 ⊢
  clear hw3
  have CK : ∀ u, Below w3.heap.size w3 u → u.cell? ⟨p, k, none⟩ = some (.int .i64 s) ∧ (∀ i, u.frozen? ⟨p, i, none⟩ = false) ∧ (∀ i, u.cell? ⟨w2.heap.size, i, none⟩ = (cA x1 x2)[i]?) := fun u hu =>
    ⟨((hp3.below hu hp3.lt).cell k).trans (by rw [Array.getElem?_setIfInBounds_ne (by omega)]; exact EK.out), (hp3.below hu hp3.lt).frozen, (hq3.below hu hq3.lt).cell⟩
  have HK := Lib.hid CK
  have HP := Lib.hid hp3
  have HR := Lib.hid hr3
  have HG := Lib.hid hg3
  have HQ := Lib.hid hq3
  clear CK hp3 hr3 hg3 hq3 hsz
  refine wp_region_class_tail (C := fun u => Below w3.heap.size w3 u) 9 (by kernel_rfl) (by kernel_rfl) (Below.refl _ _).drew ?_
  simp only [List.take_succ_cons, List.take_zero, List.drop_succ_cons, List.drop_zero]
  iterate 9 (first
    | go_big_quiet_skip
    | (go_big_quiet_want
       go_big_quiet_op
       first
         | go_big_quiet_on
         | (apply Exists.intro
            refine ⟨fun u hu => ?_, ?_⟩
            · first
                | with_reducible rfl
                | (go_at_call 200; refine (CA.out u).mono ?_; rintro e wx ⟨rfl, bx⟩; exact ⟨rfl, hu.trans (bx.mono hu.size)⟩)
                | (obtain ⟨ck, cf, cq⟩ := HK.out u hu; go_simp; first | done | with_reducible rfl)
            go_big_quiet_on)))
  refine wpQuiet_nil ?_
  intro w4 hb4
  obtain ⟨ck, cf, cq⟩ := HK.out w4 hb4
  have hp4 := HP.out.below hb4 HP.out.lt
  have hr4 := HR.out.below hb4 HR.out.lt
  have hq4 := HQ.out.below hb4 HQ.out.lt
  have hg4 := gb_belowP HG.out (hb4.mono HG.out.size)
  clear HP HR HQ HG HK CA hb4
  go_upto_region 4 with fail
  have hp5 := hp4.set_ k (.int .i64 z)
  have hr5 := hr4.grown (gb_set (gb_refl w4 (some p)) k (.int .i64 z)) (by intro e; injection e; omega)
  have hq5 := hq4.grown (gb_set (gb_refl w4 (some p)) k (.int .i64 z)) (by intro e; injection e; omega)
  have hg5 := gb_set hg4 k (.int .i64 z)
  clear hp4 hr4 hq4 hg4 ck cf cq
  generalize World.setCell _ _ _ = w5 at hp5 hr5 hq5 hg5 ⊢
  have qc : ∀ i, w5.cell? ⟨w2.heap.size, i, none⟩ = (cA x1 x2)[i]? := hq5.cell
  have rc : ∀ i, w5.cell? ⟨w.heap.size, i, none⟩ = zC[i]? := hr5.cell
  have rf : ∀ i, w5.frozen? ⟨w.heap.size, i, none⟩ = false := hr5.frozen
  go_wp2_with fail
  have hr6 := (hr5.set_ 0 (.int .i64 x1)).set_ 1 (.int .i64 x2)
  have hg56 := gb_set (gb_set (gb_refl w5 (some w.heap.size)) 0 (.int .i64 x1)) 1 (.int .i64 x2)
  have hp6 := hp5.grown hg56 (by intro e; injection e; omega)
  have hg6 : w.grownBy _ (some p) := gb_newP (gb_newP hg5 (Nat.le_refl _) 0 (.int .i64 x1)) (Nat.le_refl _) 1 (.int .i64 x2)
  clear qc rc rf hr5 hq5 hp5 hg5 hg56
  generalize World.setCell _ _ _ = w6 at hr6 hp6 hg6 ⊢
  have rc : ∀ i, w6.cell? ⟨w.heap.size, i, none⟩ = (cA x1 x2)[i]? := hr6.cell
  exact bodyPost_ret (v := .agg (cA x1 x2)) (by simp [results, Tryz.results161, go_sem, rc]) rfl ⟨rfl, hg6, hp6⟩
end Go.Proofs.YtgaecedhkbneaaaGreatDoor.Mx

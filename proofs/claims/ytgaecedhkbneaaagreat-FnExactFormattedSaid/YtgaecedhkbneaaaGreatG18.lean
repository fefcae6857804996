import Derived.Test.YtgaecedhkbneaaaGreatG03
import Derived.Test.YtgaecedhkbneaaaGreatG04
import Derived.Test.YtgaecedhkbneaaaGreatG09
import Derived.Test.YtgaecedhkbneaaaGreatG05
import Derived.Deep.CutRange
import Derived.Test.YtgaecedhkbneaaaGreatG10
import Derived.Test.YtgaecedhkbneaaaGreatG02
namespace Go.Proofs.YtgaecedhkbneaaaGreat.Mx
open Go.ChangeShapes Go.WideShapes Go.ChangeAt Go.RowKit
set_option linter.unusedVariables false
theorem number_calls (m : Int) (w : World) : Calls Tryz.prog 101 #[.int .i64 m] w fun e w' => e = .returned (.int .i64 m) ∧ w = w' := by
  go_enter Tryz.func101, Tryz.ntmps101
  go_wp2_with fail
  go_ret
  exact ⟨rfl, rfl⟩
theorem inTime_yes (m : Int) (w : World) (h : isTm m) : Calls Tryz.prog 107 #[.int .i64 m] w fun e w' => e = .returned (.bool true) ∧ w = w' := by
  have C := Lib.hid (fun w => number_calls m w)
  have D := Lib.hid (fun w => isTime_yes m w h)
  clear h
  go_enter Tryz.func107, Tryz.ntmps107
  go_wp2_with fail
  refine (C.out _).mono ?_; rintro e w' ⟨rfl, rfl⟩
  go_wp2_with fail
  refine (D.out _).mono ?_; rintro e w' ⟨rfl, rfl⟩
  go_wp2_with fail
  go_ret
  exact ⟨rfl, rfl⟩
theorem inTime_no (m : Int) (w : World) (h : ¬ isTm m) : Calls Tryz.prog 107 #[.int .i64 m] w fun e w' => e = .returned (.bool false) ∧ w = w' := by
  have C := Lib.hid (fun w => number_calls m w)
  have D := Lib.hid (fun w => isTime_no m w h)
  clear h
  go_enter Tryz.func107, Tryz.ntmps107
  go_wp2_with fail
  refine (C.out _).mono ?_; rintro e w' ⟨rfl, rfl⟩
  go_wp2_with fail
  refine (D.out _).mono ?_; rintro e w' ⟨rfl, rfl⟩
  go_wp2_with fail
  go_ret
  exact ⟨rfl, rfl⟩
theorem isRight_calls (t v : Int) (w : World) :
    Calls Tryz.prog 100 #[.agg (cA t v)] w fun e w' => e = .returned (.bool (decide (isCell t v))) ∧ Below w.heap.size w w' := by
  by_cases ht : isTm t
  · have D := Lib.hid (fun w => inTime_yes t w ht)
    by_cases hv : isVal v
    · have E := Lib.hid (fun w => isValue_yes v w hv)
      rw [decide_eq_true (show isCell t v from ⟨ht, hv⟩)]
      clear ht hv
      go_enter Tryz.func100, Tryz.ntmps100
      go_wp2_with fail
      refine (D.out _).mono ?_; rintro e w' ⟨rfl, rfl⟩
      go_wp2_with fail
      refine (E.out _).mono ?_; rintro e w' ⟨rfl, rfl⟩
      go_wp2_with fail
      go_ret
      exact ⟨rfl, (Below.refl _ _).alloc (Nat.le_refl _) _⟩
    · have E := Lib.hid (fun w => isValue_no v w hv)
      rw [decide_eq_false (show ¬ isCell t v from fun h => hv h.2)]
      clear ht hv
      go_enter Tryz.func100, Tryz.ntmps100
      go_wp2_with fail
      refine (D.out _).mono ?_; rintro e w' ⟨rfl, rfl⟩
      go_wp2_with fail
      refine (E.out _).mono ?_; rintro e w' ⟨rfl, rfl⟩
      go_wp2_with fail
      go_ret
      exact ⟨rfl, (Below.refl _ _).alloc (Nat.le_refl _) _⟩
  · have D := Lib.hid (fun w => inTime_no t w ht)
    rw [decide_eq_false (show ¬ isCell t v from fun h => ht h.1)]
    clear ht
    go_enter Tryz.func100, Tryz.ntmps100
    go_wp2_with fail
    refine (D.out _).mono ?_; rintro e w' ⟨rfl, rfl⟩
    go_wp2_with fail
    go_ret
    exact ⟨rfl, (Below.refl _ _).alloc (Nat.le_refl _) _⟩
theorem way_no (key a t v : Int) (f : Value) (w : World) (h : ¬ (isAt a ∧ isCell t v)) :
    Calls Tryz.prog 91 #[.agg (cA t v), f, .int .i64 key, .int .i64 a] w fun e w' => e = .returned (.int .i64 (-1)) ∧ Below w.heap.size w w' := by
  by_cases ha : isAt a
  · have C := Lib.hid (fun w => isPlace_yes a w ha)
    have D := Lib.hid (fun w => isRight_calls t v w)
    rw [decide_eq_false (show ¬ isCell t v from fun h' => h ⟨ha, h'⟩)] at D
    clear ha h
    go_enter Tryz.func91, Tryz.ntmps91
    go_wp2_with fail
    refine (C.out _).mono ?_; rintro e w' ⟨rfl, rfl⟩
    go_wp2_with fail
    refine (D.out _).mono ?_; rintro e w2 ⟨rfl, b2⟩
    have B2 := Lib.hid (((Below.refl w.heap.size w).alloc (Nat.le_refl _) _).trans (b2.mono (by simp)))
    clear b2
    go_wp2_with fail
    go_ret
    exact ⟨rfl, B2.out⟩
  · have C := Lib.hid (fun w => isPlace_no a w ha)
    clear ha h
    go_enter Tryz.func91, Tryz.ntmps91
    go_wp2_with fail
    refine (C.out _).mono ?_; rintro e w' ⟨rfl, rfl⟩
    go_wp2_with fail
    go_ret
    exact ⟨rfl, (Below.refl _ _).alloc (Nat.le_refl _) _⟩
set_option maxRecDepth 20000 in
theorem way_yesH (key a t v z : Int) (w : World) (ha : isAt a) (hc : isCell t v)
    (H : ∀ w, Calls Tryz.prog 92 #[.int .i64 key, .int .i64 a, .int .i64 t, .int .i64 v] w fun e w' => e = .returned (.int .i64 z) ∧ Below w.heap.size w w') :
    Calls Tryz.prog 91 #[.agg (cA t v), .func (.func 92) #[] #[], .int .i64 key, .int .i64 a] w fun e w' => e = .returned (.int .i64 z) ∧ Below w.heap.size w w' := by
  have C := Lib.hid (fun w => isPlace_yes a w ha)
  have D := Lib.hid (fun w => isRight_calls t v w)
  rw [decide_eq_true hc] at D
  have N := Lib.hid (fun w => number_calls t w)
  have K := Lib.hid ((Kept.refl w).new 113 (cA t v))
  have G := Lib.hid H
  clear ha hc H
  go_enter Tryz.func91, Tryz.ntmps91
  go_wp2_with fail
  refine (C.out _).mono ?_; rintro e w' ⟨rfl, rfl⟩
  go_wp2_with fail
  refine (D.out _).mono ?_; rintro e w1 ⟨rfl, b1⟩
  have k1 := K.out.below b1
  clear b1
  go_wp2_with fail
  have P1 : ∀ u, Kept w [(w.heap.size, 113, (cA t v))] u → Calls Tryz.prog 92 #[.int .i64 key, .int .i64 a, .int .i64 t, .int .i64 v] u fun e w' => e = .returned (.int .i64 z) ∧ Kept w [(w.heap.size, 113, (cA t v))] w' :=
    fun u hu => (G.out u).mono fun e w' h => ⟨h.1, hu.below h.2⟩
  have P2 : ∀ u, Kept w [(w.heap.size, 113, (cA t v))] u → Calls Tryz.prog 101 #[.int .i64 t] u fun e w' => e = .returned (.int .i64 t) ∧ Kept w [(w.heap.size, 113, (cA t v))] w' :=
    fun u hu => class_same hu (N.out u)
  have PP1 := Lib.hid P1
  have PP2 := Lib.hid P2
  clear P1 P2
  refine wp_region_class (C := fun u => Kept w [(w.heap.size, 113, (cA t v))] u) (by kernel_rfl) (by kernel_rfl) k1.drew ?_
  clear k1
  iterate 10
    (first
      | go_big_quiet_skip
      | (go_big_quiet_want
         go_big_quiet_op
         first
           | go_big_quiet_on
           | (apply Exists.intro
              refine ⟨fun u hu => ?_, ?_⟩
              · first
                  | with_reducible rfl
                  | (go_at_call 101; exact PP2.out u hu)
                  | (go_at_call 92; exact PP1.out u hu)
                  | (have c0 := hu.cell (List.mem_cons_self ..) 0; have c1 := hu.cell (List.mem_cons_self ..) 1; simp only [List.getElem?_toArray, List.getElem?_cons_zero, List.getElem?_cons_succ] at c0 c1; go_simp; first | done | with_reducible rfl)
              go_big_quiet_on)))
  refine wpQuiet_nil ?_; intro wz hz
  go_wp2_with fail
  go_ret
  exact ⟨rfl, hz.1⟩
theorem hiddenOf_nokey {key a t v : Int} (hk : ¬ isKey key) : hiddenOf key a t v = -1 := by
  have h : streamOf key a t = -1 := by
    unfold streamOf
    rw [if_pos (by rw [mixOf_key (by unfold isKey at hk; omega)]; omega)]
  unfold hiddenOf; rw [h]; exact turnOf_neg (by omega)
theorem ansCellOf : AnsCellOf := by
  intro key a t v w _ ha ht _
  have k0 := ((Kept.refl w).new 68 zC).new 113 (cA t v)
  rw [show (w.alloc (.cells zC 68)).heap.size = w.heap.size + 1 by simp] at k0
  have K0 := Lib.hid k0
  clear k0
  by_cases h : isKey key ∧ isTri a t v
  · rw [cellOf_yes h.1 h.2]
    have hz : ¬ hiddenOf key a t v < 0 := hidden_nat h.1.1 h.1.2 (by have := h.2.1.1; omega) (by have := h.2.2.1.1; omega) h.2.2.2
    have D := Lib.hid (fun w => way_yesH key a t v _ w h.2.1 h.2.2 (fun w => hidden_calls key a t v w ha ht))
    generalize hiddenOf key a t v = z at D hz
    clear h ha ht
    go_enter Tryz.func84, Tryz.ntmps84
    go_wp2_with fail
    refine (D.out _).mono ?_; rintro e w1 ⟨rfl, b1⟩
    have k1 := K0.out.below b1
    have r0 := k1.cell (List.mem_cons_of_mem _ (List.mem_cons_self ..)) 0
    have r1 := k1.cell (List.mem_cons_of_mem _ (List.mem_cons_self ..)) 1
    have f0 := k1.frozen (List.mem_cons_of_mem _ (List.mem_cons_self ..)) 0
    have f1 := k1.frozen (List.mem_cons_of_mem _ (List.mem_cons_self ..)) 1
    simp only [List.getElem?_toArray, List.getElem?_cons_zero, List.getElem?_cons_succ] at r0 r1
    have K1 := Lib.hid k1.tail
    clear b1 k1
    go_wp2_with fail
    obtain ⟨w9, e9, ⟨d0, d1⟩, hb⟩ := cell_end (x := .int .i64 t) (y := .int .i64 z) (K1.out.at_ (List.mem_cons_self ..)) K1.out.1 (Nat.le_refl _)
    rw [e9]
    exact bodyPost_ret (v := .agg (cA t z)) (by simp [results, Tryz.results84, go_sem, d0, d1]) rfl ⟨rfl, hb⟩
  · rw [cellOf_no h]
    have D : ∃ z, z < 0 ∧ ∀ w, Calls Tryz.prog 91 #[.agg (cA t v), .func (.func 92) #[] #[], .int .i64 key, .int .i64 a] w fun e w' => e = .returned (.int .i64 z) ∧ Below w.heap.size w w' := by
      by_cases h2 : isAt a ∧ isCell t v
      · refine ⟨-1, by omega, fun w => ?_⟩
        have e : hiddenOf key a t v = -1 := hiddenOf_nokey (fun hk => h ⟨hk, h2.1, h2.2.1, h2.2.2⟩)
        rw [← e]
        exact way_yesH key a t v _ w h2.1 h2.2 (fun w => hidden_calls key a t v w ha ht)
      · exact ⟨-1, by omega, fun w => way_no key a t v _ w h2⟩
    obtain ⟨z, hz, D⟩ := D
    have DD := Lib.hid D
    clear h ha ht D
    go_enter Tryz.func84, Tryz.ntmps84
    go_wp2_with fail
    refine (DD.out _).mono ?_; rintro e w1 ⟨rfl, b1⟩
    have k1 := K0.out.below b1
    have r0 := k1.cell (List.mem_cons_of_mem _ (List.mem_cons_self ..)) 0
    have r1 := k1.cell (List.mem_cons_of_mem _ (List.mem_cons_self ..)) 1
    have f0 := k1.frozen (List.mem_cons_of_mem _ (List.mem_cons_self ..)) 0
    have f1 := k1.frozen (List.mem_cons_of_mem _ (List.mem_cons_self ..)) 1
    simp only [List.getElem?_toArray, List.getElem?_cons_zero, List.getElem?_cons_succ] at r0 r1
    have K1 := Lib.hid k1.tail
    clear b1 k1
    go_wp2_with fail
    obtain ⟨w9, e9, ⟨d0, d1⟩, hb⟩ := cell_end (x := .int .i64 0) (y := .int .i64 0) (K1.out.at_ (List.mem_cons_self ..)) K1.out.1 (Nat.le_refl _)
    rw [e9]
    exact bodyPost_ret (v := .agg zC) (by simp [results, Tryz.results84, go_sem, d0, d1]) rfl ⟨rfl, hb⟩
theorem ansTripleIn : AnsTripleIn := by
  intro a t v w _ _ _
  have k0 := ((((Kept.refl w).new 68 (cA t v)).new 71 #[.int .i64 0, .int .i64 0, .int .i64 0]).new 71 #[.int .i64 a, .int .i64 t, .int .i64 v])
  rw [show ((w.alloc (.cells (cA t v) 68)).alloc (.cells #[.int .i64 0, .int .i64 0, .int .i64 0] 71)).heap.size = w.heap.size + 1 + 1 by simp, show (w.alloc (.cells (cA t v) 68)).heap.size = w.heap.size + 1 by simp] at k0
  have K0 := Lib.hid k0
  clear k0
  have D := Lib.hid (fun w => tripleOk_calls a t v w)
  by_cases h : isTri a t v
  · rw [tripleIn_yes h]
    rw [decide_eq_true h] at D
    clear h
    go_enter Tryz.func95, Tryz.ntmps95
    go_wp2_with fail
    refine (D.out _).mono ?_; rintro e w1 ⟨rfl, b1⟩
    have k1 := K0.out.below b1
    obtain ⟨e0, e1, e2⟩ := k1.three
    obtain ⟨r0, r1, r2⟩ := k1.tail.three
    have f0 := k1.tail.frozen (List.mem_cons_self ..) 0
    have f1 := k1.tail.frozen (List.mem_cons_self ..) 1
    have f2 := k1.tail.frozen (List.mem_cons_self ..) 2
    have K1 := Lib.hid k1
    clear b1 k1
    go_wp2_with fail
    obtain ⟨w9, e9, ⟨d0, d1, d2⟩, hb⟩ := triple_end (x := .int .i64 a) (y := .int .i64 t) (z := .int .i64 v) (K1.out.tail.at_ (List.mem_cons_self ..)) K1.out.1 (Nat.le_succ _)
    rw [e9]
    exact bodyPost_ret (v := .agg #[.int .i64 a, .int .i64 t, .int .i64 v]) (by simp [results, Tryz.results95, go_sem, d0, d1, d2]) rfl ⟨rfl, hb⟩
  · rw [tripleIn_no h]
    rw [decide_eq_false h] at D
    clear h
    go_enter Tryz.func95, Tryz.ntmps95
    go_wp2_with fail
    refine (D.out _).mono ?_; rintro e w1 ⟨rfl, b1⟩
    have k1 := K0.out.below b1
    obtain ⟨r0, r1, r2⟩ := k1.tail.three
    have f0 := k1.tail.frozen (List.mem_cons_self ..) 0
    have f1 := k1.tail.frozen (List.mem_cons_self ..) 1
    have f2 := k1.tail.frozen (List.mem_cons_self ..) 2
    have K1 := Lib.hid k1
    clear b1 k1
    go_wp2_with fail
    obtain ⟨w9, e9, ⟨d0, d1, d2⟩, hb⟩ := triple_end (x := .int .i64 0) (y := .int .i64 0) (z := .int .i64 0) (K1.out.tail.at_ (List.mem_cons_self ..)) K1.out.1 (Nat.le_succ _)
    rw [e9]
    exact bodyPost_ret (v := .agg #[.int .i64 0, .int .i64 0, .int .i64 0]) (by simp [results, Tryz.results95, go_sem, d0, d1, d2]) rfl ⟨rfl, hb⟩
theorem cellOf_i64 {key a t v : Int} (hk : I64 key) (ht : I64 t) : I64 (cellOf key a t v).1 ∧ I64 (cellOf key a t v).2 := by
  by_cases h : isKey key ∧ isTri a t v
  · rw [cellOf_yes h.1 h.2]
    refine ⟨h.2.i64.2.1, ?_⟩
    have hs := streamOf_nat h.1.1 h.1.2 h.2.1.1 h.2.2.1.1
    simp only []
    unfold hiddenOf
    rw [turnOf_yes hs h.2.2.2]
    unfold I64; omega
  · rw [cellOf_no h]; exact ⟨⟨by decide, by decide⟩, ⟨by decide, by decide⟩⟩
theorem triI64 (a t v : Int) : I64 (tripleIn a t v).1 ∧ I64 (tripleIn a t v).2.1 ∧ I64 (tripleIn a t v).2.2 := by
  by_cases h : isTri a t v
  · rw [tripleIn_yes h]; exact h.i64
  · rw [tripleIn_no h]; exact ⟨⟨by decide, by decide⟩, ⟨by decide, by decide⟩, ⟨by decide, by decide⟩⟩
theorem allocP (w : World) (o : Obj) : Below w.heap.size w (w.alloc o) := (Below.refl _ _).alloc (Nat.le_refl _) _
theorem gb_newP {w w' : World} {g b : Nat} (h : w.grownBy w' (some g)) (hb : w.heap.size ≤ b) (i : Nat) (u : Value) : w.grownBy (w'.setCell ⟨b, i, none⟩ u) (some g) :=
  ⟨h.os, h.tape, h.output, by simpa [World.setCell] using h.size, fun k hk hr => (Below.heap_setCell _ _ _ _ (by simp; omega)).trans (h.block k hk hr)⟩
theorem gb_belowP {a b c : World} {g : Nat} (h : a.grownBy b (some g)) (hb : Below a.heap.size b c) : a.grownBy c (some g) :=
  ⟨hb.os.trans h.os, hb.tape.trans h.tape, hb.output.trans h.output, Nat.le_trans h.size hb.size, fun k hk hr => (hb.block k hk).trans (h.block k hk hr)⟩
noncomputable def tagIn (key a x1 x2 : Int) : Int := tagOf key (tripleIn a x1 x2).1 (tripleIn a x1 x2).2.1 (tripleIn a x1 x2).2.2
set_option maxRecDepth 20000 in
set_option maxHeartbeats 4000000 in
theorem added_calls (s key a x1 x2 : Int) (w : World) (ha : I64 a) (h1 : I64 x1) (h2 : I64 x2) :
    Calls Tryz.prog 85 #[.int .i64 s, .int .i64 key, .int .i64 a, .agg (cA x1 x2)] w fun e w' => e = .returned (.int .i64 (addOf s (tagIn key a x1 x2))) ∧ Below w.heap.size w w' := by
  unfold tagIn
  have CT := Lib.hid (fun u => ansTripleIn a x1 x2 u ha h1 h2)
  have h3 := triI64 a x1 x2
  generalize (tripleIn a x1 x2).1 = y1 at CT h3 ⊢
  generalize (tripleIn a x1 x2).2.1 = y2 at CT h3 ⊢
  generalize (tripleIn a x1 x2).2.2 = y3 at CT h3 ⊢
  have CG := Lib.hid (fun u => tag_calls key y1 y2 y3 u h3.1 h3.2.1 h3.2.2)
  generalize tagOf key y1 y2 y3 = g at CG ⊢
  have CA := Lib.hid (fun u => add_calls s g u)
  generalize addOf s g = z at CA ⊢
  have K0 := Lib.hid (show Kept w [(w.heap.size, 68, (cA x1 x2))] _ from (Kept.refl w).put1 _ _ (cA x1 x2) rfl)
  clear h3 ha h1 h2
  go_enter Tryz.func85, Tryz.ntmps85
  go_upto_region 1 with fail
  have hk0 := K0.out
  clear K0
  generalize World.alloc _ _ = w0 at hk0 ⊢
  obtain ⟨kc0, kf0, -⟩ := hk0.rd
  go_wp2_with fail
  refine (CT.out _).mono ?_; rintro e w2 ⟨rfl, b2⟩
  have hk2 := hk0.below b2
  clear hk0 b2 kc0 kf0 CT
  go_wp2_with fail
  refine (CG.out _).mono ?_; rintro e w3 ⟨rfl, b3⟩
  have hk3 := hk2.below b3
  clear hk2 b3 CG
  go_wp2_with fail
  refine (CA.out _).mono ?_; rintro e w4 ⟨rfl, rfl⟩
  go_wp2_with fail
  go_ret
  exact ⟨rfl, hk3.1⟩
set_option maxRecDepth 20000 in
set_option maxHeartbeats 4000000 in
theorem put_calls (key a c s v : Int) (p k : Nat) (cs : Array Value) (w : World) (hkey : I64 key) (ha : I64 a) (hc0 : 0 ≤ c) (hc1 : c ≤ 1000000) (hv : I64 v) (hp : CellsAt w p 43 cs) (e0 : cs[0]? = some (.int .i64 c)) (ek : cs[k]? = some (.int .i64 s)) (k0 : 0 < k) :
    Calls Tryz.prog 74 #[.pointer (some ⟨p, 0, none⟩), .pointer (some ⟨p, k, none⟩), .int .i64 key, .int .i64 a, .int .i64 v] w fun e w' =>
      e = .returned (.agg (cA ((cellOf key a (c + 1) v).1) ((cellOf key a (c + 1) v).2))) ∧ w.grownBy w' (some p) ∧
      CellsAt w' p 43 ((cs.setIfInBounds 0 (.int .i64 (c + 1))).setIfInBounds k (.int .i64 (addOf s (tagIn key a (cellOf key a (c + 1) v).1 (cellOf key a (c + 1) v).2)))) := by
  have hi := cellOf_i64 (a := a) (t := c + 1) (v := v) hkey ⟨by omega, by omega⟩
  have CC := Lib.hid (fun u => ansCellOf key a (c + 1) v u hkey ha ⟨by omega, by omega⟩ hv)
  generalize (cellOf key a (c + 1) v).1 = x1 at CC hi ⊢
  generalize (cellOf key a (c + 1) v).2 = x2 at CC hi ⊢
  have CA := Lib.hid (fun u => added_calls s key a x1 x2 u ha hi.1 hi.2)
  generalize addOf s (tagIn key a x1 x2) = z at CA ⊢
  have hwc : IntKind.i64.wrap (c + 1) = c + 1 := IntWalk.i64_in _ (by omega)
  have lp := hp.lt
  have P0 := Lib.hid (show CellsAt (w.alloc (.cells zC 68)) p 43 cs from hp.below (allocP w _) lp)
  have G0 := Lib.hid (show w.grownBy (w.alloc (.cells zC 68)) (some p) from gb_alloc (gb_refl w (some p)) _)
  have R0 := Lib.hid (show CellsAt (w.alloc (.cells zC 68)) w.heap.size 68 zC from CellsAt.new w _ _)
  have E0 := Lib.hid e0
  have EK := Lib.hid ek
  have hne : ¬ p = w.heap.size := by omega
  have hne' : ¬ w.heap.size = p := by omega
  clear hp hi ha hkey hv e0 ek
  go_enter Tryz.func74, Tryz.ntmps74
  go_upto_region 1 with fail
  have hp0 := P0.out
  have hg0 := G0.out
  have hr0 := R0.out
  clear P0 G0 R0
  generalize World.alloc _ _ = w0 at hp0 hg0 hr0 ⊢
  have c0 : w0.cell? ⟨p, 0, none⟩ = some (.int .i64 c) := (hp0.cell 0).trans E0.out
  have f0 : ∀ i, w0.frozen? ⟨p, i, none⟩ = false := hp0.frozen
  go_upto_region 2 with fail
  have hp1 := hp0.set_ 0 (.int .i64 (c + 1))
  have hg1 := gb_set hg0 0 (.int .i64 (c + 1))
  have hr1 := hr0.grown (gb_set (gb_refl w0 (some p)) 0 (.int .i64 (c + 1))) (by intro e; injection e; omega)
  clear hp0 hg0 hr0 c0 f0
  generalize World.setCell _ _ _ = w1 at hp1 hg1 hr1 ⊢
  have hsz : cs.size ≠ 0 := by intro h; have := E0.out; rw [Array.getElem?_eq_none (by omega)] at this; cases this
  have c1 : w1.cell? ⟨p, 0, none⟩ = some (.int .i64 (c + 1)) := by rw [hp1.cell 0, Array.getElem?_setIfInBounds_self_of_lt (by omega)]
  go_wp2_with fail
  refine (CC.out _).mono ?_; rintro e w2 ⟨rfl, b2⟩
  have hp2 := hp1.below b2 hp1.lt
  have hr2 := hr1.below b2 hr1.lt
  have hg2 := gb_belowP hg1 (b2.mono hg1.size)
  have l2 : w.heap.size < w2.heap.size := hr2.lt
  clear hp1 hr1 hg1 b2 c1 CC
  have hp3 := hp2.below (allocP w2 (.cells (cA x1 x2) 68)) hp2.lt
  have hr3 := hr2.below (allocP w2 (.cells (cA x1 x2) 68)) hr2.lt
  have hg3 := gb_alloc hg2 (.cells (cA x1 x2) 68)
  have hq3 := CellsAt.new w2 68 (cA x1 x2)
  have hne2 : ¬ p = w2.heap.size := by omega
  have hne2' : ¬ w2.heap.size = p := by omega
  clear hp2 hr2 hg2
  go_upto_region 3 with fail
  generalize hw3 : World.alloc _ _ = w3 at hp3 hr3 hg3 hq3 ⊢
  clear hw3
  have CK : ∀ u, Below w3.heap.size w3 u → u.cell? ⟨p, k, none⟩ = some (.int .i64 s) ∧ (∀ i, u.frozen? ⟨p, i, none⟩ = false) ∧ (∀ i, u.cell? ⟨w2.heap.size, i, none⟩ = (cA x1 x2)[i]?) := fun u hu =>
    ⟨((hp3.below hu hp3.lt).cell k).trans (by rw [Array.getElem?_setIfInBounds_ne (by omega)]; exact EK.out), (hp3.below hu hp3.lt).frozen, (hq3.below hu hq3.lt).cell⟩
  have HK := Lib.hid CK
  have HP := Lib.hid hp3
  have HR := Lib.hid hr3
  have HG := Lib.hid hg3
  have HQ := Lib.hid hq3
  clear CK hp3 hr3 hg3 hq3 hsz
  refine wp_region_class_tail (C := fun u => Below w3.heap.size w3 u) 9 (by kernel_rfl) (by kernel_rfl) (Below.refl _ _).drew ?_
  simp only [List.take_succ_cons, List.take_zero, List.drop_succ_cons, List.drop_zero]
  iterate 9 (first
    | go_big_quiet_skip
    | (go_big_quiet_want
       go_big_quiet_op
       first
         | go_big_quiet_on
         | (apply Exists.intro
            refine ⟨fun u hu => ?_, ?_⟩
            · first
                | with_reducible rfl
                | (go_at_call 85; refine (CA.out u).mono ?_; rintro e wx ⟨rfl, bx⟩; exact ⟨rfl, hu.trans (bx.mono hu.size)⟩)
                | (obtain ⟨ck, cf, cq⟩ := HK.out u hu; go_simp; first | done | with_reducible rfl)
            go_big_quiet_on)))
  refine wpQuiet_nil ?_
  intro w4 hb4
  obtain ⟨ck, cf, cq⟩ := HK.out w4 hb4
  have hp4 := HP.out.below hb4 HP.out.lt
  have hr4 := HR.out.below hb4 HR.out.lt
  have hq4 := HQ.out.below hb4 HQ.out.lt
  have hg4 := gb_belowP HG.out (hb4.mono HG.out.size)
  clear HP HR HQ HG HK CA hb4
  go_upto_region 4 with fail
  have hp5 := hp4.set_ k (.int .i64 z)
  have hr5 := hr4.grown (gb_set (gb_refl w4 (some p)) k (.int .i64 z)) (by intro e; injection e; omega)
  have hq5 := hq4.grown (gb_set (gb_refl w4 (some p)) k (.int .i64 z)) (by intro e; injection e; omega)
  have hg5 := gb_set hg4 k (.int .i64 z)
  clear hp4 hr4 hq4 hg4 ck cf cq
  generalize World.setCell _ _ _ = w5 at hp5 hr5 hq5 hg5 ⊢
  have qc : ∀ i, w5.cell? ⟨w2.heap.size, i, none⟩ = (cA x1 x2)[i]? := hq5.cell
  have rc : ∀ i, w5.cell? ⟨w.heap.size, i, none⟩ = zC[i]? := hr5.cell
  have rf : ∀ i, w5.frozen? ⟨w.heap.size, i, none⟩ = false := hr5.frozen
  go_wp2_with fail
  have hr6 := (hr5.set_ 0 (.int .i64 x1)).set_ 1 (.int .i64 x2)
  have hg56 := gb_set (gb_set (gb_refl w5 (some w.heap.size)) 0 (.int .i64 x1)) 1 (.int .i64 x2)
  have hp6 := hp5.grown hg56 (by intro e; injection e; omega)
  have hg6 : w.grownBy _ (some p) := gb_newP (gb_newP hg5 (Nat.le_refl _) 0 (.int .i64 x1)) (Nat.le_refl _) 1 (.int .i64 x2)
  clear qc rc rf hr5 hq5 hp5 hg5 hg56
  generalize World.setCell _ _ _ = w6 at hr6 hp6 hg6 ⊢
  have rc : ∀ i, w6.cell? ⟨w.heap.size, i, none⟩ = (cA x1 x2)[i]? := hr6.cell
  exact bodyPost_ret (v := .agg (cA x1 x2)) (by simp [results, Tryz.results74, go_sem, rc]) rfl ⟨rfl, hg6, hp6⟩
theorem put_kept (key a c s : Int) (p q : Nat) (rs : Array Value) (b w : World) (hk : isKey key) (ha : isAt a) (hc0 : 0 ≤ c) (hc1 : c ≤ 1000) (hq : q ≠ p) (hz : Kept b [(q, 98, rs), (p, 43, (tA c 0 0 0 s 0 0 false))] w) :
    Calls Tryz.prog 74 #[.pointer (some ⟨p, 0, none⟩), .pointer (some ⟨p, 4, none⟩), .int .i64 key, .int .i64 a, .int .i64 0] w fun e w' =>
      e = .returned (.agg (cA ((cellOf key a (c + 1) 0).1) ((cellOf key a (c + 1) 0).2))) ∧
      Kept b [(q, 98, rs), (p, 43, (tA (c + 1) 0 0 0 (addOf s (tagIn key a (cellOf key a (c + 1) 0).1 (cellOf key a (c + 1) 0).2)) 0 0 false))] w' := by
  unfold isKey at hk
  unfold isAt at ha
  refine (put_calls key a c s 0 p 4 (tA c 0 0 0 s 0 0 false) w ⟨by omega, by omega⟩ ⟨by omega, by omega⟩ hc0 (by omega) ⟨by decide, by decide⟩ (hz.at_ (by simp)) rfl rfl (by decide)).mono ?_
  rintro e w' ⟨he, hg, hc⟩
  exact ⟨he, hz.put (k := 1) rfl (by unfold Apart; simp; omega) hg hc⟩
def roomArr (L : List Ce) : Array Value := (flatC L ++ List.replicate (16 - L.length * 2) (Value.int .i64 0)).toArray
theorem roomArr_new (key f : Int) : roomArr (cellsNew key f 0) = (#[.int .i64 0, .int .i64 0, .int .i64 0, .int .i64 0, .int .i64 0, .int .i64 0, .int .i64 0, .int .i64 0, .int .i64 0, .int .i64 0, .int .i64 0, .int .i64 0, .int .i64 0, .int .i64 0, .int .i64 0, .int .i64 0] : Array Value) := by unfold roomArr cellsNew; rw [List.range_zero, List.map_nil]; rfl
theorem roomArr_set (L : List Ce) (x y : Int) (h : L.length < 8) : ((roomArr L).setIfInBounds (L.length * 2) (.int .i64 x)).setIfInBounds (L.length * 2 + 1) (.int .i64 y) = roomArr (L ++ [(x, y)]) := by
  unfold roomArr
  obtain ⟨m, hm⟩ : ∃ m, 16 - L.length * 2 = m + 2 := ⟨14 - L.length * 2, by omega⟩
  have hm' : 16 - (L ++ [(x, y)]).length * 2 = m := by simp; omega
  rw [hm, hm', flatC_snoc]
  simp only [List.setIfInBounds_toArray]
  congr 1
  have hl := flatC_length L
  rw [List.set_append_right _ _ (by omega), List.set_append_right _ _ (by omega), hl, Nat.sub_self, show L.length * 2 + 1 - L.length * 2 = 1 by omega]
  simp [List.replicate_succ]
theorem roomArr_get (L : List Ce) (j : Nat) (h : j < L.length * 2) : (roomArr L)[j]? = (flatC L)[j]? := by
  unfold roomArr
  rw [List.getElem?_toArray, List.getElem?_append_left (by rw [flatC_length]; exact h)]
theorem sumNew_succ {key f : Int} (hk : isKey key) (n : Nat) : sumOf key (trisNew key f (n + 1)) = addOf (sumOf key (trisNew key f n)) (tagOf key (tripleIn (f + n) (cellOf key (f + n) (n + 1) 0).1 (cellOf key (f + n) (n + 1) 0).2).1 (tripleIn (f + n) (cellOf key (f + n) (n + 1) 0).1 (cellOf key (f + n) (n + 1) 0).2).2.1 (tripleIn (f + n) (cellOf key (f + n) (n + 1) 0).1 (cellOf key (f + n) (n + 1) 0).2).2.2) := by
  unfold sumOf
  rw [if_pos (show 1 ≤ key ∧ key ≤ 1000000 from hk), if_pos (show 1 ≤ key ∧ key ≤ 1000000 from hk), trisNew_succ, sumAll_snoc]
def LaidOutQ (key f : Int) (n : Nat) (b : World) (e : Ending) (w' : World) : Prop :=
  ∃ p q, q ≠ p ∧ e = .returned (.tuple #[.pointer (some ⟨p, 0, none⟩), .slice (some ⟨q, 0, none⟩) n 8]) ∧ Kept b [(q, 98, roomArr (cellsNew key f n)), (p, 43, (tA n 0 0 0 (sumOf key (trisNew key f n)) 0 0 false))] w'
set_option maxRecDepth 20000 in
set_option maxHeartbeats 4000000 in
theorem laidOut_calls (key f : Int) (n : Nat) (w : World) (hk : isKey key) (hf0 : 0 ≤ f) (hf1 : f + n ≤ 24) (hn0 : 0 < n) (hn1 : n ≤ 8) :
    Calls Tryz.prog 51 #[.int .i64 key, .int .i64 f, .int .i64 n] w (LaidOutQ key f n w) := by
  have HK := Lib.hid hk
  have K0 := Lib.hid (show Kept w [(w.heap.size + 1, 98, roomArr (cellsNew key f 0)), (w.heap.size, 43, zT)] _ from ((Kept.refl w).put1 _ _ zT rfl).put1 _ _ (roomArr (cellsNew key f 0)) (by simp))
  clear hk
  go_enter Tryz.func51, Tryz.ntmps51
  go_upto_region 3 with fail
  have hk0 := K0.out
  rw [roomArr_new] at hk0
  clear K0
  generalize World.alloc _ _ = w0 at hk0 ⊢
  have hle : (n : Int) ≤ 8 := by omega
  have hn00 : (0 : Int) ≤ n := by omega
  rw [← roomArr_new key f] at hk0
  have HK0 := Lib.hid hk0
  clear hk0
  go_wp2_with fail
  go_loopw [17] (fun i u => ∃ k : Nat, k ≤ n ∧ i = .int .i64 k ∧ Kept w [(w.heap.size + 1, 98, roomArr (cellsNew key f k)), (w.heap.size, 43, (tA k 0 0 0 (sumOf key (trisNew key f k)) 0 0 false))] u) (fun i _ => n - (intOf i).toNat)
  case atStart => exact ⟨0, by omega, rfl, by have h := HK0.out; rw [show sumOf key (trisNew key f 0) = 0 by unfold sumOf; rw [if_pos (show 1 ≤ key ∧ key ≤ 1000000 from HK.out)]; rfl]; exact h⟩
  case round =>
    obtain ⟨k, hk, rfl, hkp⟩ := hrel
    have KP := Lib.hid hkp
    clear hkp
    by_cases hlt : k < n
    · have hlt' : (k : Int) < n := by omega
      have hfk : IntKind.i64.wrap (f + k) = f + k := IntWalk.i64_in _ (by omega)
      have PU := Lib.hid (fun u (h : Kept w [(w.heap.size + 1, 98, roomArr (cellsNew key f k)), (w.heap.size, 43, (tA k 0 0 0 (sumOf key (trisNew key f k)) 0 0 false))] u) => put_kept key (f + k) k (sumOf key (trisNew key f k)) w.heap.size (w.heap.size + 1) (roomArr (cellsNew key f k)) w u HK.out ⟨by omega, by omega⟩ (by omega) (by omega) (by omega) h)
      have SN := Lib.hid (sumNew_succ (f := f) HK.out k)
      have CN := Lib.hid (cellsNew_succ key f k)
      have hl := cellsNew_length key f k
      have RS := Lib.hid (roomArr_set (cellsNew key f k) (cellOf key (f + k) (k + 1) 0).1 (cellOf key (f + k) (k + 1) 0).2 (by rw [hl]; omega))
      rw [hl] at RS
      clear hl
      rw [← CN.out] at RS
      have SN' := SN.out
      rw [show tagOf key (tripleIn (f + k) (cellOf key (f + k) (k + 1) 0).1 (cellOf key (f + k) (k + 1) 0).2).1 (tripleIn (f + k) (cellOf key (f + k) (k + 1) 0).1 (cellOf key (f + k) (k + 1) 0).2).2.1 (tripleIn (f + k) (cellOf key (f + k) (k + 1) 0).1 (cellOf key (f + k) (k + 1) 0).2).2.2 = tagIn key (f + k) (cellOf key (f + k) (k + 1) 0).1 (cellOf key (f + k) (k + 1) 0).2 from rfl] at SN'
      rw [← SN'] at PU
      clear SN'
      generalize (cellOf key (f + k) (k + 1) 0).1 = x1 at PU RS
      generalize (cellOf key (f + k) (k + 1) 0).2 = x2 at PU RS
      clear SN CN
      go_wp2_with fail
      refine (PU.out _ KP.out).mono ?_; rintro e w2 ⟨rfl, hk2⟩
      have HK2 := Lib.hid hk2
      have hcz := hk2.at_ (p := w.heap.size + 1) (t := 98) (cs := roomArr (cellsNew key f k)) (by simp)
      have hpr : ∀ j, j < 16 → ∃ z, w2.cell? ⟨w.heap.size + 1, j, none⟩ = some z := by
        intro j hj
        rw [hcz.cell j]
        have hsz : (roomArr (cellsNew key f k)).size = 16 := by unfold roomArr; simp [flatC_length, cellsNew_length]; omega
        exact ⟨_, Array.getElem?_eq_getElem (by omega)⟩
      obtain ⟨z0, e0⟩ := hpr (k * 2) (by omega)
      obtain ⟨z1, e1⟩ := hpr (k * 2 + 1) (by omega)
      have f0 : ∀ j, w2.frozen? ⟨w.heap.size + 1, j, none⟩ = false := hcz.frozen
      clear hk2 hcz hpr
      go_wp2_with fail
      go_roundw
      case rel =>
        have h := HK2.out.put (k := 0) rfl (by unfold Apart; simp) (gb_set (gb_set (gb_refl _ (some (w.heap.size + 1))) (k * 2) (.int .i64 x1)) (k * 2 + 1) (.int .i64 x2)) (((HK2.out.at_ (p := w.heap.size + 1) (t := 98) (cs := roomArr (cellsNew key f k)) (by simp)).set_ (k * 2) (.int .i64 x1)).set_ (k * 2 + 1) (.int .i64 x2))
        rw [RS.out] at h
        exact ⟨k + 1, by omega, by go_num, h⟩
      case measure => simp [intOf]; omega
    · obtain rfl : n = k := by omega
      go_wp2_with fail
      go_ret2
      exact ⟨w.heap.size, w.heap.size + 1, by omega, rfl, KP.out⟩
theorem cellsAt_news {u : World} {q : Nat} {t : TypeId} {L : List Ce} (h : CellsAt u q t (roomArr L)) : ∀ j v, (flatC L)[j]? = some v → u.cell? (Addr.add ⟨q, 0, none⟩ j) = some v := by
  intro j v hj
  have hl : j < L.length * 2 := by rw [← flatC_length]; exact (List.getElem?_eq_some_iff.1 hj).1
  have h1 := h.cell j
  rw [roomArr_get L j hl, hj] at h1
  rw [show Addr.add ⟨q, 0, none⟩ j = ⟨q, j, none⟩ by unfold Addr.add; split <;> simp_all]
  exact h1
theorem flatC_one (L : List Ce) : ∀ u ∈ flatC L, u.oneCell' = true := by
  intro u hu
  unfold flatC at hu
  obtain ⟨c, _, hc⟩ := List.mem_flatMap.1 hu
  simp at hc
  rcases hc with rfl | rfl <;> rfl
set_option maxRecDepth 20000 in
set_option maxHeartbeats 4000000 in
theorem copied_calls (q n : Nat) (L : List Ce) (w : World) (hn : n = L.length) (h0 : 0 < n) (h8 : n ≤ 8) (hq : CellsAt w q 98 (roomArr L)) :
    Calls Tryz.prog 52 #[.slice (some ⟨q, 0, none⟩) n 8] w fun e w' => ∃ v, e = .returned v ∧ CRow w' w.heap.size v L ∧ Below w.heap.size w w' := by
  have hmk := fun u => make_ce n (by omega) u
  have hw0 : CellsAt (w.alloc (.cells (madeCells (Value.agg zC).cells (n * 2)) 68)) w.heap.size 68 (madeCells (Value.agg zC).cells (n * 2)) := CellsAt.new w _ _
  have hb0 := box_below w (.cells (madeCells (Value.agg zC).cells (n * 2)) 68)
  have hsz : (madeCells (Value.agg zC).cells (n * 2)).size = n * 2 := size_madeCells _ _
  have H0 := Lib.hid (show CellsAt _ q 98 (roomArr L) from hq.below hb0 hq.lt)
  have lq := hq.lt
  have W0 := Lib.hid hw0
  have B0 := Lib.hid hb0
  have SZ := Lib.hid hsz
  have HN := Lib.hid hn
  clear hq hw0 hb0 hsz hn
  have hn00 : (0 : Int) ≤ n := by omega
  have hle : (n : Int) ≤ 8 := by omega
  generalize madeCells (Value.agg zC).cells (n * 2) = mc at hmk W0 B0 SZ H0
  go_enter Tryz.func52, Tryz.ntmps52
  go_upto_region 2 with fail
  have hw0 := W0.out
  have hb0 := B0.out
  have h0q := H0.out
  clear hmk W0 B0 H0
  generalize World.alloc _ _ = w1 at hw0 hb0 h0q ⊢
  have HS := Lib.hid (cellsAt_news h0q)
  have HL := Lib.hid (show (flatC L).length = Nat.min n n * 2 by rw [flatC_length, ← HN.out, show Nat.min n n = n from Nat.min_self n])
  have HF := Lib.hid (show 0 + (flatC L).length ≤ mc.size by rw [flatC_length, ← HN.out, SZ.out]; omega)
  have hrun := run_copy_rowS (P := Tryz.prog) w1 28 28 3 68 w.heap.size 0 n n ⟨q, 0, none⟩ n 8 mc 68 (flatC L) 2 Tryz.underlying28 (by rw [info_parts2.choose_spec.1]; exact congrArg some info_parts2.choose_spec.2.2.1) hw0 HL.out HS.out HF.out (flatC_one L)
  rw [show Nat.min n n = n from Nat.min_self n] at hrun
  have hg2 := Lib.hid (setRow_heap w1 w.heap.size mc (mc.toList.take 0 ++ flatC L ++ mc.toList.drop (0 + (flatC L).length)).toArray 68 _ hw0)
  have hgb2 : RowKit.Hid (w1.grownBy (w1.setRow w.heap.size (mc.toList.take 0 ++ flatC L ++ mc.toList.drop (0 + (flatC L).length)).toArray) (some w.heap.size)) := Lib.hid ⟨rfl, rfl, rfl, by simp [World.setRow], fun k _ hk => setRow_other w1 w.heap.size k _ (by intro e; exact hk (by rw [e]))⟩
  have HG := Lib.hid hw0
  have HB := Lib.hid hb0
  generalize World.setRow w1 _ _ = w2 at hrun hg2 hgb2
  clear hw0 hb0 h0q HS HL HF
  go_wp2_with fail
  go_ret
  refine ⟨_, rfl, crow_of_block hg2.out (Nat.le_refl _) ?_ HN.out (by unfold maxLen; omega), ?_⟩
  · have : mc.toList.drop (0 + (flatC L).length) = [] := by
      apply List.drop_eq_nil_of_le
      rw [Array.length_toList, SZ.out, flatC_length, ← HN.out]; omega
    rw [this]; simp
  · exact HB.out.trans (gr_below hgb2.out HB.out.size (fun k e => by injection e; omega))
theorem Kept.join {b u w : World} {L M : List Box} (h : Kept b L u) (k : Kept u M w) : Kept b (M ++ L) w := by
  refine ⟨(h.below k.1).1, fun x hx => ?_⟩
  rcases List.mem_append.1 hx with hx | hx
  · exact ⟨Nat.le_trans h.1.size (k.2 x hx).1, (k.2 x hx).2⟩
  · exact (h.below k.1).2 x hx
set_option maxRecDepth 20000 in
set_option maxHeartbeats 8000000 in
theorem newIc_yes (key : Int) (A : Option Addr) (l : List Int) (cap : Nat) (hcap : l.length ≤ cap) (r : Nat) (w : World) (hn : l.length ≤ 1048576) (hA : Ints w .i64 w.heap.size A l) (hp : planOk key l) (hr : r < l.length) :
    Calls Tryz.prog 20 #[.agg (pA key A l.length cap), .int .i64 r] w fun e w' => ∃ u, e = .returned (.tuple #[.agg (tA (l.getD r 0) 0 0 0 (sumOf key (trisNew key (upTo l r) (l.getD r 0).toNat)) 0 0 false), u]) ∧
      CRow w' w.heap.size u (cellsNew key (upTo l r) (l.getD r 0).toNat) ∧ Below w.heap.size w w' := by
  obtain ⟨bq, off, rfl, hbq, hcq⟩ := hA r hr
  have F0 := fun (u : World) (hb : Below w.heap.size w u) => firstOf_calls key r (some ⟨bq, off, none⟩) l cap u (by unfold maxLen; omega) hcap ((hA.below hb (Nat.le_refl _)).more hb.size)
  rw [firstOf_yes hp hr] at F0
  have K0 := Lib.hid (show Kept w [(w.heap.size + 1, 43, zT), (w.heap.size, 26, (pA key (some ⟨bq, off, none⟩) l.length cap))] _ from (((Kept.refl w).put1 _ _ (pA key (some ⟨bq, off, none⟩) l.length cap) rfl).put1 _ _ zT (by simp)))
  have HC := Lib.hid (fun (u : World) (hb : Below w.heap.size w u) => (hb.cell (p := ⟨bq, off + r, none⟩) hbq).trans hcq)
  have hv := hp.2.2.1 r hr
  have hu := upTo_bd hp.2.2.1 (show r ≤ l.length by omega)
  have hus := upTo_succ l hr
  have hup := upTo_mono hp.2.2.1 (i := r + 1) (j := l.length) (by omega) (Nat.le_refl _)
  have hu4 := hp.2.2.2
  have hl4 := hp.2.1.2
  have hkey := hp.1
  obtain ⟨n, hvn⟩ : ∃ n : Nat, l.getD r 0 = n := ⟨(l.getD r 0).toNat, by omega⟩
  rw [hvn] at HC hv hus ⊢
  rw [Int.toNat_natCast]
  obtain ⟨f, hff⟩ : ∃ f, f = upTo l r := ⟨_, rfl⟩
  rw [← hff] at F0 hu hus ⊢
  have F := Lib.hid F0
  have LQ := Lib.hid (fun u => laidOut_calls key f n u hkey (by omega) (by omega) (by omega) (by omega))
  have CQ := Lib.hid (fun q u (h : CellsAt u q 98 (roomArr (cellsNew key f n))) => copied_calls q n (cellsNew key f n) u (cellsNew_length key f n).symm (by omega) (by omega) h)
  have hi1 : (r : Int) < l.length := by omega
  have hi0 : (0 : Int) ≤ r := by omega
  have hf0 : ¬ f < 0 := by omega
  have hn1 : 0 < n := by omega
  have hn8 : n ≤ 8 := by omega
  clear hA hn hp hr hcq F0 hvn hff hv hu hus hup hu4 hl4 hkey
  go_enter Tryz.func20, Tryz.ntmps20
  go_wp2_with fail
  refine (F.out _ K0.out.1).mono ?_; rintro e w1 ⟨rfl, b1⟩
  have hk1 := K0.out.below b1
  have hcq := HC.out _ hk1.1
  obtain ⟨kc0, kf0, kc1, kf1, -⟩ := hk1.rd
  have HK1 := Lib.hid hk1
  clear b1 F K0 hk1 HC
  go_upto_region 4 with fail
  go_region_with (go_at_call 51; refine (LQ.out _).mono ?_; rintro e wx ⟨p, q, hqp, rfl, hkx⟩; have HKX := Lib.hid hkx; have HQP := Lib.hid hqp; clear hkx hqp)
  all_goals
    have hk2 := (show Kept w [(w.heap.size + 1, 43, zT), (w.heap.size, 26, (pA key (some ⟨bq, off, none⟩) l.length cap))] w1.drew from HK1.out.drew).join HKX.out
    have lr1 := hk2.lt (x := (w.heap.size + 1, 43, zT)) (by simp)
    have lp2 := hk2.lt (x := (p, 43, (tA n 0 0 0 (sumOf key (trisNew key f n)) 0 0 false))) (by simp)
    have lq2 := hk2.lt (x := (q, 98, roomArr (cellsNew key f n))) (by simp)
    obtain ⟨kc0, kf0, kc1, kf1, kc2, kf2, kc3, kf3, -⟩ := hk2.rd
    have HK2 := Lib.hid hk2
    have HQ := Lib.hid HQP.out
    clear hk2 HKX HQP
    go_upto_region 5 with fail
    go_region_with (go_at_call 52; refine (CQ.out _ _ (HK2.out.drew.at_ (by simp))).mono ?_; rintro e wy ⟨v, rfl, hv, hb⟩; have HV := Lib.hid hv; have hk3 := HK2.out.drew.below hb; obtain ⟨mc0, mf0, mc1, mf1, mc2, mf2, mc3, mf3, -⟩ := hk3.rd; have HK3 := Lib.hid hk3; clear hv hk3 hb)
    all_goals
      go_wp2_with fail
      obtain ⟨w9, e9, ⟨d0, d1, d2, d3, d4, d5, d6, d7⟩, -, hb9, hg9⟩ := trust_end (w := w) (x0 := .int .i64 n) (x1 := .int .i64 0) (x2 := .int .i64 0) (x3 := .int .i64 0) (x4 := .int .i64 (sumOf key (trisNew key f n))) (x5 := .int .i64 0) (x6 := .int .i64 0) (x7 := .bool false) (HK3.out.at_ (p := w.heap.size + 1) (t := 43) (cs := zT) (by simp)) HK3.out.1 (by omega)
      rw [e9]
      have R9 := (HV.out.grown hg9 lr1).mono (Nat.le_trans (Nat.le_succ _) (Nat.le_of_lt lr1))
      exact bodyPost_ret (v := .tuple #[.agg (tA n 0 0 0 (sumOf key (trisNew key f n)) 0 0 false), v]) (by simp [results, Tryz.results20, go_sem, d0, d1, d2, d3, d4, d5, d6, d7]) rfl ⟨v, rfl, R9, hb9⟩
end Go.Proofs.YtgaecedhkbneaaaGreat.Mx

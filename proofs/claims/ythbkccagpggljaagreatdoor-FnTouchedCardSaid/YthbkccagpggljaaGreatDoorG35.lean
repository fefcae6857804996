import Derived.Test.YthbkccagpggljaaGreatDoorG32
import Derived.Test.YthbkccagpggljaaGreatDoorG33
import Derived.Test.YthbkccagpggljaaGreatDoorG34
import Derived.Test.YthbkccagpggljaaGreatDoorG12
namespace Go.Proofs.YthbkccagpggljaaGreatDoor.Mx
open Go.ChangeShapes Go.WideShapes Go.ChangeAt Go.RowKit
set_option linter.unusedVariables false
def Errs (w : World) (a0 a1 a2 a3 : Addr) : Prop :=
  w.cell? ⟨4, 0, none⟩ = some hErr ∧ (w.cell? ⟨0, 0, none⟩ = some (.iface 200 (.pointer (some a0))) ∧ w.cell? ⟨1, 0, none⟩ = some (.iface 200 (.pointer (some a1))) ∧ w.cell? ⟨2, 0, none⟩ = some (.iface 200 (.pointer (some a2))) ∧ w.cell? ⟨3, 0, none⟩ = some (.iface 200 (.pointer (some a3)))) ∧
  (a0 ≠ a1 ∧ a0 ≠ a2 ∧ a0 ≠ a3 ∧ a1 ≠ a2 ∧ a1 ≠ a3 ∧ a2 ≠ a3) ∧
  (∃ c t, w.heap[a0.block]? = some (.cells c t (0, 0))) ∧ (∃ c t, w.heap[a1.block]? = some (.cells c t (0, 0))) ∧ (∃ c t, w.heap[a2.block]? = some (.cells c t (0, 0))) ∧ (∃ c t, w.heap[a3.block]? = some (.cells c t (0, 0)))
theorem cell_lt {w : World} {a : Addr} {v : Value} (h : w.cell? a = some v) : a.block < w.heap.size := by
  rcases Nat.lt_or_ge a.block w.heap.size with h' | h'
  · exact h'
  · simp [World.cell?, Array.getElem?_eq_none h'] at h
theorem Errs.below {w u : World} {a0 a1 a2 a3 : Addr} (h : Errs w a0 a1 a2 a3) (hb : Below w.heap.size w u) : Errs u a0 a1 a2 a3 := by
  obtain ⟨h0, ⟨g0, g1, g2, g3⟩, hn, ⟨c0, s0, r0⟩, ⟨c1, s1, r1⟩, ⟨c2, s2, r2⟩, ⟨c3, s3, r3⟩⟩ := h
  have K : ∀ {a : Addr} {v : Value}, w.cell? a = some v → u.cell? a = some v := fun hc => (hb.cell (cell_lt hc)).trans hc
  have R : ∀ {b : Nat} {o : Obj}, w.heap[b]? = some o → u.heap[b]? = some o := fun hc => (hb.block _ (Array.getElem?_eq_some_iff.1 hc).1).trans hc
  exact ⟨K h0, ⟨K g0, K g1, K g2, K g3⟩, hn, ⟨c0, s0, R r0⟩, ⟨c1, s1, R r1⟩, ⟨c2, s2, R r2⟩, ⟨c3, s3, R r3⟩⟩
theorem isValueB (s : Int) (w : World) : Calls Tryz.prog 89 #[.int .i64 s] w fun e w' => e = .returned (.bool (decide (isVal s))) ∧ w = w' := by
  by_cases h : isVal s
  · rw [decide_eq_true h]; exact isValue_yes s w h
  · rw [decide_eq_false h]; exact isValue_no s w h
open Classical in
noncomputable def touchB (key : Int) (l : List Int) (t : Tru) (x ct cv value : Int) : Bool := decide (touchOk key l t x ct cv value)
open Classical in
theorem touchB_yes {key : Int} {l : List Int} {t : Tru} {x ct cv value : Int} (h : touchOk key l t x ct cv value) : touchB key l t x ct cv value = true := by unfold touchB; exact decide_eq_true h
open Classical in
theorem touchB_no {key : Int} {l : List Int} {t : Tru} {x ct cv value : Int} (h : ¬ touchOk key l t x ct cv value) : touchB key l t x ct cv value = false := by unfold touchB; exact decide_eq_false h
set_option maxRecDepth 20000 in
set_option maxHeartbeats 8000000 in
theorem touchOk_calls (key x ct cv value : Int) (A : Option Addr) (l : List Int) (cap : Nat) (t0 t1 t2 t3 t4 t5 t6 : Int) (t7 : Bool) (w : World) (hn : l.length ≤ 1048576) (hcap : l.length ≤ cap) (hA : Ints w .i64 w.heap.size A l) (hx : I64 x) (hct : I64 ct) (hcv : I64 cv) :
    Calls Tryz.prog 54 #[.agg (pA key A l.length cap), .agg (tA t0 t1 t2 t3 t4 t5 t6 t7), .int .i64 x, .agg (cA ct cv), .int .i64 value] w fun e w' => e = .returned (.bool (touchB key l ⟨t0, t1, t2, t3, t4, t5, t6, t7⟩ x ct cv value)) ∧ Below w.heap.size w w' := by
  have K0 := Lib.hid (show Kept w [(w.heap.size + 1 + 1, 30, (cA ct cv)), (w.heap.size + 1, 28, (tA t0 t1 t2 t3 t4 t5 t6 t7)), (w.heap.size, 26, (pA key A l.length cap))] _ from ((((Kept.refl w).put1 _ _ (pA key A l.length cap) rfl).put1 _ _ (tA t0 t1 t2 t3 t4 t5 t6 t7) (by simp)).put1 _ _ (cA ct cv) (by simp)))
  have RC := Lib.hid (fun (u : World) (h : Kept w [(w.heap.size + 1 + 1, 30, (cA ct cv)), (w.heap.size + 1, 28, (tA t0 t1 t2 t3 t4 t5 t6 t7)), (w.heap.size, 26, (pA key A l.length cap))] u) => (regionOf_calls key x A l cap u (by unfold maxLen; omega) hcap ((hA.below h.1 (Nat.le_refl _)).more h.1.size) hx).mono (fun e w' ⟨he, hb⟩ => (⟨he, h.below hb⟩ : _ ∧ Kept w [(w.heap.size + 1 + 1, 30, (cA ct cv)), (w.heap.size + 1, 28, (tA t0 t1 t2 t3 t4 t5 t6 t7)), (w.heap.size, 26, (pA key A l.length cap))] w')))
  have TC := Lib.hid (fun (u : World) (h : Kept w [(w.heap.size + 1 + 1, 30, (cA ct cv)), (w.heap.size + 1, 28, (tA t0 t1 t2 t3 t4 t5 t6 t7)), (w.heap.size, 26, (pA key A l.length cap))] u) => (implTrustOk_calls key (regionOf key l x) A l cap t0 t1 t2 t3 t4 t5 t6 t7 u hn hcap ((hA.below h.1 (Nat.le_refl _)).more h.1.size)).mono (fun e w' ⟨he, hb⟩ => (⟨he, h.below hb⟩ : _ ∧ Kept w [(w.heap.size + 1 + 1, 30, (cA ct cv)), (w.heap.size + 1, 28, (tA t0 t1 t2 t3 t4 t5 t6 t7)), (w.heap.size, 26, (pA key A l.length cap))] w')))
  have CC := Lib.hid (fun (u : World) (h : Kept w [(w.heap.size + 1 + 1, 30, (cA ct cv)), (w.heap.size + 1, 28, (tA t0 t1 t2 t3 t4 t5 t6 t7)), (w.heap.size, 26, (pA key A l.length cap))] u) => (ansCellOk ct cv u hct hcv).mono (fun e w' ⟨he, hb⟩ => (⟨he, h.below hb⟩ : _ ∧ Kept w [(w.heap.size + 1 + 1, 30, (cA ct cv)), (w.heap.size + 1, 28, (tA t0 t1 t2 t3 t4 t5 t6 t7)), (w.heap.size, 26, (pA key A l.length cap))] w')))
  have VC := Lib.hid (fun (u : World) (h : Kept w [(w.heap.size + 1 + 1, 30, (cA ct cv)), (w.heap.size + 1, 28, (tA t0 t1 t2 t3 t4 t5 t6 t7)), (w.heap.size, 26, (pA key A l.length cap))] u) => (isValueB value u).mono (fun e w' ⟨he, hb⟩ => (⟨he, hb ▸ h⟩ : _ ∧ Kept w [(w.heap.size + 1 + 1, 30, (cA ct cv)), (w.heap.size + 1, 28, (tA t0 t1 t2 t3 t4 t5 t6 t7)), (w.heap.size, 26, (pA key A l.length cap))] w')))
  have HT : trustOk key l (regionOf key l x) ⟨t0, t1, t2, t3, t4, t5, t6, t7⟩ → 0 ≤ regionOf key l x := fun h => h.2.1.1
  by_cases ht : trustOk key l (regionOf key l x) ⟨t0, t1, t2, t3, t4, t5, t6, t7⟩
  · rw [trustB_yes ht] at TC
    by_cases hc : isCell ct cv
    · rw [decide_eq_true hc] at CC
      by_cases hv : value = -1
      · rw [touchB_yes (show touchOk key l ⟨t0, t1, t2, t3, t4, t5, t6, t7⟩ x ct cv value from ⟨HT ht, ht, hc, .inl hv⟩)]
        have hd : (value == -1) = true := by simpa using hv
        generalize decide (isVal value) = b3 at VC
        clear ht HT hA hn hx hct hcv hcap hc hv
        generalize regionOf key l x = r at RC TC
        go_enter Tryz.func54, Tryz.ntmps54
        go_upto_region 1 with fail
        have k0 := K0.out
        clear K0
        generalize World.alloc _ _ = w0 at k0 ⊢
        refine wp_region_class (C := fun u => Kept w [(w.heap.size + 1 + 1, 30, (cA ct cv)), (w.heap.size + 1, 28, (tA t0 t1 t2 t3 t4 t5 t6 t7)), (w.heap.size, 26, (pA key A l.length cap))] u) (by kernel_rfl) (by kernel_rfl) k0.drew ?_
        iterate 19 (first
          | go_big_quiet_skip
          | (go_big_quiet_want
             go_big_quiet_op
             first
               | go_big_quiet_on
               | (apply Exists.intro
                  refine ⟨fun u hu => ?_, ?_⟩
                  · first
                      | with_reducible rfl
                      | (go_at_call 11; exact RC.out u hu)
                      | (go_at_call 10; exact TC.out u hu)
                      | (go_at_call 88; exact CC.out u hu)
                      | (go_at_call 89; exact VC.out u hu)
                      | (obtain ⟨kc0, kf0, kc1, kf1, kc2, kf2, -⟩ := hu.rd; go_simp; first | done | with_reducible rfl)
                  go_big_quiet_on)))
        refine wpQuiet_nil ?_
        intro wz hz
        go_wp2_with fail
        go_ret
        exact ⟨rfl, hz.1⟩
      · have hd : (value == -1) = false := by simpa using hv
        by_cases hw : isVal value
        · rw [touchB_yes (show touchOk key l ⟨t0, t1, t2, t3, t4, t5, t6, t7⟩ x ct cv value from ⟨HT ht, ht, hc, .inr hw⟩)]
          rw [decide_eq_true hw] at VC
          clear ht HT hA hn hx hct hcv hcap hc hv hw
          generalize regionOf key l x = r at RC TC
          go_enter Tryz.func54, Tryz.ntmps54
          go_upto_region 1 with fail
          have k0 := K0.out
          clear K0
          generalize World.alloc _ _ = w0 at k0 ⊢
          refine wp_region_class (C := fun u => Kept w [(w.heap.size + 1 + 1, 30, (cA ct cv)), (w.heap.size + 1, 28, (tA t0 t1 t2 t3 t4 t5 t6 t7)), (w.heap.size, 26, (pA key A l.length cap))] u) (by kernel_rfl) (by kernel_rfl) k0.drew ?_
          iterate 19 (first
            | go_big_quiet_skip
            | (go_big_quiet_want
               go_big_quiet_op
               first
                 | go_big_quiet_on
                 | (apply Exists.intro
                    refine ⟨fun u hu => ?_, ?_⟩
                    · first
                        | with_reducible rfl
                        | (go_at_call 11; exact RC.out u hu)
                        | (go_at_call 10; exact TC.out u hu)
                        | (go_at_call 88; exact CC.out u hu)
                        | (go_at_call 89; exact VC.out u hu)
                        | (obtain ⟨kc0, kf0, kc1, kf1, kc2, kf2, -⟩ := hu.rd; go_simp; first | done | with_reducible rfl)
                    go_big_quiet_on)))
          refine wpQuiet_nil ?_
          intro wz hz
          go_wp2_with fail
          go_ret
          exact ⟨rfl, hz.1⟩
        · rw [touchB_no (show ¬ touchOk key l ⟨t0, t1, t2, t3, t4, t5, t6, t7⟩ x ct cv value from fun h => h.2.2.2.elim hv hw)]
          rw [decide_eq_false hw] at VC
          clear ht HT hA hn hx hct hcv hcap hc hv hw
          generalize regionOf key l x = r at RC TC
          go_enter Tryz.func54, Tryz.ntmps54
          go_upto_region 1 with fail
          have k0 := K0.out
          clear K0
          generalize World.alloc _ _ = w0 at k0 ⊢
          refine wp_region_class (C := fun u => Kept w [(w.heap.size + 1 + 1, 30, (cA ct cv)), (w.heap.size + 1, 28, (tA t0 t1 t2 t3 t4 t5 t6 t7)), (w.heap.size, 26, (pA key A l.length cap))] u) (by kernel_rfl) (by kernel_rfl) k0.drew ?_
          iterate 19 (first
            | go_big_quiet_skip
            | (go_big_quiet_want
               go_big_quiet_op
               first
                 | go_big_quiet_on
                 | (apply Exists.intro
                    refine ⟨fun u hu => ?_, ?_⟩
                    · first
                        | with_reducible rfl
                        | (go_at_call 11; exact RC.out u hu)
                        | (go_at_call 10; exact TC.out u hu)
                        | (go_at_call 88; exact CC.out u hu)
                        | (go_at_call 89; exact VC.out u hu)
                        | (obtain ⟨kc0, kf0, kc1, kf1, kc2, kf2, -⟩ := hu.rd; go_simp; first | done | with_reducible rfl)
                    go_big_quiet_on)))
          refine wpQuiet_nil ?_
          intro wz hz
          go_wp2_with fail
          go_ret
          exact ⟨rfl, hz.1⟩
    · rw [touchB_no (show ¬ touchOk key l ⟨t0, t1, t2, t3, t4, t5, t6, t7⟩ x ct cv value from fun h => hc h.2.2.1)]
      rw [decide_eq_false hc] at CC
      generalize decide (isVal value) = b3 at VC
      clear hc
      clear ht HT hA hn hx hct hcv hcap 
      generalize regionOf key l x = r at RC TC
      go_enter Tryz.func54, Tryz.ntmps54
      go_upto_region 1 with fail
      have k0 := K0.out
      clear K0
      generalize World.alloc _ _ = w0 at k0 ⊢
      refine wp_region_class (C := fun u => Kept w [(w.heap.size + 1 + 1, 30, (cA ct cv)), (w.heap.size + 1, 28, (tA t0 t1 t2 t3 t4 t5 t6 t7)), (w.heap.size, 26, (pA key A l.length cap))] u) (by kernel_rfl) (by kernel_rfl) k0.drew ?_
      iterate 19 (first
        | go_big_quiet_skip
        | (go_big_quiet_want
           go_big_quiet_op
           first
             | go_big_quiet_on
             | (apply Exists.intro
                refine ⟨fun u hu => ?_, ?_⟩
                · first
                    | with_reducible rfl
                    | (go_at_call 11; exact RC.out u hu)
                    | (go_at_call 10; exact TC.out u hu)
                    | (go_at_call 88; exact CC.out u hu)
                    | (go_at_call 89; exact VC.out u hu)
                    | (obtain ⟨kc0, kf0, kc1, kf1, kc2, kf2, -⟩ := hu.rd; go_simp; first | done | with_reducible rfl)
                go_big_quiet_on)))
      refine wpQuiet_nil ?_
      intro wz hz
      go_wp2_with fail
      go_ret
      exact ⟨rfl, hz.1⟩
  · rw [touchB_no (show ¬ touchOk key l ⟨t0, t1, t2, t3, t4, t5, t6, t7⟩ x ct cv value from fun h => ht h.2.1)]
    rw [trustB_no ht] at TC
    generalize decide (isVal value) = b3 at VC
    generalize decide (isCell ct cv) = b2 at CC
    clear ht HT hA hn hx hct hcv hcap 
    generalize regionOf key l x = r at RC TC
    go_enter Tryz.func54, Tryz.ntmps54
    go_upto_region 1 with fail
    have k0 := K0.out
    clear K0
    generalize World.alloc _ _ = w0 at k0 ⊢
    refine wp_region_class (C := fun u => Kept w [(w.heap.size + 1 + 1, 30, (cA ct cv)), (w.heap.size + 1, 28, (tA t0 t1 t2 t3 t4 t5 t6 t7)), (w.heap.size, 26, (pA key A l.length cap))] u) (by kernel_rfl) (by kernel_rfl) k0.drew ?_
    iterate 19 (first
      | go_big_quiet_skip
      | (go_big_quiet_want
         go_big_quiet_op
         first
           | go_big_quiet_on
           | (apply Exists.intro
              refine ⟨fun u hu => ?_, ?_⟩
              · first
                  | with_reducible rfl
                  | (go_at_call 11; exact RC.out u hu)
                  | (go_at_call 10; exact TC.out u hu)
                  | (go_at_call 88; exact CC.out u hu)
                  | (go_at_call 89; exact VC.out u hu)
                  | (obtain ⟨kc0, kf0, kc1, kf1, kc2, kf2, -⟩ := hu.rd; go_simp; first | done | with_reducible rfl)
              go_big_quiet_on)))
    refine wpQuiet_nil ?_
    intro wz hz
    go_wp2_with fail
    go_ret
    exact ⟨rfl, hz.1⟩
set_option maxRecDepth 20000 in
set_option maxHeartbeats 2000000 in
theorem sumsAt_calls (p : Nat) (b : Bool) (w : World) :
    Calls Tryz.prog 27 #[.pointer (some ⟨p, 0, none⟩), .bool b] w fun e w' => e = .returned (.tuple #[.pointer (some ⟨p, bif b then 5 else 3, none⟩), .pointer (some ⟨p, bif b then 6 else 4, none⟩)]) ∧ Below w.heap.size w w' := by
  cases b
  · go_enter Tryz.func27, Tryz.ntmps27
    go_upto_region 3 with fail
    refine wp_region_class (C := fun u => Below w.heap.size w u) (by kernel_rfl) (by kernel_rfl) (Below.refl _ _).drew ?_
    iterate 8 (first
      | go_big_quiet_skip
      | (go_big_quiet_want
         go_big_quiet_op
         first
           | go_big_quiet_on
           | (apply Exists.intro
              refine ⟨fun u hu => ?_, ?_⟩
              · first
                  | with_reducible rfl
                  | (go_simp; first | done | with_reducible rfl)
              go_big_quiet_on)))
    refine wpQuiet_nil ?_
    intro wz hz
    go_wp2_with fail
    go_ret2
    exact ⟨rfl, hz⟩
  · go_enter Tryz.func27, Tryz.ntmps27
    go_upto_region 2 with fail
    refine wp_region_class (C := fun u => Below w.heap.size w u) (by kernel_rfl) (by kernel_rfl) (Below.refl _ _).drew ?_
    iterate 8 (first
      | go_big_quiet_skip
      | (go_big_quiet_want
         go_big_quiet_op
         first
           | go_big_quiet_on
           | (apply Exists.intro
              refine ⟨fun u hu => ?_, ?_⟩
              · first
                  | with_reducible rfl
                  | (go_simp; first | done | with_reducible rfl)
              go_big_quiet_on)))
    refine wpQuiet_nil ?_
    intro wz hz
    go_wp2_with fail
    go_ret2
    exact ⟨rfl, hz⟩
set_option maxRecDepth 20000 in
set_option maxHeartbeats 4000000 in
theorem take_calls (key a s ct cv : Int) (p k : Nat) (cs : Array Value) (w : World) (hkey : I64 key) (ha : I64 a) (hct : I64 ct) (hcv : I64 cv) (hp : CellsAt w p 28 cs) (ek : cs[k]? = some (.int .i64 s)) :
    Calls Tryz.prog 29 #[.pointer (some ⟨p, k, none⟩), .int .i64 key, .int .i64 a, .agg (cA ct cv)] w fun e w' =>
      e = .returned (.int .i64 (valueIn key a ct cv)) ∧ w.grownBy w' (some p) ∧ CellsAt w' p 28 (cs.setIfInBounds k (.int .i64 (addOf s (tagIn key a ct cv)))) := by
  have CA := Lib.hid (fun u => added_calls s key a ct cv u ha hct hcv)
  have CV := Lib.hid (fun u => ansValueIn key a ct cv u hkey ha hct hcv)
  generalize addOf s (tagIn key a ct cv) = z at CA ⊢
  generalize valueIn key a ct cv = y at CV ⊢
  have lp := hp.lt
  have P0 := Lib.hid (show CellsAt (w.alloc (.cells (cA ct cv) 30)) p 28 cs from hp.below (allocP w _) lp)
  have G0 := Lib.hid (show w.grownBy (w.alloc (.cells (cA ct cv) 30)) (some p) from gb_alloc (gb_refl w (some p)) _)
  have R0 := Lib.hid (show CellsAt (w.alloc (.cells (cA ct cv) 30)) w.heap.size 30 (cA ct cv) from CellsAt.new w _ _)
  have EK := Lib.hid ek
  clear hp hkey ha hct hcv ek
  go_enter Tryz.func29, Tryz.ntmps29
  go_upto_region 1 with fail
  have hp0 := P0.out
  have hg0 := G0.out
  have hr0 := R0.out
  clear P0 G0 R0
  generalize World.alloc _ _ = w0 at hp0 hg0 hr0 ⊢
  have CK : ∀ u, Below w0.heap.size w0 u → u.cell? ⟨p, k, none⟩ = some (.int .i64 s) ∧ (∀ i, u.frozen? ⟨p, i, none⟩ = false) ∧ (∀ i, u.cell? ⟨w.heap.size, i, none⟩ = (cA ct cv)[i]?) := fun u hu =>
    ⟨((hp0.below hu hp0.lt).cell k).trans EK.out, (hp0.below hu hp0.lt).frozen, (hr0.below hu hr0.lt).cell⟩
  have HK := Lib.hid CK
  have HP := Lib.hid hp0
  have HG := Lib.hid hg0
  have HR := Lib.hid hr0
  clear CK hp0 hg0 hr0
  refine wp_region_class_tail (C := fun u => Below w0.heap.size w0 u) 9 (by kernel_rfl) (by kernel_rfl) (Below.refl _ _).drew ?_
  simp only [List.take_succ_cons, List.take_zero, List.drop_succ_cons, List.drop_zero]
  iterate 9 (first
    | go_big_quiet_skip
    | (go_big_quiet_want
       go_big_quiet_op
       first
         | go_big_quiet_on
         | (apply Exists.intro
            refine ⟨fun u hu => ?_, ?_⟩
            · first
                | with_reducible rfl
                | (go_at_call 57; refine (CA.out u).mono ?_; rintro e wx ⟨rfl, bx⟩; exact ⟨rfl, hu.trans (bx.mono hu.size)⟩)
                | (obtain ⟨ck, cf, cq⟩ := HK.out u hu; go_simp; first | done | with_reducible rfl)
            go_big_quiet_on)))
  refine wpQuiet_nil ?_
  intro w4 hb4
  obtain ⟨ck, cf, cq⟩ := HK.out w4 hb4
  have hne : ¬ p = w.heap.size := by omega
  have hp4 := HP.out.below hb4 HP.out.lt
  have hr4 := HR.out.below hb4 HR.out.lt
  have hg4 := gb_belowP HG.out (hb4.mono HG.out.size)
  clear HP HR HG HK CA hb4
  go_upto_region 2 with fail
  have hp5 := hp4.set_ k (.int .i64 z)
  have hr5 := hr4.grown (gb_set (gb_refl w4 (some p)) k (.int .i64 z)) (by intro e; injection e; omega)
  have hg5 := gb_set hg4 k (.int .i64 z)
  clear hp4 hr4 hg4 ck cf cq
  generalize World.setCell _ _ _ = w5 at hp5 hr5 hg5 ⊢
  have rc : ∀ i, w5.cell? ⟨w.heap.size, i, none⟩ = (cA ct cv)[i]? := hr5.cell
  go_wp2_with fail
  refine (CV.out _).mono ?_; rintro e w6 ⟨rfl, b6⟩
  have hp6 := hp5.below b6 hp5.lt
  have hg6 := gb_belowP hg5 (b6.mono hg5.size)
  clear hp5 hg5 hr5 rc b6
  go_wp2_with fail
  go_ret
  exact ⟨rfl, hg6, hp6⟩
-- codeOf: of the sentinels, by their places
set_option maxRecDepth 20000 in
set_option maxHeartbeats 2000000 in
theorem codeOf_0 (r : Nat) (a0 a1 a2 a3 : Addr) (zs : List Value) (w : World) (he : Errs w a0 a1 a2 a3) (hr : CellsAt w r 99 (.iface 200 (.pointer (some a0)) :: zs).toArray) :
    Calls Tryz.prog 26 #[.iface 97 (.pointer (some ⟨r, 0, none⟩))] w fun e w' => e = .returned (.int .i64 1) ∧ w = w' := by
  obtain ⟨h0, ⟨g0, g1, g2, g3⟩, ⟨n01, n02, n03, n12, n13, n23⟩, ⟨c0, s0, r0⟩, ⟨c1, s1, r1⟩, ⟨c2, s2, r2⟩, ⟨c3, s3, r3⟩⟩ := he
  have hc : w.cell? ⟨r, 0, none⟩ = some (.iface 200 (.pointer (some a0))) := by rw [hr.cell 0]; simp
  have I1 := Lib.hid (is_other r a1 a0 c0 c1 s0 s1 w hc n01 r0 r1)
  have I2 := Lib.hid (is_other r a2 a0 c0 c2 s0 s2 w hc n02 r0 r2)
  have I3 := Lib.hid (is_other r a3 a0 c0 c3 s0 s3 w hc n03 r0 r3)
  clear hr hc h0 r0 r1 r2 r3 n01 n02 n03 n12 n13 n23
  go_enter Tryz.func26, Tryz.ntmps26
  go_wp2_with fail
  refine (I1.out).mono ?_; rintro e w' ⟨rfl, rfl⟩
  go_wp2_with fail
  refine (I2.out).mono ?_; rintro e w' ⟨rfl, rfl⟩
  go_wp2_with fail
  refine (I3.out).mono ?_; rintro e w' ⟨rfl, rfl⟩
  go_wp2_with fail
  go_ret
  exact ⟨rfl, rfl⟩
set_option maxRecDepth 20000 in
set_option maxHeartbeats 2000000 in
theorem codeOf_1 (r : Nat) (a0 a1 a2 a3 : Addr) (zs : List Value) (w : World) (he : Errs w a0 a1 a2 a3) (hr : CellsAt w r 99 (.iface 200 (.pointer (some a1)) :: zs).toArray) :
    Calls Tryz.prog 26 #[.iface 97 (.pointer (some ⟨r, 0, none⟩))] w fun e w' => e = .returned (.int .i64 2) ∧ w = w' := by
  obtain ⟨h0, ⟨g0, g1, g2, g3⟩, ⟨n01, n02, n03, n12, n13, n23⟩, ⟨c0, s0, r0⟩, ⟨c1, s1, r1⟩, ⟨c2, s2, r2⟩, ⟨c3, s3, r3⟩⟩ := he
  have hc : w.cell? ⟨r, 0, none⟩ = some (.iface 200 (.pointer (some a1))) := by rw [hr.cell 0]; simp
  have I1 := Lib.hid (is_same r a1 w hc)
  have I2 := Lib.hid (is_other r a2 a1 c1 c2 s1 s2 w hc n12 r1 r2)
  have I3 := Lib.hid (is_other r a3 a1 c1 c3 s1 s3 w hc n13 r1 r3)
  clear hr hc h0 r0 r1 r2 r3 n01 n02 n03 n12 n13 n23
  go_enter Tryz.func26, Tryz.ntmps26
  go_wp2_with fail
  refine (I1.out).mono ?_; rintro e w' ⟨rfl, rfl⟩
  go_wp2_with fail
  go_ret
  exact ⟨rfl, rfl⟩
set_option maxRecDepth 20000 in
set_option maxHeartbeats 2000000 in
theorem codeOf_2 (r : Nat) (a0 a1 a2 a3 : Addr) (zs : List Value) (w : World) (he : Errs w a0 a1 a2 a3) (hr : CellsAt w r 99 (.iface 200 (.pointer (some a2)) :: zs).toArray) :
    Calls Tryz.prog 26 #[.iface 97 (.pointer (some ⟨r, 0, none⟩))] w fun e w' => e = .returned (.int .i64 3) ∧ w = w' := by
  obtain ⟨h0, ⟨g0, g1, g2, g3⟩, ⟨n01, n02, n03, n12, n13, n23⟩, ⟨c0, s0, r0⟩, ⟨c1, s1, r1⟩, ⟨c2, s2, r2⟩, ⟨c3, s3, r3⟩⟩ := he
  have hc : w.cell? ⟨r, 0, none⟩ = some (.iface 200 (.pointer (some a2))) := by rw [hr.cell 0]; simp
  have I1 := Lib.hid (is_other r a1 a2 c2 c1 s2 s1 w hc n12.symm r2 r1)
  have I2 := Lib.hid (is_same r a2 w hc)
  have I3 := Lib.hid (is_other r a3 a2 c2 c3 s2 s3 w hc n23 r2 r3)
  clear hr hc h0 r0 r1 r2 r3 n01 n02 n03 n12 n13 n23
  go_enter Tryz.func26, Tryz.ntmps26
  go_wp2_with fail
  refine (I1.out).mono ?_; rintro e w' ⟨rfl, rfl⟩
  go_wp2_with fail
  refine (I2.out).mono ?_; rintro e w' ⟨rfl, rfl⟩
  go_wp2_with fail
  go_ret
  exact ⟨rfl, rfl⟩
set_option maxRecDepth 20000 in
set_option maxHeartbeats 2000000 in
theorem codeOf_3 (r : Nat) (a0 a1 a2 a3 : Addr) (zs : List Value) (w : World) (he : Errs w a0 a1 a2 a3) (hr : CellsAt w r 99 (.iface 200 (.pointer (some a3)) :: zs).toArray) :
    Calls Tryz.prog 26 #[.iface 97 (.pointer (some ⟨r, 0, none⟩))] w fun e w' => e = .returned (.int .i64 4) ∧ w = w' := by
  obtain ⟨h0, ⟨g0, g1, g2, g3⟩, ⟨n01, n02, n03, n12, n13, n23⟩, ⟨c0, s0, r0⟩, ⟨c1, s1, r1⟩, ⟨c2, s2, r2⟩, ⟨c3, s3, r3⟩⟩ := he
  have hc : w.cell? ⟨r, 0, none⟩ = some (.iface 200 (.pointer (some a3))) := by rw [hr.cell 0]; simp
  have I1 := Lib.hid (is_other r a1 a3 c3 c1 s3 s1 w hc n13.symm r3 r1)
  have I2 := Lib.hid (is_other r a2 a3 c3 c2 s3 s2 w hc n23.symm r3 r2)
  have I3 := Lib.hid (is_same r a3 w hc)
  clear hr hc h0 r0 r1 r2 r3 n01 n02 n03 n12 n13 n23
  go_enter Tryz.func26, Tryz.ntmps26
  go_wp2_with fail
  refine (I1.out).mono ?_; rintro e w' ⟨rfl, rfl⟩
  go_wp2_with fail
  refine (I2.out).mono ?_; rintro e w' ⟨rfl, rfl⟩
  go_wp2_with fail
  refine (I3.out).mono ?_; rintro e w' ⟨rfl, rfl⟩
  go_wp2_with fail
  go_ret
  exact ⟨rfl, rfl⟩
set_option maxRecDepth 20000 in
set_option maxHeartbeats 8000000 in
theorem leftBy_calls (r : Nat) (a : Addr) (t0 t1 t2 t3 t4 t5 t6 : Int) (t7 : Bool) (ct cv : Int) (w : World) (hg : w.cell? ⟨4, 0, none⟩ = some hErr) (hr : CellsAt w r 99 #[.iface 200 (.pointer (some a)), .int .i64 t0, .int .i64 t1, .int .i64 t2, .int .i64 t3, .int .i64 t4, .int .i64 t5, .int .i64 t6, .bool t7, .int .i64 ct, .int .i64 cv]) :
    Calls Tryz.prog 25 #[.iface 97 (.pointer (some ⟨r, 0, none⟩))] w fun e w' => e = .returned (.tuple #[.agg (tA t0 t1 t2 t3 t4 t5 t6 t7), .agg (cA ct cv)]) ∧ Below w.heap.size w w' := by
  have hlt := hr.lt
  have K0 := Lib.hid (show Kept w [(w.heap.size + 1 + 1, 97, #[.pointer none]), (w.heap.size + 1, 30, zC), (w.heap.size, 28, zT)] _ from ((((Kept.refl w).put1 _ _ zT rfl).put1 _ _ zC (by simp)).put1 _ _ #[.pointer none] (by simp)))
  have HA := Lib.hid (fun (u : World) (hb : Below w.heap.size w u) (hp : CellsAt u (w.heap.size + 1 + 1) 97 #[.pointer none]) => as_box ⟨r, 0, none⟩ (w.heap.size + 1 + 1) (.pointer none) u ((hb.cell (cell_lt hg)).trans hg) hp)
  have HR := Lib.hid (fun (u : World) (hb : Below w.heap.size w u) => hr.below hb hlt)
  clear hg hr
  go_enter Tryz.func25, Tryz.ntmps25
  go_upto_region 2 with fail
  have k0 := K0.out
  clear K0
  generalize World.alloc (World.alloc _ _) _ = w0 at k0 ⊢
  go_wp2_with fail
  refine (HA.out _ k0.1 (k0.at_ (by simp))).mono ?_; rintro e w1 ⟨rfl, hg1, hc1⟩
  have k1 := k0.put (k := 0) rfl (by unfold Apart; simp <;> omega) hg1 hc1
  clear k0 hg1 hc1 HA
  have k1' : Kept w [(w.heap.size + 1 + 1, 97, #[.pointer (some ⟨r, 0, none⟩)]), (w.heap.size + 1, 30, zC), (w.heap.size, 28, zT)] w1 := k1
  clear k1
  have hr1 := HR.out _ k1'.1
  have c1 : ∀ i, w1.cell? ⟨r, i, none⟩ = #[.iface 200 (.pointer (some a)), .int .i64 t0, .int .i64 t1, .int .i64 t2, .int .i64 t3, .int .i64 t4, .int .i64 t5, .int .i64 t6, .bool t7, .int .i64 ct, .int .i64 cv][i]? := hr1.cell
  obtain ⟨kc0, kf0, kc1, kf1, kc2, kf2, -⟩ := k1'.rd
  go_upto_region 4 with fail
  have K4 := Lib.hid k1'
  clear k1' hr1 HR
  go_region
  all_goals
    go_wp2_with fail
    obtain ⟨w9, e9, ⟨d0, d1, d2, d3, d4, d5, d6, d7, d8, d9⟩, hb⟩ := touch_end (x0 := .int .i64 t0) (x1 := .int .i64 t1) (x2 := .int .i64 t2) (x3 := .int .i64 t3) (x4 := .int .i64 t4) (x5 := .int .i64 t5) (x6 := .int .i64 t6) (x7 := .bool t7) (y0 := .int .i64 ct) (y1 := .int .i64 cv) (K4.out.at_ (p := w.heap.size) (t := 28) (cs := zT) (by simp)) (K4.out.at_ (p := w.heap.size + 1) (t := 30) (cs := zC) (by simp)) (by omega) K4.out.1 (by omega) (by omega)
    rw [e9]
    clear e9
    exact bodyPost_ret (v := (.tuple #[.agg (tA t0 t1 t2 t3 t4 t5 t6 t7), .agg (cA ct cv)])) (by simp [results, Tryz.results25, go_sem, d0, d1, d2, d3, d4, d5, d6, d7, d8, d9]) rfl ⟨rfl, hb.drew⟩
end Go.Proofs.YthbkccagpggljaaGreatDoor.Mx

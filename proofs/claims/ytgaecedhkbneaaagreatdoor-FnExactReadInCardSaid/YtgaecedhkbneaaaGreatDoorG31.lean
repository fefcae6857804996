import Derived.Test.YtgaecedhkbneaaaGreatDoorG26
import Derived.Test.YtgaecedhkbneaaaGreatDoorG17
namespace Go.Proofs.YtgaecedhkbneaaaGreatDoor.Mx
open Go.ChangeShapes Go.WideShapes Go.ChangeAt Go.RowKit
set_option linter.unusedVariables false
def RefQ (w : World) (a : Addr) (t0 t1 t2 t3 t4 t5 t6 : Int) (t7 : Bool) (ct cv : Int) (e : Ending) (w' : World) : Prop := ∃ r, e = .returned (.iface 207 (.pointer (some ⟨r, 0, none⟩))) ∧ CellsAt w' r 211 #[.iface 264 (.pointer (some a)), .int .i64 t0, .int .i64 t1, .int .i64 t2, .int .i64 t3, .int .i64 t4, .int .i64 t5, .int .i64 t6, .bool t7, .int .i64 ct, .int .i64 cv] ∧ Below w.heap.size w w'
set_option maxRecDepth 20000 in
set_option maxHeartbeats 4000000 in
theorem refd_bad (a0 a1 a2 a3 : Addr) (ct cv t0 t1 t2 t3 t4 t5 t6 : Int) (t7 sp : Bool) (w : World) (he : Errs w a0 a1 a2 a3) :
    Calls Tryz.prog 197 #[.agg (tA t0 t1 t2 t3 t4 t5 t6 t7), .agg (cA ct cv), .bool false, .bool sp] w (RefQ w a0 0 0 0 0 0 0 0 false 0 0) := by
  have K0 := Lib.hid (show Kept w [(w.heap.size + 1, 112, (cA ct cv)), (w.heap.size, 80, (tA t0 t1 t2 t3 t4 t5 t6 t7))] _ from (((Kept.refl w).put1 _ _ (tA t0 t1 t2 t3 t4 t5 t6 t7) rfl).put1 _ _ (cA ct cv) (by simp)))
  have EC := Lib.hid (fun (u : World) (hb : Below w.heap.size w u) => he.below hb)
  clear he
  go_enter Tryz.func197, Tryz.ntmps197
  go_upto_region 1 with fail
  have k1 := K0.out
  clear K0
  generalize World.alloc _ _ = w1 at k1 ⊢
  obtain ⟨-, ⟨g0, g1, g2, g3⟩, -⟩ := EC.out _ k1.1
  obtain ⟨kc0, kf0, kc1, kf1, -⟩ := k1.rd
  have K9 := Lib.hid k1
  clear k1 EC
  go_wp2_with fail
  go_ret
  exact ⟨w1.heap.size, rfl, CellsAt.new w1 _ _, K9.out.1.trans ((allocP w1 _).mono K9.out.1.size)⟩
set_option maxRecDepth 20000 in
set_option maxHeartbeats 4000000 in
theorem refd_failed (a0 a1 a2 a3 : Addr) (ct cv t0 t1 t2 t3 t4 t5 t6 : Int) (sp : Bool) (w : World) (he : Errs w a0 a1 a2 a3) :
    Calls Tryz.prog 197 #[.agg (tA t0 t1 t2 t3 t4 t5 t6 true), .agg (cA ct cv), .bool true, .bool sp] w (RefQ w a1 t0 t1 t2 t3 t4 t5 t6 true ct cv) := by
  have K0 := Lib.hid (show Kept w [(w.heap.size + 1, 112, (cA ct cv)), (w.heap.size, 80, (tA t0 t1 t2 t3 t4 t5 t6 true))] _ from (((Kept.refl w).put1 _ _ (tA t0 t1 t2 t3 t4 t5 t6 true) rfl).put1 _ _ (cA ct cv) (by simp)))
  have EC := Lib.hid (fun (u : World) (hb : Below w.heap.size w u) => he.below hb)
  clear he
  go_enter Tryz.func197, Tryz.ntmps197
  go_upto_region 1 with fail
  have k1 := K0.out
  clear K0
  generalize World.alloc _ _ = w1 at k1 ⊢
  obtain ⟨-, ⟨g0, g1, g2, g3⟩, -⟩ := EC.out _ k1.1
  obtain ⟨kc0, kf0, kc1, kf1, -⟩ := k1.rd
  have K9 := Lib.hid k1
  clear k1 EC
  go_wp2_with fail
  go_ret
  exact ⟨w1.heap.size, rfl, CellsAt.new w1 _ _, K9.out.1.trans ((allocP w1 _).mono K9.out.1.size)⟩
set_option maxRecDepth 20000 in
set_option maxHeartbeats 4000000 in
theorem refd_spent (a0 a1 a2 a3 : Addr) (ct cv t0 t1 t2 t3 t4 t5 t6 : Int) (w : World) (he : Errs w a0 a1 a2 a3) :
    Calls Tryz.prog 197 #[.agg (tA t0 t1 t2 t3 t4 t5 t6 false), .agg (cA ct cv), .bool true, .bool true] w (RefQ w a2 t0 t1 t2 t3 t4 t5 t6 false ct cv) := by
  have K0 := Lib.hid (show Kept w [(w.heap.size + 1, 112, (cA ct cv)), (w.heap.size, 80, (tA t0 t1 t2 t3 t4 t5 t6 false))] _ from (((Kept.refl w).put1 _ _ (tA t0 t1 t2 t3 t4 t5 t6 false) rfl).put1 _ _ (cA ct cv) (by simp)))
  have EC := Lib.hid (fun (u : World) (hb : Below w.heap.size w u) => he.below hb)
  clear he
  go_enter Tryz.func197, Tryz.ntmps197
  go_upto_region 1 with fail
  have k1 := K0.out
  clear K0
  generalize World.alloc _ _ = w1 at k1 ⊢
  obtain ⟨-, ⟨g0, g1, g2, g3⟩, -⟩ := EC.out _ k1.1
  obtain ⟨kc0, kf0, kc1, kf1, -⟩ := k1.rd
  have K9 := Lib.hid k1
  clear k1 EC
  go_wp2_with fail
  go_ret
  exact ⟨w1.heap.size, rfl, CellsAt.new w1 _ _, K9.out.1.trans ((allocP w1 _).mono K9.out.1.size)⟩
set_option maxRecDepth 20000 in
set_option maxHeartbeats 4000000 in
theorem refd_caught (a0 a1 a2 a3 : Addr) (ct cv t0 t1 t2 t3 t4 t5 t6 : Int) (w : World) (he : Errs w a0 a1 a2 a3) (h2 : t0 < ct) :
    Calls Tryz.prog 197 #[.agg (tA t0 t1 t2 t3 t4 t5 t6 false), .agg (cA ct cv), .bool true, .bool false] w (RefQ w a3 t0 t1 t2 t3 t4 t5 t6 true ct cv) := by
  have K0 := Lib.hid (show Kept w [(w.heap.size + 1, 112, (cA ct cv)), (w.heap.size, 80, (tA t0 t1 t2 t3 t4 t5 t6 false))] _ from (((Kept.refl w).put1 _ _ (tA t0 t1 t2 t3 t4 t5 t6 false) rfl).put1 _ _ (cA ct cv) (by simp)))
  have EC := Lib.hid (fun (u : World) (hb : Below w.heap.size w u) => he.below hb)
  clear he
  have hq1 : decide (t0 < ct) = true := decide_eq_true h2
  go_enter Tryz.func197, Tryz.ntmps197
  go_upto_region 1 with fail
  have k1 := K0.out
  clear K0
  generalize World.alloc _ _ = w1 at k1 ⊢
  obtain ⟨-, ⟨g0, g1, g2, g3⟩, -⟩ := EC.out _ k1.1
  obtain ⟨kc0, kf0, kc1, kf1, -⟩ := k1.rd
  go_upto_region 9 with fail
  have k2 : Kept w [(w.heap.size + 1, 112, (cA ct cv)), (w.heap.size, 80, (tA t0 t1 t2 t3 t4 t5 t6 true))] _ := k1.put (k := 1) rfl (by unfold Apart; simp <;> omega) (gb_set (gb_refl _ (some w.heap.size)) 7 (.bool true)) ((k1.at_ (p := w.heap.size) (t := 80) (cs := (tA t0 t1 t2 t3 t4 t5 t6 false)) (by simp)).set_ 7 _)
  clear g0 g1 g2 g3 kc0 kf0 kc1 kf1 k1
  generalize World.setCell _ _ _ = w2 at k2 ⊢
  obtain ⟨-, ⟨g0, g1, g2, g3⟩, -⟩ := EC.out _ k2.1
  obtain ⟨kc0, kf0, kc1, kf1, -⟩ := k2.rd
  have K9 := Lib.hid k2
  clear k2 EC
  go_wp2_with fail
  go_ret
  exact ⟨w2.heap.size, rfl, CellsAt.new w2 _ _, K9.out.1.trans ((allocP w2 _).mono K9.out.1.size)⟩
set_option maxRecDepth 20000 in
set_option maxHeartbeats 4000000 in
theorem refd_none (a0 a1 a2 a3 : Addr) (ct cv t0 t1 t2 t3 t4 t5 t6 : Int) (w : World) (he : Errs w a0 a1 a2 a3) (h2 : ¬ t0 < ct) :
    Calls Tryz.prog 197 #[.agg (tA t0 t1 t2 t3 t4 t5 t6 false), .agg (cA ct cv), .bool true, .bool false] w (fun e w' => e = .returned .nilIface ∧ Below w.heap.size w w') := by
  have K0 := Lib.hid (show Kept w [(w.heap.size + 1, 112, (cA ct cv)), (w.heap.size, 80, (tA t0 t1 t2 t3 t4 t5 t6 false))] _ from (((Kept.refl w).put1 _ _ (tA t0 t1 t2 t3 t4 t5 t6 false) rfl).put1 _ _ (cA ct cv) (by simp)))
  have EC := Lib.hid (fun (u : World) (hb : Below w.heap.size w u) => he.below hb)
  clear he
  have hq1 : decide (t0 < ct) = false := decide_eq_false h2
  clear h2
  go_enter Tryz.func197, Tryz.ntmps197
  go_upto_region 1 with fail
  have k1 := K0.out
  clear K0
  generalize World.alloc _ _ = w1 at k1 ⊢
  obtain ⟨-, ⟨g0, g1, g2, g3⟩, -⟩ := EC.out _ k1.1
  obtain ⟨kc0, kf0, kc1, kf1, -⟩ := k1.rd
  have K9 := Lib.hid k1
  clear k1 EC
  go_wp2_with fail
  go_ret
  exact ⟨rfl, K9.out.1⟩
set_option maxRecDepth 20000 in
set_option maxHeartbeats 8000000 in
theorem refusedTouch_on (key x ct cv value : Int) (A : Option Addr) (l : List Int) (cap : Nat) (t0 t1 t2 t3 t4 t5 t6 : Int) (t7 : Bool) (w : World) (P : Value → World → Prop) (hn : l.length ≤ 1048576) (hcap : l.length ≤ cap) (hA : Ints w .i64 w.heap.size A l) (hx : I64 x) (hct : I64 ct) (hcv : I64 cv)
    (R : ∀ u, Below w.heap.size w u → Calls Tryz.prog 197 #[.agg (tA t0 t1 t2 t3 t4 t5 t6 t7), .agg (cA ct cv), .bool (touchB key l ⟨t0, t1, t2, t3, t4, t5, t6, t7⟩ x ct cv value), .bool (t0 == 100000)] u fun e w' => ∃ v, e = .returned v ∧ P v w') :
    Calls Tryz.prog 155 #[.agg (pA key A l.length cap), .agg (tA t0 t1 t2 t3 t4 t5 t6 t7), .int .i64 x, .agg (cA ct cv), .int .i64 value] w fun e w' => ∃ v, e = .returned v ∧ P v w' := by
  have K0 := Lib.hid (show Kept w [(w.heap.size + 1 + 1, 112, (cA ct cv)), (w.heap.size + 1, 80, (tA t0 t1 t2 t3 t4 t5 t6 t7)), (w.heap.size, 26, (pA key A l.length cap))] _ from ((((Kept.refl w).put1 _ _ (pA key A l.length cap) rfl).put1 _ _ (tA t0 t1 t2 t3 t4 t5 t6 t7) (by simp)).put1 _ _ (cA ct cv) (by simp)))
  have RC := Lib.hid (fun (u : World) (h : Kept w [(w.heap.size + 1 + 1, 112, (cA ct cv)), (w.heap.size + 1, 80, (tA t0 t1 t2 t3 t4 t5 t6 t7)), (w.heap.size, 26, (pA key A l.length cap))] u) => (regionOf_calls key x A l cap u (by unfold maxLen; omega) hcap ((hA.below h.1 (Nat.le_refl _)).more h.1.size) hx).mono (fun e w' ⟨he, hb⟩ => (⟨he, h.below hb⟩ : _ ∧ Kept w [(w.heap.size + 1 + 1, 112, (cA ct cv)), (w.heap.size + 1, 80, (tA t0 t1 t2 t3 t4 t5 t6 t7)), (w.heap.size, 26, (pA key A l.length cap))] w')))
  have TC := Lib.hid (fun (u : World) (h : Kept w [(w.heap.size + 1 + 1, 112, (cA ct cv)), (w.heap.size + 1, 80, (tA t0 t1 t2 t3 t4 t5 t6 t7)), (w.heap.size, 26, (pA key A l.length cap))] u) => (implTrustOk_calls key (regionOf key l x) A l cap t0 t1 t2 t3 t4 t5 t6 t7 u hn hcap ((hA.below h.1 (Nat.le_refl _)).more h.1.size)).mono (fun e w' ⟨he, hb⟩ => (⟨he, h.below hb⟩ : _ ∧ Kept w [(w.heap.size + 1 + 1, 112, (cA ct cv)), (w.heap.size + 1, 80, (tA t0 t1 t2 t3 t4 t5 t6 t7)), (w.heap.size, 26, (pA key A l.length cap))] w')))
  have CC := Lib.hid (fun (u : World) (h : Kept w [(w.heap.size + 1 + 1, 112, (cA ct cv)), (w.heap.size + 1, 80, (tA t0 t1 t2 t3 t4 t5 t6 t7)), (w.heap.size, 26, (pA key A l.length cap))] u) => (ansCellOk ct cv u hct hcv).mono (fun e w' ⟨he, hb⟩ => (⟨he, h.below hb⟩ : _ ∧ Kept w [(w.heap.size + 1 + 1, 112, (cA ct cv)), (w.heap.size + 1, 80, (tA t0 t1 t2 t3 t4 t5 t6 t7)), (w.heap.size, 26, (pA key A l.length cap))] w')))
  have VC := Lib.hid (fun (u : World) (h : Kept w [(w.heap.size + 1 + 1, 112, (cA ct cv)), (w.heap.size + 1, 80, (tA t0 t1 t2 t3 t4 t5 t6 t7)), (w.heap.size, 26, (pA key A l.length cap))] u) => (isValueB value u).mono (fun e w' ⟨he, hb⟩ => (⟨he, hb ▸ h⟩ : _ ∧ Kept w [(w.heap.size + 1 + 1, 112, (cA ct cv)), (w.heap.size + 1, 80, (tA t0 t1 t2 t3 t4 t5 t6 t7)), (w.heap.size, 26, (pA key A l.length cap))] w')))
  have HT : trustOk key l (regionOf key l x) ⟨t0, t1, t2, t3, t4, t5, t6, t7⟩ → 0 ≤ regionOf key l x := fun h => h.2.1.1
  have hsb : touchB key l ⟨t0, t1, t2, t3, t4, t5, t6, t7⟩ x ct cv value = (trustB key l (regionOf key l x) ⟨t0, t1, t2, t3, t4, t5, t6, t7⟩ && decide (isCell ct cv) && (value == -1 || decide (isVal value))) := by
    unfold touchB trustB
    by_cases h1 : trustOk key l (regionOf key l x) ⟨t0, t1, t2, t3, t4, t5, t6, t7⟩
    · have h0 := HT h1
      by_cases h2 : isCell ct cv <;> by_cases h3 : value = -1 <;> by_cases h4 : isVal value <;> simp [touchOk, ValOk, h0, h1, h2, h3, h4]
    · simp [touchOk, h1]
  rw [hsb] at R
  clear hsb HT hA hn hx hct hcv hcap
  generalize trustB key l (regionOf key l x) ⟨t0, t1, t2, t3, t4, t5, t6, t7⟩ = b1 at R TC
  generalize decide (isCell ct cv) = b2 at R CC
  generalize decide (isVal value) = b3 at R VC
  generalize hb4 : (value == -1) = b4 at R
  generalize hb9 : (t0 == 100000) = b9 at R
  generalize regionOf key l x = r at RC TC
  rcases b1 with _ | _
  all_goals rcases b2 with _ | _
  all_goals rcases b4 with _ | _
  all_goals simp only [Bool.false_and, Bool.true_and, Bool.and_true, Bool.false_or, Bool.true_or] at R
  all_goals
    have RQ := Lib.hid R
    clear R
    go_enter Tryz.func155, Tryz.ntmps155
    go_upto_region 1 with fail
    have k0 := K0.out
    clear K0
    generalize World.alloc _ _ = w0 at k0 ⊢
    refine wp_region_class (C := fun u => Kept w [(w.heap.size + 1 + 1, 112, (cA ct cv)), (w.heap.size + 1, 80, (tA t0 t1 t2 t3 t4 t5 t6 t7)), (w.heap.size, 26, (pA key A l.length cap))] u) (by kernel_rfl) (by kernel_rfl) k0.drew ?_
    iterate 19 (first
      | go_big_quiet_skip
      | (go_big_quiet_want
         go_big_quiet_op
         first
           | go_big_quiet_on
           | (apply Exists.intro
              refine ⟨fun u hu => ?_, ?_⟩
              · first
                  | with_reducible rfl
                  | (go_at_call 96; exact RC.out u hu)
                  | (go_at_call 125; exact TC.out u hu)
                  | (go_at_call 184; exact CC.out u hu)
                  | (go_at_call 38; exact VC.out u hu)
                  | (obtain ⟨kc0, kf0, kc1, kf1, kc2, kf2, -⟩ := hu.rd; go_simp; first | done | with_reducible rfl)
              go_big_quiet_on)))
    refine wpQuiet_nil ?_
    intro wz hz
    obtain ⟨kc0, kf0, kc1, kf1, kc2, kf2, -⟩ := hz.rd
    go_wp2_with fail
    refine (RQ.out _ hz.1).mono ?_; rintro e w9 ⟨v, rfl, hv⟩
    have HV := Lib.hid hv
    clear hv
    go_wp2_with fail
    go_ret
    exact ⟨v, rfl, HV.out⟩
theorem refused_bad (a0 a1 a2 a3 : Addr) (key x ct cv value : Int) (A : Option Addr) (l : List Int) (cap : Nat) (t0 t1 t2 t3 t4 t5 t6 : Int) (t7 : Bool) (w : World) (hn : l.length ≤ 1048576) (hcap : l.length ≤ cap) (hA : Ints w .i64 w.heap.size A l) (hx : I64 x) (hct : I64 ct) (hcv : I64 cv) (he : Errs w a0 a1 a2 a3) (h : ¬ touchOk key l ⟨t0, t1, t2, t3, t4, t5, t6, t7⟩ x ct cv value) :
    Calls Tryz.prog 155 #[.agg (pA key A l.length cap), .agg (tA t0 t1 t2 t3 t4 t5 t6 t7), .int .i64 x, .agg (cA ct cv), .int .i64 value] w (RefQ w a0 0 0 0 0 0 0 0 false 0 0) := by
  have R := fun (u : World) (hb : Below w.heap.size w u) => refd_bad a0 a1 a2 a3 ct cv t0 t1 t2 t3 t4 t5 t6 t7 (t0 == 100000) u (he.below hb)
  have hy := touchB_no h
  exact (refusedTouch_on key x ct cv value A l cap t0 t1 t2 t3 t4 t5 t6 t7 w (fun v w' => ∃ r, v = .iface 207 (.pointer (some ⟨r, 0, none⟩)) ∧ CellsAt w' r 211 #[.iface 264 (.pointer (some a0)), .int .i64 0, .int .i64 0, .int .i64 0, .int .i64 0, .int .i64 0, .int .i64 0, .int .i64 0, .bool false, .int .i64 0, .int .i64 0] ∧ Below w.heap.size w w') hn hcap hA hx hct hcv (fun u hb => by rw [hy]; exact (R u hb).mono (fun e w' ⟨r, he, hc, hb2⟩ => ⟨_, he, r, rfl, hc, hb.trans (hb2.mono hb.size)⟩))).mono (fun e w' ⟨v, he, r, hv, hc, hb⟩ => ⟨r, by rw [he, hv], hc, hb⟩)
theorem refused_failed (a0 a1 a2 a3 : Addr) (key x ct cv value : Int) (A : Option Addr) (l : List Int) (cap : Nat) (t0 t1 t2 t3 t4 t5 t6 : Int) (w : World) (hn : l.length ≤ 1048576) (hcap : l.length ≤ cap) (hA : Ints w .i64 w.heap.size A l) (hx : I64 x) (hct : I64 ct) (hcv : I64 cv) (he : Errs w a0 a1 a2 a3) (h : touchOk key l ⟨t0, t1, t2, t3, t4, t5, t6, true⟩ x ct cv value) :
    Calls Tryz.prog 155 #[.agg (pA key A l.length cap), .agg (tA t0 t1 t2 t3 t4 t5 t6 true), .int .i64 x, .agg (cA ct cv), .int .i64 value] w (RefQ w a1 t0 t1 t2 t3 t4 t5 t6 true ct cv) := by
  have R := fun (u : World) (hb : Below w.heap.size w u) => refd_failed a0 a1 a2 a3 ct cv t0 t1 t2 t3 t4 t5 t6 (t0 == 100000) u (he.below hb)
  have hy := touchB_yes h
  exact (refusedTouch_on key x ct cv value A l cap t0 t1 t2 t3 t4 t5 t6 true w (fun v w' => ∃ r, v = .iface 207 (.pointer (some ⟨r, 0, none⟩)) ∧ CellsAt w' r 211 #[.iface 264 (.pointer (some a1)), .int .i64 t0, .int .i64 t1, .int .i64 t2, .int .i64 t3, .int .i64 t4, .int .i64 t5, .int .i64 t6, .bool true, .int .i64 ct, .int .i64 cv] ∧ Below w.heap.size w w') hn hcap hA hx hct hcv (fun u hb => by rw [hy]; exact (R u hb).mono (fun e w' ⟨r, he, hc, hb2⟩ => ⟨_, he, r, rfl, hc, hb.trans (hb2.mono hb.size)⟩))).mono (fun e w' ⟨v, he, r, hv, hc, hb⟩ => ⟨r, by rw [he, hv], hc, hb⟩)
theorem refused_spent (a0 a1 a2 a3 : Addr) (key x ct cv value : Int) (A : Option Addr) (l : List Int) (cap : Nat) (t0 t1 t2 t3 t4 t5 t6 : Int) (w : World) (hn : l.length ≤ 1048576) (hcap : l.length ≤ cap) (hA : Ints w .i64 w.heap.size A l) (hx : I64 x) (hct : I64 ct) (hcv : I64 cv) (he : Errs w a0 a1 a2 a3) (h : touchOk key l ⟨t0, t1, t2, t3, t4, t5, t6, false⟩ x ct cv value) (h1 : 100000 ≤ t0) :
    Calls Tryz.prog 155 #[.agg (pA key A l.length cap), .agg (tA t0 t1 t2 t3 t4 t5 t6 false), .int .i64 x, .agg (cA ct cv), .int .i64 value] w (RefQ w a2 t0 t1 t2 t3 t4 t5 t6 false ct cv) := by
  have R := fun (u : World) (hb : Below w.heap.size w u) => refd_spent a0 a1 a2 a3 ct cv t0 t1 t2 t3 t4 t5 t6  u (he.below hb)
  have hy := touchB_yes h
  have ht0 := h.2.1.2.2.1.2
  simp only [] at ht0
  have hs : (t0 == 100000) = true := by simp; omega
  exact (refusedTouch_on key x ct cv value A l cap t0 t1 t2 t3 t4 t5 t6 false w (fun v w' => ∃ r, v = .iface 207 (.pointer (some ⟨r, 0, none⟩)) ∧ CellsAt w' r 211 #[.iface 264 (.pointer (some a2)), .int .i64 t0, .int .i64 t1, .int .i64 t2, .int .i64 t3, .int .i64 t4, .int .i64 t5, .int .i64 t6, .bool false, .int .i64 ct, .int .i64 cv] ∧ Below w.heap.size w w') hn hcap hA hx hct hcv (fun u hb => by rw [hy, hs]; exact (R u hb).mono (fun e w' ⟨r, he, hc, hb2⟩ => ⟨_, he, r, rfl, hc, hb.trans (hb2.mono hb.size)⟩))).mono (fun e w' ⟨v, he, r, hv, hc, hb⟩ => ⟨r, by rw [he, hv], hc, hb⟩)
theorem refused_caught (a0 a1 a2 a3 : Addr) (key x ct cv value : Int) (A : Option Addr) (l : List Int) (cap : Nat) (t0 t1 t2 t3 t4 t5 t6 : Int) (w : World) (hn : l.length ≤ 1048576) (hcap : l.length ≤ cap) (hA : Ints w .i64 w.heap.size A l) (hx : I64 x) (hct : I64 ct) (hcv : I64 cv) (he : Errs w a0 a1 a2 a3) (h : touchOk key l ⟨t0, t1, t2, t3, t4, t5, t6, false⟩ x ct cv value) (h1 : ¬ 100000 ≤ t0) (h2 : t0 < ct) :
    Calls Tryz.prog 155 #[.agg (pA key A l.length cap), .agg (tA t0 t1 t2 t3 t4 t5 t6 false), .int .i64 x, .agg (cA ct cv), .int .i64 value] w (RefQ w a3 t0 t1 t2 t3 t4 t5 t6 true ct cv) := by
  have R := fun (u : World) (hb : Below w.heap.size w u) => refd_caught a0 a1 a2 a3 ct cv t0 t1 t2 t3 t4 t5 t6  u (he.below hb) h2
  have hy := touchB_yes h
  have ht0 := h.2.1.2.2.1.2
  simp only [] at ht0
  have hs : (t0 == 100000) = false := by simp; omega
  exact (refusedTouch_on key x ct cv value A l cap t0 t1 t2 t3 t4 t5 t6 false w (fun v w' => ∃ r, v = .iface 207 (.pointer (some ⟨r, 0, none⟩)) ∧ CellsAt w' r 211 #[.iface 264 (.pointer (some a3)), .int .i64 t0, .int .i64 t1, .int .i64 t2, .int .i64 t3, .int .i64 t4, .int .i64 t5, .int .i64 t6, .bool true, .int .i64 ct, .int .i64 cv] ∧ Below w.heap.size w w') hn hcap hA hx hct hcv (fun u hb => by rw [hy, hs]; exact (R u hb).mono (fun e w' ⟨r, he, hc, hb2⟩ => ⟨_, he, r, rfl, hc, hb.trans (hb2.mono hb.size)⟩))).mono (fun e w' ⟨v, he, r, hv, hc, hb⟩ => ⟨r, by rw [he, hv], hc, hb⟩)
theorem refused_none (a0 a1 a2 a3 : Addr) (key x ct cv value : Int) (A : Option Addr) (l : List Int) (cap : Nat) (t0 t1 t2 t3 t4 t5 t6 : Int) (w : World) (hn : l.length ≤ 1048576) (hcap : l.length ≤ cap) (hA : Ints w .i64 w.heap.size A l) (hx : I64 x) (hct : I64 ct) (hcv : I64 cv) (he : Errs w a0 a1 a2 a3) (h : touchOk key l ⟨t0, t1, t2, t3, t4, t5, t6, false⟩ x ct cv value) (h1 : ¬ 100000 ≤ t0) (h2 : ¬ t0 < ct) :
    Calls Tryz.prog 155 #[.agg (pA key A l.length cap), .agg (tA t0 t1 t2 t3 t4 t5 t6 false), .int .i64 x, .agg (cA ct cv), .int .i64 value] w (fun e w' => e = .returned .nilIface ∧ Below w.heap.size w w') := by
  have R := fun (u : World) (hb : Below w.heap.size w u) => refd_none a0 a1 a2 a3 ct cv t0 t1 t2 t3 t4 t5 t6  u (he.below hb) h2
  have hy := touchB_yes h
  have ht0 := h.2.1.2.2.1.2
  simp only [] at ht0
  have hs : (t0 == 100000) = false := by simp; omega
  exact (refusedTouch_on key x ct cv value A l cap t0 t1 t2 t3 t4 t5 t6 false w (fun v w' => v = .nilIface ∧ Below w.heap.size w w') hn hcap hA hx hct hcv (fun u hb => by rw [hy, hs]; exact (R u hb).mono (fun e w' ⟨he, hb2⟩ => ⟨_, he, rfl, hb.trans (hb2.mono hb.size)⟩))).mono (fun e w' ⟨v, he, hv, hb⟩ => ⟨by rw [he, hv], hb⟩)
set_option maxRecDepth 20000 in
set_option maxHeartbeats 8000000 in
theorem touched_refused (a0 a1 a2 a3 a : Addr) (key x ct cv value : Int) (A : Option Addr) (l : List Int) (cap : Nat) (t0 t1 t2 t3 t4 t5 t6 : Int) (t7 : Bool) (s0 s1 s2 s3 s4 s5 s6 : Int) (s7 : Bool) (d1 d2 code : Int) (w : World) (he : Errs w a0 a1 a2 a3)
    (R : ∀ u, Below w.heap.size w u → Calls Tryz.prog 155 #[.agg (pA key A l.length cap), .agg (tA t0 t1 t2 t3 t4 t5 t6 t7), .int .i64 x, .agg (cA ct cv), .int .i64 value] u (RefQ u a s0 s1 s2 s3 s4 s5 s6 s7 d1 d2))
    (Q : ∀ u r, Errs u a0 a1 a2 a3 → CellsAt u r 211 #[.iface 264 (.pointer (some a)), .int .i64 s0, .int .i64 s1, .int .i64 s2, .int .i64 s3, .int .i64 s4, .int .i64 s5, .int .i64 s6, .bool s7, .int .i64 d1, .int .i64 d2] → Calls Tryz.prog 157 #[.iface 207 (.pointer (some ⟨r, 0, none⟩))] u fun e w' => e = .returned (.int .i64 code) ∧ u = w') :
    Calls Tryz.prog 97 #[.agg (pA key A l.length cap), .agg (tA t0 t1 t2 t3 t4 t5 t6 t7), .int .i64 x, .agg (cA ct cv), .int .i64 value] w fun e w' => e = .returned (.tuple #[.agg (tA s0 s1 s2 s3 s4 s5 s6 s7), .agg (cA d1 d2), .int .i64 0, .int .i64 code]) ∧ Below w.heap.size w w' := by
  have K0 := Lib.hid (show Kept w [(w.heap.size + 1 + 1 + 1 + 1, 112, zC), (w.heap.size + 1 + 1 + 1, 80, zT), (w.heap.size + 1 + 1, 112, (cA ct cv)), (w.heap.size + 1, 80, (tA t0 t1 t2 t3 t4 t5 t6 t7)), (w.heap.size, 26, (pA key A l.length cap))] _ from ((((((Kept.refl w).put1 _ _ (pA key A l.length cap) rfl).put1 _ _ (tA t0 t1 t2 t3 t4 t5 t6 t7) (by simp)).put1 _ _ (cA ct cv) (by simp)).put1 _ _ zT (by simp)).put1 _ _ zC (by simp)))
  have RC := Lib.hid (fun (u : World) (h : Kept w [(w.heap.size + 1 + 1 + 1 + 1, 112, zC), (w.heap.size + 1 + 1 + 1, 80, zT), (w.heap.size + 1 + 1, 112, (cA ct cv)), (w.heap.size + 1, 80, (tA t0 t1 t2 t3 t4 t5 t6 t7)), (w.heap.size, 26, (pA key A l.length cap))] u) => (show Calls Tryz.prog 155 #[.agg (pA key A l.length cap), .agg (tA t0 t1 t2 t3 t4 t5 t6 t7), .int .i64 x, .agg (cA ct cv), .int .i64 value] u (fun e w' => ∃ r, e = .returned (.iface 207 (.pointer (some ⟨r, 0, none⟩))) ∧ CellsAt w' r 211 #[.iface 264 (.pointer (some a)), .int .i64 s0, .int .i64 s1, .int .i64 s2, .int .i64 s3, .int .i64 s4, .int .i64 s5, .int .i64 s6, .bool s7, .int .i64 d1, .int .i64 d2] ∧ Kept w [(w.heap.size + 1 + 1 + 1 + 1, 112, zC), (w.heap.size + 1 + 1 + 1, 80, zT), (w.heap.size + 1 + 1, 112, (cA ct cv)), (w.heap.size + 1, 80, (tA t0 t1 t2 t3 t4 t5 t6 t7)), (w.heap.size, 26, (pA key A l.length cap))] w') from (R u h.1).mono fun e w' ⟨r, he, hc, hb⟩ => ⟨r, he, hc, h.below hb⟩))
  have LC := Lib.hid (fun (u : World) r (hb : Below w.heap.size w u) (hr : CellsAt u r 211 #[.iface 264 (.pointer (some a)), .int .i64 s0, .int .i64 s1, .int .i64 s2, .int .i64 s3, .int .i64 s4, .int .i64 s5, .int .i64 s6, .bool s7, .int .i64 d1, .int .i64 d2]) => leftBy_calls r a s0 s1 s2 s3 s4 s5 s6 s7 d1 d2 u (he.below hb).1 hr)
  have QC := Lib.hid (fun (u : World) r (hb : Below w.heap.size w u) (hr : CellsAt u r 211 #[.iface 264 (.pointer (some a)), .int .i64 s0, .int .i64 s1, .int .i64 s2, .int .i64 s3, .int .i64 s4, .int .i64 s5, .int .i64 s6, .bool s7, .int .i64 d1, .int .i64 d2]) => Q u r (he.below hb) hr)
  clear he R Q
  go_enter Tryz.func97, Tryz.ntmps97
  go_upto_region 1 with fail
  have k0 := K0.out
  clear K0
  generalize World.alloc (World.alloc _ _) _ = w0 at k0 ⊢
  obtain ⟨kc0, kf0, kc1, kf1, kc2, kf2, kc3, kf3, kc4, kf4, -⟩ := k0.rd
  go_wp2_with fail
  refine (RC.out _ k0).mono ?_; rintro e w1 ⟨r, rfl, hr1, k1⟩
  clear kc0 kf0 kc1 kf1 kc2 kf2 kc3 kf3 kc4 kf4 k0 RC
  go_wp2_with fail
  refine (LC.out _ r k1.1 hr1).mono ?_; rintro e w2 ⟨rfl, b2⟩
  have k2 := k1.below b2
  have hr2 := hr1.below b2 hr1.lt
  have lr := hr2.lt
  have m0 := k2.lt (x := (w.heap.size + 1 + 1 + 1 + 1, 112, zC)) (by simp)
  simp only [] at m0
  clear k1 hr1 b2 LC
  have k3 := (k2.put1 w2.heap.size 80 (tA s0 s1 s2 s3 s4 s5 s6 s7) rfl).put1 (w2.heap.size + 1) 112 (cA d1 d2) (by simp)
  have hr3 := (hr2.below (allocP w2 (.cells (tA s0 s1 s2 s3 s4 s5 s6 s7) 80)) lr).below (allocP _ (.cells (cA d1 d2) 112)) (by simp; omega)
  clear k2 hr2
  go_upto_region 4 with fail
  generalize World.alloc (World.alloc _ _) _ = w3 at k3 hr3 ⊢
  obtain ⟨kc0, kf0, kc1, kf1, kc2, kf2, kc3, kf3, -⟩ := k3.rd
  have K4 := Lib.hid k3
  have B4 := Lib.hid k3.drew.1
  have R4 := Lib.hid hr3.drew
  clear k3 hr3
  go_region_with (go_at_call 157; refine (QC.out _ r ?_ ?_).mono ?_; exact B4.out; exact R4.out; rintro e wx ⟨rfl, rfl⟩)
  all_goals
    go_wp2_with fail
    obtain ⟨w9, e9, ⟨m0_, m1_, m2_, m3_, m4_, m5_, m6_, m7_, m8_, m9_⟩, hb⟩ := touch_end (x0 := .int .i64 s0) (x1 := .int .i64 s1) (x2 := .int .i64 s2) (x3 := .int .i64 s3) (x4 := .int .i64 s4) (x5 := .int .i64 s5) (x6 := .int .i64 s6) (x7 := .bool s7) (y0 := .int .i64 d1) (y1 := .int .i64 d2) (K4.out.at_ (p := w.heap.size + 1 + 1 + 1) (t := 80) (cs := zT) (by simp)) (K4.out.at_ (p := w.heap.size + 1 + 1 + 1 + 1) (t := 112) (cs := zC) (by simp)) (by omega) K4.out.1 (by omega) (by omega)
    rw [e9]
    clear e9
    exact bodyPost_ret (v := (.tuple #[.agg (tA s0 s1 s2 s3 s4 s5 s6 s7), .agg (cA d1 d2), .int .i64 0, .int .i64 code])) (by simp [results, Tryz.results97, go_sem, m0_, m1_, m2_, m3_, m4_, m5_, m6_, m7_, m8_, m9_]) rfl ⟨rfl, hb.drew⟩
set_option maxRecDepth 20000 in
set_option maxHeartbeats 8000000 in
theorem touched_ok_rv (key x ct cv value : Int) (A : Option Addr) (l : List Int) (cap : Nat) (t0 t1 t2 t3 t4 t5 t6 : Int) (w : World) (hn : l.length ≤ 1048576) (hcap : l.length ≤ cap) (hA : Ints w .i64 w.heap.size A l) (hx : I64 x) (hct : I64 ct) (hcv : I64 cv) (hkey : I64 key) (hval : I64 value) (h0 : 0 ≤ t0) (h1 : t0 ≤ 100000)
    (hv : (value == -1) = false) (hbh : behindB key l t2 x = false)
    (R : ∀ u, Below w.heap.size w u → Calls Tryz.prog 155 #[.agg (pA key A l.length cap), .agg (tA t0 t1 t2 t3 t4 t5 t6 false), .int .i64 x, .agg (cA ct cv), .int .i64 value] u fun e w' => e = .returned .nilIface ∧ Below u.heap.size u w') :
    Calls Tryz.prog 97 #[.agg (pA key A l.length cap), .agg (tA t0 t1 t2 t3 t4 t5 t6 false), .int .i64 x, .agg (cA ct cv), .int .i64 value] w fun e w' => e = .returned (.tuple #[.agg (tA (t0 + 1) t1 t2 (addOf t3 (tagIn key x ct cv)) (addOf t4 (tagIn key x (cellOf key x (t0 + 1) value).1 (cellOf key x (t0 + 1) value).2)) t5 t6 false), .agg (cA ((cellOf key x (t0 + 1) value).1) ((cellOf key x (t0 + 1) value).2)), .int .i64 (valueIn key x ct cv), .int .i64 0]) ∧ Below w.heap.size w w' := by
  have K0 := Lib.hid (show Kept w [(w.heap.size + 1 + 1 + 1 + 1, 112, zC), (w.heap.size + 1 + 1 + 1, 80, zT), (w.heap.size + 1 + 1, 112, (cA ct cv)), (w.heap.size + 1, 80, (tA t0 t1 t2 t3 t4 t5 t6 false)), (w.heap.size, 26, (pA key A l.length cap))] _ from ((((((Kept.refl w).put1 _ _ (pA key A l.length cap) rfl).put1 _ _ (tA t0 t1 t2 t3 t4 t5 t6 false) (by simp)).put1 _ _ (cA ct cv) (by simp)).put1 _ _ zT (by simp)).put1 _ _ zC (by simp)))
  have RC := Lib.hid (fun (u : World) (h : Kept w [(w.heap.size + 1 + 1 + 1 + 1, 112, zC), (w.heap.size + 1 + 1 + 1, 80, zT), (w.heap.size + 1 + 1, 112, (cA ct cv)), (w.heap.size + 1, 80, (tA t0 t1 t2 t3 t4 t5 t6 false)), (w.heap.size, 26, (pA key A l.length cap))] u) => (R u h.1).mono (fun e w' ⟨he, hb⟩ => (⟨he, h.below hb⟩ : _ ∧ Kept w [(w.heap.size + 1 + 1 + 1 + 1, 112, zC), (w.heap.size + 1 + 1 + 1, 80, zT), (w.heap.size + 1 + 1, 112, (cA ct cv)), (w.heap.size + 1, 80, (tA t0 t1 t2 t3 t4 t5 t6 false)), (w.heap.size, 26, (pA key A l.length cap))] w')))
  have BC0 := fun (u : World) (h : Kept w [(w.heap.size + 1 + 1 + 1 + 1, 112, zC), (w.heap.size + 1 + 1 + 1, 80, zT), (w.heap.size + 1 + 1, 112, (cA ct cv)), (w.heap.size + 1, 80, (tA t0 t1 t2 t3 t4 t5 t6 false)), (w.heap.size, 26, (pA key A l.length cap))] u) => (implBehind_calls key x A l cap t0 t1 t2 t3 t4 t5 t6 false u (by unfold maxLen; omega) hcap ((hA.below h.1 (Nat.le_refl _)).more h.1.size) hx).mono (fun e w' ⟨he, hb⟩ => (⟨he, h.below hb⟩ : _ ∧ Kept w [(w.heap.size + 1 + 1 + 1 + 1, 112, zC), (w.heap.size + 1 + 1 + 1, 80, zT), (w.heap.size + 1 + 1, 112, (cA ct cv)), (w.heap.size + 1, 80, (tA t0 t1 t2 t3 t4 t5 t6 false)), (w.heap.size, 26, (pA key A l.length cap))] w'))
  rw [hbh] at BC0
  have BC := Lib.hid BC0
  have SC := Lib.hid (fun (u : World) (h : Kept w [(w.heap.size + 1 + 1 + 1 + 1, 112, zC), (w.heap.size + 1 + 1 + 1, 80, zT), (w.heap.size + 1 + 1, 112, (cA ct cv)), (w.heap.size + 1, 80, (tA t0 t1 t2 t3 t4 t5 t6 false)), (w.heap.size, 26, (pA key A l.length cap))] u) => (sumsAt_calls (w.heap.size + 1) false u).mono (fun e w' ⟨he, hb⟩ => (⟨he, h.below hb⟩ : _ ∧ Kept w [(w.heap.size + 1 + 1 + 1 + 1, 112, zC), (w.heap.size + 1 + 1 + 1, 80, zT), (w.heap.size + 1 + 1, 112, (cA ct cv)), (w.heap.size + 1, 80, (tA t0 t1 t2 t3 t4 t5 t6 false)), (w.heap.size, 26, (pA key A l.length cap))] w')))
  have TC := Lib.hid (fun (u : World) (h : CellsAt u (w.heap.size + 1) 80 (tA t0 t1 t2 t3 t4 t5 t6 false)) => take_calls key x t3 ct cv (w.heap.size + 1) 3 (tA t0 t1 t2 t3 t4 t5 t6 false) u hkey hx hct hcv h rfl)
  generalize hz1 : addOf t3 (tagIn key x ct cv) = z1 at TC ⊢
  clear hz1
  generalize hy : valueIn key x ct cv = y at TC hval ⊢
  clear hy
  have PC := Lib.hid (fun (u : World) (h : CellsAt u (w.heap.size + 1) 80 (tA t0 t1 t2 z1 t4 t5 t6 false)) => put_calls key x t0 t4 value (w.heap.size + 1) 4 (tA t0 t1 t2 z1 t4 t5 t6 false) u hkey hx h0 (by omega) hval h rfl rfl (by decide))
  generalize hz2 : addOf t4 (tagIn key x (cellOf key x (t0 + 1) value).1 (cellOf key x (t0 + 1) value).2) = z2 at PC ⊢
  clear hz2
  generalize (cellOf key x (t0 + 1) value).1 = x1 at PC ⊢
  generalize (cellOf key x (t0 + 1) value).2 = x2 at PC ⊢
  clear hn hcap hA hx hct hcv hkey hval h0 h1 BC0 R hbh
  go_enter Tryz.func97, Tryz.ntmps97
  go_upto_region 1 with fail
  have k0 := K0.out
  clear K0
  generalize World.alloc (World.alloc _ _) _ = w0 at k0 ⊢
  obtain ⟨kc0, kf0, kc1, kf1, kc2, kf2, kc3, kf3, kc4, kf4, -⟩ := k0.rd
  go_wp2_with fail
  refine (RC.out _ k0).mono ?_; rintro e w1 ⟨rfl, k1⟩
  clear kc0 kf0 kc1 kf1 kc2 kf2 kc3 kf3 kc4 kf4 k0 RC
  obtain ⟨kc0, kf0, kc1, kf1, kc2, kf2, kc3, kf3, kc4, kf4, -⟩ := k1.rd
  go_wp2_with fail
  refine (BC.out _ k1).mono ?_; rintro e w2 ⟨rfl, k2⟩
  clear kc0 kf0 kc1 kf1 kc2 kf2 kc3 kf3 kc4 kf4 k1 BC
  go_wp2_with fail
  refine (SC.out _ k2).mono ?_; rintro e w3 ⟨rfl, k3⟩
  clear k2 SC
  simp only [cond_false]
  obtain ⟨kc0, kf0, kc1, kf1, kc2, kf2, kc3, kf3, kc4, kf4, -⟩ := k3.rd
  go_wp2_with fail
  refine (TC.out _ (k3.at_ (by simp))).mono ?_; rintro e w4 ⟨rfl, hg4, hc4⟩
  have k4 : Kept w [(w.heap.size + 1 + 1 + 1 + 1, 112, zC), (w.heap.size + 1 + 1 + 1, 80, zT), (w.heap.size + 1 + 1, 112, (cA ct cv)), (w.heap.size + 1, 80, (tA t0 t1 t2 z1 t4 t5 t6 false)), (w.heap.size, 26, (pA key A l.length cap))] _ := k3.put (k := 3) rfl (by unfold Apart; simp <;> omega) hg4 hc4
  clear kc0 kf0 kc1 kf1 kc2 kf2 kc3 kf3 kc4 kf4 k3 TC hg4 hc4
  obtain ⟨kc0, kf0, kc1, kf1, kc2, kf2, kc3, kf3, kc4, kf4, -⟩ := k4.rd
  go_wp2_with fail
  refine (PC.out _ (k4.at_ (by simp))).mono ?_; rintro e w7 ⟨rfl, hg7, hc7⟩
  have k7 : Kept w [(w.heap.size + 1 + 1 + 1 + 1, 112, zC), (w.heap.size + 1 + 1 + 1, 80, zT), (w.heap.size + 1 + 1, 112, (cA ct cv)), (w.heap.size + 1, 80, (tA (t0 + 1) t1 t2 z1 z2 t5 t6 false)), (w.heap.size, 26, (pA key A l.length cap))] _ := k4.put (k := 3) rfl (by unfold Apart; simp <;> omega) hg7 hc7
  clear kc0 kf0 kc1 kf1 kc2 kf2 kc3 kf3 kc4 kf4 k4 PC hg7 hc7
  have m0 := k7.lt (x := (w.heap.size + 1 + 1 + 1 + 1, 112, zC)) (by simp)
  simp only [] at m0
  have k8 := k7.put1 w7.heap.size 112 (cA x1 x2) rfl
  clear k7
  go_upto_region 10 with fail
  generalize World.alloc _ _ = w8 at k8 ⊢
  obtain ⟨kc0, kf0, kc1, kf1, kc2, kf2, kc3, kf3, kc4, kf4, kc5, kf5, -⟩ := k8.rd
  have K8 := Lib.hid k8
  clear k8
  go_region
  go_wp2_with fail
  obtain ⟨w9, e9, ⟨d0, d1, d2, d3, d4, d5, d6, d7, d8, d9⟩, hb⟩ := touch_end (x0 := .int .i64 (t0 + 1)) (x1 := .int .i64 t1) (x2 := .int .i64 t2) (x3 := .int .i64 z1) (x4 := .int .i64 z2) (x5 := .int .i64 t5) (x6 := .int .i64 t6) (x7 := .bool false) (y0 := .int .i64 x1) (y1 := .int .i64 x2) (K8.out.at_ (p := w.heap.size + 1 + 1 + 1) (t := 80) (cs := zT) (by simp)) (K8.out.at_ (p := w.heap.size + 1 + 1 + 1 + 1) (t := 112) (cs := zC) (by simp)) (by omega) K8.out.1 (by omega) (by omega)
  rw [e9]
  clear e9
  exact bodyPost_ret (v := (.tuple #[.agg (tA (t0 + 1) t1 t2 z1 z2 t5 t6 false), .agg (cA x1 x2), .int .i64 y, .int .i64 0])) (by simp [results, Tryz.results97, go_sem, d0, d1, d2, d3, d4, d5, d6, d7, d8, d9]) rfl ⟨rfl, hb.drew⟩
set_option maxRecDepth 20000 in
set_option maxHeartbeats 8000000 in
theorem touched_ok_rm (key x ct cv value : Int) (A : Option Addr) (l : List Int) (cap : Nat) (t0 t1 t2 t3 t4 t5 t6 : Int) (w : World) (hn : l.length ≤ 1048576) (hcap : l.length ≤ cap) (hA : Ints w .i64 w.heap.size A l) (hx : I64 x) (hct : I64 ct) (hcv : I64 cv) (hkey : I64 key) (hval : I64 (valueIn key x ct cv)) (h0 : 0 ≤ t0) (h1 : t0 ≤ 100000)
    (hv : (value == -1) = true) (hbh : behindB key l t2 x = false)
    (R : ∀ u, Below w.heap.size w u → Calls Tryz.prog 155 #[.agg (pA key A l.length cap), .agg (tA t0 t1 t2 t3 t4 t5 t6 false), .int .i64 x, .agg (cA ct cv), .int .i64 value] u fun e w' => e = .returned .nilIface ∧ Below u.heap.size u w') :
    Calls Tryz.prog 97 #[.agg (pA key A l.length cap), .agg (tA t0 t1 t2 t3 t4 t5 t6 false), .int .i64 x, .agg (cA ct cv), .int .i64 value] w fun e w' => e = .returned (.tuple #[.agg (tA (t0 + 1) t1 t2 (addOf t3 (tagIn key x ct cv)) (addOf t4 (tagIn key x (cellOf key x (t0 + 1) (valueIn key x ct cv)).1 (cellOf key x (t0 + 1) (valueIn key x ct cv)).2)) t5 t6 false), .agg (cA ((cellOf key x (t0 + 1) (valueIn key x ct cv)).1) ((cellOf key x (t0 + 1) (valueIn key x ct cv)).2)), .int .i64 (valueIn key x ct cv), .int .i64 0]) ∧ Below w.heap.size w w' := by
  have K0 := Lib.hid (show Kept w [(w.heap.size + 1 + 1 + 1 + 1, 112, zC), (w.heap.size + 1 + 1 + 1, 80, zT), (w.heap.size + 1 + 1, 112, (cA ct cv)), (w.heap.size + 1, 80, (tA t0 t1 t2 t3 t4 t5 t6 false)), (w.heap.size, 26, (pA key A l.length cap))] _ from ((((((Kept.refl w).put1 _ _ (pA key A l.length cap) rfl).put1 _ _ (tA t0 t1 t2 t3 t4 t5 t6 false) (by simp)).put1 _ _ (cA ct cv) (by simp)).put1 _ _ zT (by simp)).put1 _ _ zC (by simp)))
  have RC := Lib.hid (fun (u : World) (h : Kept w [(w.heap.size + 1 + 1 + 1 + 1, 112, zC), (w.heap.size + 1 + 1 + 1, 80, zT), (w.heap.size + 1 + 1, 112, (cA ct cv)), (w.heap.size + 1, 80, (tA t0 t1 t2 t3 t4 t5 t6 false)), (w.heap.size, 26, (pA key A l.length cap))] u) => (R u h.1).mono (fun e w' ⟨he, hb⟩ => (⟨he, h.below hb⟩ : _ ∧ Kept w [(w.heap.size + 1 + 1 + 1 + 1, 112, zC), (w.heap.size + 1 + 1 + 1, 80, zT), (w.heap.size + 1 + 1, 112, (cA ct cv)), (w.heap.size + 1, 80, (tA t0 t1 t2 t3 t4 t5 t6 false)), (w.heap.size, 26, (pA key A l.length cap))] w')))
  have BC0 := fun (u : World) (h : Kept w [(w.heap.size + 1 + 1 + 1 + 1, 112, zC), (w.heap.size + 1 + 1 + 1, 80, zT), (w.heap.size + 1 + 1, 112, (cA ct cv)), (w.heap.size + 1, 80, (tA t0 t1 t2 t3 t4 t5 t6 false)), (w.heap.size, 26, (pA key A l.length cap))] u) => (implBehind_calls key x A l cap t0 t1 t2 t3 t4 t5 t6 false u (by unfold maxLen; omega) hcap ((hA.below h.1 (Nat.le_refl _)).more h.1.size) hx).mono (fun e w' ⟨he, hb⟩ => (⟨he, h.below hb⟩ : _ ∧ Kept w [(w.heap.size + 1 + 1 + 1 + 1, 112, zC), (w.heap.size + 1 + 1 + 1, 80, zT), (w.heap.size + 1 + 1, 112, (cA ct cv)), (w.heap.size + 1, 80, (tA t0 t1 t2 t3 t4 t5 t6 false)), (w.heap.size, 26, (pA key A l.length cap))] w'))
  rw [hbh] at BC0
  have BC := Lib.hid BC0
  have SC := Lib.hid (fun (u : World) (h : Kept w [(w.heap.size + 1 + 1 + 1 + 1, 112, zC), (w.heap.size + 1 + 1 + 1, 80, zT), (w.heap.size + 1 + 1, 112, (cA ct cv)), (w.heap.size + 1, 80, (tA t0 t1 t2 t3 t4 t5 t6 false)), (w.heap.size, 26, (pA key A l.length cap))] u) => (sumsAt_calls (w.heap.size + 1) false u).mono (fun e w' ⟨he, hb⟩ => (⟨he, h.below hb⟩ : _ ∧ Kept w [(w.heap.size + 1 + 1 + 1 + 1, 112, zC), (w.heap.size + 1 + 1 + 1, 80, zT), (w.heap.size + 1 + 1, 112, (cA ct cv)), (w.heap.size + 1, 80, (tA t0 t1 t2 t3 t4 t5 t6 false)), (w.heap.size, 26, (pA key A l.length cap))] w')))
  have TC := Lib.hid (fun (u : World) (h : CellsAt u (w.heap.size + 1) 80 (tA t0 t1 t2 t3 t4 t5 t6 false)) => take_calls key x t3 ct cv (w.heap.size + 1) 3 (tA t0 t1 t2 t3 t4 t5 t6 false) u hkey hx hct hcv h rfl)
  generalize hz1 : addOf t3 (tagIn key x ct cv) = z1 at TC ⊢
  clear hz1
  generalize hy : valueIn key x ct cv = y at TC hval ⊢
  clear hy
  have PC := Lib.hid (fun (u : World) (h : CellsAt u (w.heap.size + 1) 80 (tA t0 t1 t2 z1 t4 t5 t6 false)) => put_calls key x t0 t4 y (w.heap.size + 1) 4 (tA t0 t1 t2 z1 t4 t5 t6 false) u hkey hx h0 (by omega) hval h rfl rfl (by decide))
  generalize hz2 : addOf t4 (tagIn key x (cellOf key x (t0 + 1) y).1 (cellOf key x (t0 + 1) y).2) = z2 at PC ⊢
  clear hz2
  generalize (cellOf key x (t0 + 1) y).1 = x1 at PC ⊢
  generalize (cellOf key x (t0 + 1) y).2 = x2 at PC ⊢
  clear hn hcap hA hx hct hcv hkey hval h0 h1 BC0 R hbh
  go_enter Tryz.func97, Tryz.ntmps97
  go_upto_region 1 with fail
  have k0 := K0.out
  clear K0
  generalize World.alloc (World.alloc _ _) _ = w0 at k0 ⊢
  obtain ⟨kc0, kf0, kc1, kf1, kc2, kf2, kc3, kf3, kc4, kf4, -⟩ := k0.rd
  go_wp2_with fail
  refine (RC.out _ k0).mono ?_; rintro e w1 ⟨rfl, k1⟩
  clear kc0 kf0 kc1 kf1 kc2 kf2 kc3 kf3 kc4 kf4 k0 RC
  obtain ⟨kc0, kf0, kc1, kf1, kc2, kf2, kc3, kf3, kc4, kf4, -⟩ := k1.rd
  go_wp2_with fail
  refine (BC.out _ k1).mono ?_; rintro e w2 ⟨rfl, k2⟩
  clear kc0 kf0 kc1 kf1 kc2 kf2 kc3 kf3 kc4 kf4 k1 BC
  go_wp2_with fail
  refine (SC.out _ k2).mono ?_; rintro e w3 ⟨rfl, k3⟩
  clear k2 SC
  simp only [cond_false]
  obtain ⟨kc0, kf0, kc1, kf1, kc2, kf2, kc3, kf3, kc4, kf4, -⟩ := k3.rd
  go_wp2_with fail
  refine (TC.out _ (k3.at_ (by simp))).mono ?_; rintro e w4 ⟨rfl, hg4, hc4⟩
  have k4 : Kept w [(w.heap.size + 1 + 1 + 1 + 1, 112, zC), (w.heap.size + 1 + 1 + 1, 80, zT), (w.heap.size + 1 + 1, 112, (cA ct cv)), (w.heap.size + 1, 80, (tA t0 t1 t2 z1 t4 t5 t6 false)), (w.heap.size, 26, (pA key A l.length cap))] _ := k3.put (k := 3) rfl (by unfold Apart; simp <;> omega) hg4 hc4
  clear kc0 kf0 kc1 kf1 kc2 kf2 kc3 kf3 kc4 kf4 k3 TC hg4 hc4
  obtain ⟨kc0, kf0, kc1, kf1, kc2, kf2, kc3, kf3, kc4, kf4, -⟩ := k4.rd
  go_wp2_with fail
  refine (PC.out _ (k4.at_ (by simp))).mono ?_; rintro e w7 ⟨rfl, hg7, hc7⟩
  have k7 : Kept w [(w.heap.size + 1 + 1 + 1 + 1, 112, zC), (w.heap.size + 1 + 1 + 1, 80, zT), (w.heap.size + 1 + 1, 112, (cA ct cv)), (w.heap.size + 1, 80, (tA (t0 + 1) t1 t2 z1 z2 t5 t6 false)), (w.heap.size, 26, (pA key A l.length cap))] _ := k4.put (k := 3) rfl (by unfold Apart; simp <;> omega) hg7 hc7
  clear kc0 kf0 kc1 kf1 kc2 kf2 kc3 kf3 kc4 kf4 k4 PC hg7 hc7
  have m0 := k7.lt (x := (w.heap.size + 1 + 1 + 1 + 1, 112, zC)) (by simp)
  simp only [] at m0
  have k8 := k7.put1 w7.heap.size 112 (cA x1 x2) rfl
  clear k7
  go_upto_region 10 with fail
  generalize World.alloc _ _ = w8 at k8 ⊢
  obtain ⟨kc0, kf0, kc1, kf1, kc2, kf2, kc3, kf3, kc4, kf4, kc5, kf5, -⟩ := k8.rd
  have K8 := Lib.hid k8
  clear k8
  go_region
  go_wp2_with fail
  obtain ⟨w9, e9, ⟨d0, d1, d2, d3, d4, d5, d6, d7, d8, d9⟩, hb⟩ := touch_end (x0 := .int .i64 (t0 + 1)) (x1 := .int .i64 t1) (x2 := .int .i64 t2) (x3 := .int .i64 z1) (x4 := .int .i64 z2) (x5 := .int .i64 t5) (x6 := .int .i64 t6) (x7 := .bool false) (y0 := .int .i64 x1) (y1 := .int .i64 x2) (K8.out.at_ (p := w.heap.size + 1 + 1 + 1) (t := 80) (cs := zT) (by simp)) (K8.out.at_ (p := w.heap.size + 1 + 1 + 1 + 1) (t := 112) (cs := zC) (by simp)) (by omega) K8.out.1 (by omega) (by omega)
  rw [e9]
  clear e9
  exact bodyPost_ret (v := (.tuple #[.agg (tA (t0 + 1) t1 t2 z1 z2 t5 t6 false), .agg (cA x1 x2), .int .i64 y, .int .i64 0])) (by simp [results, Tryz.results97, go_sem, d0, d1, d2, d3, d4, d5, d6, d7, d8, d9]) rfl ⟨rfl, hb.drew⟩
set_option maxRecDepth 20000 in
set_option maxHeartbeats 8000000 in
theorem touched_ok_nv (key x ct cv value : Int) (A : Option Addr) (l : List Int) (cap : Nat) (t0 t1 t2 t3 t4 t5 t6 : Int) (w : World) (hn : l.length ≤ 1048576) (hcap : l.length ≤ cap) (hA : Ints w .i64 w.heap.size A l) (hx : I64 x) (hct : I64 ct) (hcv : I64 cv) (hkey : I64 key) (hval : I64 value) (h0 : 0 ≤ t0) (h1 : t0 ≤ 100000)
    (hv : (value == -1) = false) (hbh : behindB key l t2 x = true)
    (R : ∀ u, Below w.heap.size w u → Calls Tryz.prog 155 #[.agg (pA key A l.length cap), .agg (tA t0 t1 t2 t3 t4 t5 t6 false), .int .i64 x, .agg (cA ct cv), .int .i64 value] u fun e w' => e = .returned .nilIface ∧ Below u.heap.size u w') :
    Calls Tryz.prog 97 #[.agg (pA key A l.length cap), .agg (tA t0 t1 t2 t3 t4 t5 t6 false), .int .i64 x, .agg (cA ct cv), .int .i64 value] w fun e w' => e = .returned (.tuple #[.agg (tA (t0 + 1) t1 t2 t3 t4 (addOf t5 (tagIn key x ct cv)) (addOf t6 (tagIn key x (cellOf key x (t0 + 1) value).1 (cellOf key x (t0 + 1) value).2)) false), .agg (cA ((cellOf key x (t0 + 1) value).1) ((cellOf key x (t0 + 1) value).2)), .int .i64 (valueIn key x ct cv), .int .i64 0]) ∧ Below w.heap.size w w' := by
  have K0 := Lib.hid (show Kept w [(w.heap.size + 1 + 1 + 1 + 1, 112, zC), (w.heap.size + 1 + 1 + 1, 80, zT), (w.heap.size + 1 + 1, 112, (cA ct cv)), (w.heap.size + 1, 80, (tA t0 t1 t2 t3 t4 t5 t6 false)), (w.heap.size, 26, (pA key A l.length cap))] _ from ((((((Kept.refl w).put1 _ _ (pA key A l.length cap) rfl).put1 _ _ (tA t0 t1 t2 t3 t4 t5 t6 false) (by simp)).put1 _ _ (cA ct cv) (by simp)).put1 _ _ zT (by simp)).put1 _ _ zC (by simp)))
  have RC := Lib.hid (fun (u : World) (h : Kept w [(w.heap.size + 1 + 1 + 1 + 1, 112, zC), (w.heap.size + 1 + 1 + 1, 80, zT), (w.heap.size + 1 + 1, 112, (cA ct cv)), (w.heap.size + 1, 80, (tA t0 t1 t2 t3 t4 t5 t6 false)), (w.heap.size, 26, (pA key A l.length cap))] u) => (R u h.1).mono (fun e w' ⟨he, hb⟩ => (⟨he, h.below hb⟩ : _ ∧ Kept w [(w.heap.size + 1 + 1 + 1 + 1, 112, zC), (w.heap.size + 1 + 1 + 1, 80, zT), (w.heap.size + 1 + 1, 112, (cA ct cv)), (w.heap.size + 1, 80, (tA t0 t1 t2 t3 t4 t5 t6 false)), (w.heap.size, 26, (pA key A l.length cap))] w')))
  have BC0 := fun (u : World) (h : Kept w [(w.heap.size + 1 + 1 + 1 + 1, 112, zC), (w.heap.size + 1 + 1 + 1, 80, zT), (w.heap.size + 1 + 1, 112, (cA ct cv)), (w.heap.size + 1, 80, (tA t0 t1 t2 t3 t4 t5 t6 false)), (w.heap.size, 26, (pA key A l.length cap))] u) => (implBehind_calls key x A l cap t0 t1 t2 t3 t4 t5 t6 false u (by unfold maxLen; omega) hcap ((hA.below h.1 (Nat.le_refl _)).more h.1.size) hx).mono (fun e w' ⟨he, hb⟩ => (⟨he, h.below hb⟩ : _ ∧ Kept w [(w.heap.size + 1 + 1 + 1 + 1, 112, zC), (w.heap.size + 1 + 1 + 1, 80, zT), (w.heap.size + 1 + 1, 112, (cA ct cv)), (w.heap.size + 1, 80, (tA t0 t1 t2 t3 t4 t5 t6 false)), (w.heap.size, 26, (pA key A l.length cap))] w'))
  rw [hbh] at BC0
  have BC := Lib.hid BC0
  have SC := Lib.hid (fun (u : World) (h : Kept w [(w.heap.size + 1 + 1 + 1 + 1, 112, zC), (w.heap.size + 1 + 1 + 1, 80, zT), (w.heap.size + 1 + 1, 112, (cA ct cv)), (w.heap.size + 1, 80, (tA t0 t1 t2 t3 t4 t5 t6 false)), (w.heap.size, 26, (pA key A l.length cap))] u) => (sumsAt_calls (w.heap.size + 1) true u).mono (fun e w' ⟨he, hb⟩ => (⟨he, h.below hb⟩ : _ ∧ Kept w [(w.heap.size + 1 + 1 + 1 + 1, 112, zC), (w.heap.size + 1 + 1 + 1, 80, zT), (w.heap.size + 1 + 1, 112, (cA ct cv)), (w.heap.size + 1, 80, (tA t0 t1 t2 t3 t4 t5 t6 false)), (w.heap.size, 26, (pA key A l.length cap))] w')))
  have TC := Lib.hid (fun (u : World) (h : CellsAt u (w.heap.size + 1) 80 (tA t0 t1 t2 t3 t4 t5 t6 false)) => take_calls key x t5 ct cv (w.heap.size + 1) 5 (tA t0 t1 t2 t3 t4 t5 t6 false) u hkey hx hct hcv h rfl)
  generalize hz1 : addOf t5 (tagIn key x ct cv) = z1 at TC ⊢
  clear hz1
  generalize hy : valueIn key x ct cv = y at TC hval ⊢
  clear hy
  have PC := Lib.hid (fun (u : World) (h : CellsAt u (w.heap.size + 1) 80 (tA t0 t1 t2 t3 t4 z1 t6 false)) => put_calls key x t0 t6 value (w.heap.size + 1) 6 (tA t0 t1 t2 t3 t4 z1 t6 false) u hkey hx h0 (by omega) hval h rfl rfl (by decide))
  generalize hz2 : addOf t6 (tagIn key x (cellOf key x (t0 + 1) value).1 (cellOf key x (t0 + 1) value).2) = z2 at PC ⊢
  clear hz2
  generalize (cellOf key x (t0 + 1) value).1 = x1 at PC ⊢
  generalize (cellOf key x (t0 + 1) value).2 = x2 at PC ⊢
  clear hn hcap hA hx hct hcv hkey hval h0 h1 BC0 R hbh
  go_enter Tryz.func97, Tryz.ntmps97
  go_upto_region 1 with fail
  have k0 := K0.out
  clear K0
  generalize World.alloc (World.alloc _ _) _ = w0 at k0 ⊢
  obtain ⟨kc0, kf0, kc1, kf1, kc2, kf2, kc3, kf3, kc4, kf4, -⟩ := k0.rd
  go_wp2_with fail
  refine (RC.out _ k0).mono ?_; rintro e w1 ⟨rfl, k1⟩
  clear kc0 kf0 kc1 kf1 kc2 kf2 kc3 kf3 kc4 kf4 k0 RC
  obtain ⟨kc0, kf0, kc1, kf1, kc2, kf2, kc3, kf3, kc4, kf4, -⟩ := k1.rd
  go_wp2_with fail
  refine (BC.out _ k1).mono ?_; rintro e w2 ⟨rfl, k2⟩
  clear kc0 kf0 kc1 kf1 kc2 kf2 kc3 kf3 kc4 kf4 k1 BC
  go_wp2_with fail
  refine (SC.out _ k2).mono ?_; rintro e w3 ⟨rfl, k3⟩
  clear k2 SC
  simp only [cond_true]
  obtain ⟨kc0, kf0, kc1, kf1, kc2, kf2, kc3, kf3, kc4, kf4, -⟩ := k3.rd
  go_wp2_with fail
  refine (TC.out _ (k3.at_ (by simp))).mono ?_; rintro e w4 ⟨rfl, hg4, hc4⟩
  have k4 : Kept w [(w.heap.size + 1 + 1 + 1 + 1, 112, zC), (w.heap.size + 1 + 1 + 1, 80, zT), (w.heap.size + 1 + 1, 112, (cA ct cv)), (w.heap.size + 1, 80, (tA t0 t1 t2 t3 t4 z1 t6 false)), (w.heap.size, 26, (pA key A l.length cap))] _ := k3.put (k := 3) rfl (by unfold Apart; simp <;> omega) hg4 hc4
  clear kc0 kf0 kc1 kf1 kc2 kf2 kc3 kf3 kc4 kf4 k3 TC hg4 hc4
  obtain ⟨kc0, kf0, kc1, kf1, kc2, kf2, kc3, kf3, kc4, kf4, -⟩ := k4.rd
  go_wp2_with fail
  refine (PC.out _ (k4.at_ (by simp))).mono ?_; rintro e w7 ⟨rfl, hg7, hc7⟩
  have k7 : Kept w [(w.heap.size + 1 + 1 + 1 + 1, 112, zC), (w.heap.size + 1 + 1 + 1, 80, zT), (w.heap.size + 1 + 1, 112, (cA ct cv)), (w.heap.size + 1, 80, (tA (t0 + 1) t1 t2 t3 t4 z1 z2 false)), (w.heap.size, 26, (pA key A l.length cap))] _ := k4.put (k := 3) rfl (by unfold Apart; simp <;> omega) hg7 hc7
  clear kc0 kf0 kc1 kf1 kc2 kf2 kc3 kf3 kc4 kf4 k4 PC hg7 hc7
  have m0 := k7.lt (x := (w.heap.size + 1 + 1 + 1 + 1, 112, zC)) (by simp)
  simp only [] at m0
  have k8 := k7.put1 w7.heap.size 112 (cA x1 x2) rfl
  clear k7
  go_upto_region 10 with fail
  generalize World.alloc _ _ = w8 at k8 ⊢
  obtain ⟨kc0, kf0, kc1, kf1, kc2, kf2, kc3, kf3, kc4, kf4, kc5, kf5, -⟩ := k8.rd
  have K8 := Lib.hid k8
  clear k8
  go_region
  go_wp2_with fail
  obtain ⟨w9, e9, ⟨d0, d1, d2, d3, d4, d5, d6, d7, d8, d9⟩, hb⟩ := touch_end (x0 := .int .i64 (t0 + 1)) (x1 := .int .i64 t1) (x2 := .int .i64 t2) (x3 := .int .i64 t3) (x4 := .int .i64 t4) (x5 := .int .i64 z1) (x6 := .int .i64 z2) (x7 := .bool false) (y0 := .int .i64 x1) (y1 := .int .i64 x2) (K8.out.at_ (p := w.heap.size + 1 + 1 + 1) (t := 80) (cs := zT) (by simp)) (K8.out.at_ (p := w.heap.size + 1 + 1 + 1 + 1) (t := 112) (cs := zC) (by simp)) (by omega) K8.out.1 (by omega) (by omega)
  rw [e9]
  clear e9
  exact bodyPost_ret (v := (.tuple #[.agg (tA (t0 + 1) t1 t2 t3 t4 z1 z2 false), .agg (cA x1 x2), .int .i64 y, .int .i64 0])) (by simp [results, Tryz.results97, go_sem, d0, d1, d2, d3, d4, d5, d6, d7, d8, d9]) rfl ⟨rfl, hb.drew⟩
set_option maxRecDepth 20000 in
set_option maxHeartbeats 8000000 in
theorem touched_ok_nm (key x ct cv value : Int) (A : Option Addr) (l : List Int) (cap : Nat) (t0 t1 t2 t3 t4 t5 t6 : Int) (w : World) (hn : l.length ≤ 1048576) (hcap : l.length ≤ cap) (hA : Ints w .i64 w.heap.size A l) (hx : I64 x) (hct : I64 ct) (hcv : I64 cv) (hkey : I64 key) (hval : I64 (valueIn key x ct cv)) (h0 : 0 ≤ t0) (h1 : t0 ≤ 100000)
    (hv : (value == -1) = true) (hbh : behindB key l t2 x = true)
    (R : ∀ u, Below w.heap.size w u → Calls Tryz.prog 155 #[.agg (pA key A l.length cap), .agg (tA t0 t1 t2 t3 t4 t5 t6 false), .int .i64 x, .agg (cA ct cv), .int .i64 value] u fun e w' => e = .returned .nilIface ∧ Below u.heap.size u w') :
    Calls Tryz.prog 97 #[.agg (pA key A l.length cap), .agg (tA t0 t1 t2 t3 t4 t5 t6 false), .int .i64 x, .agg (cA ct cv), .int .i64 value] w fun e w' => e = .returned (.tuple #[.agg (tA (t0 + 1) t1 t2 t3 t4 (addOf t5 (tagIn key x ct cv)) (addOf t6 (tagIn key x (cellOf key x (t0 + 1) (valueIn key x ct cv)).1 (cellOf key x (t0 + 1) (valueIn key x ct cv)).2)) false), .agg (cA ((cellOf key x (t0 + 1) (valueIn key x ct cv)).1) ((cellOf key x (t0 + 1) (valueIn key x ct cv)).2)), .int .i64 (valueIn key x ct cv), .int .i64 0]) ∧ Below w.heap.size w w' := by
  have K0 := Lib.hid (show Kept w [(w.heap.size + 1 + 1 + 1 + 1, 112, zC), (w.heap.size + 1 + 1 + 1, 80, zT), (w.heap.size + 1 + 1, 112, (cA ct cv)), (w.heap.size + 1, 80, (tA t0 t1 t2 t3 t4 t5 t6 false)), (w.heap.size, 26, (pA key A l.length cap))] _ from ((((((Kept.refl w).put1 _ _ (pA key A l.length cap) rfl).put1 _ _ (tA t0 t1 t2 t3 t4 t5 t6 false) (by simp)).put1 _ _ (cA ct cv) (by simp)).put1 _ _ zT (by simp)).put1 _ _ zC (by simp)))
  have RC := Lib.hid (fun (u : World) (h : Kept w [(w.heap.size + 1 + 1 + 1 + 1, 112, zC), (w.heap.size + 1 + 1 + 1, 80, zT), (w.heap.size + 1 + 1, 112, (cA ct cv)), (w.heap.size + 1, 80, (tA t0 t1 t2 t3 t4 t5 t6 false)), (w.heap.size, 26, (pA key A l.length cap))] u) => (R u h.1).mono (fun e w' ⟨he, hb⟩ => (⟨he, h.below hb⟩ : _ ∧ Kept w [(w.heap.size + 1 + 1 + 1 + 1, 112, zC), (w.heap.size + 1 + 1 + 1, 80, zT), (w.heap.size + 1 + 1, 112, (cA ct cv)), (w.heap.size + 1, 80, (tA t0 t1 t2 t3 t4 t5 t6 false)), (w.heap.size, 26, (pA key A l.length cap))] w')))
  have BC0 := fun (u : World) (h : Kept w [(w.heap.size + 1 + 1 + 1 + 1, 112, zC), (w.heap.size + 1 + 1 + 1, 80, zT), (w.heap.size + 1 + 1, 112, (cA ct cv)), (w.heap.size + 1, 80, (tA t0 t1 t2 t3 t4 t5 t6 false)), (w.heap.size, 26, (pA key A l.length cap))] u) => (implBehind_calls key x A l cap t0 t1 t2 t3 t4 t5 t6 false u (by unfold maxLen; omega) hcap ((hA.below h.1 (Nat.le_refl _)).more h.1.size) hx).mono (fun e w' ⟨he, hb⟩ => (⟨he, h.below hb⟩ : _ ∧ Kept w [(w.heap.size + 1 + 1 + 1 + 1, 112, zC), (w.heap.size + 1 + 1 + 1, 80, zT), (w.heap.size + 1 + 1, 112, (cA ct cv)), (w.heap.size + 1, 80, (tA t0 t1 t2 t3 t4 t5 t6 false)), (w.heap.size, 26, (pA key A l.length cap))] w'))
  rw [hbh] at BC0
  have BC := Lib.hid BC0
  have SC := Lib.hid (fun (u : World) (h : Kept w [(w.heap.size + 1 + 1 + 1 + 1, 112, zC), (w.heap.size + 1 + 1 + 1, 80, zT), (w.heap.size + 1 + 1, 112, (cA ct cv)), (w.heap.size + 1, 80, (tA t0 t1 t2 t3 t4 t5 t6 false)), (w.heap.size, 26, (pA key A l.length cap))] u) => (sumsAt_calls (w.heap.size + 1) true u).mono (fun e w' ⟨he, hb⟩ => (⟨he, h.below hb⟩ : _ ∧ Kept w [(w.heap.size + 1 + 1 + 1 + 1, 112, zC), (w.heap.size + 1 + 1 + 1, 80, zT), (w.heap.size + 1 + 1, 112, (cA ct cv)), (w.heap.size + 1, 80, (tA t0 t1 t2 t3 t4 t5 t6 false)), (w.heap.size, 26, (pA key A l.length cap))] w')))
  have TC := Lib.hid (fun (u : World) (h : CellsAt u (w.heap.size + 1) 80 (tA t0 t1 t2 t3 t4 t5 t6 false)) => take_calls key x t5 ct cv (w.heap.size + 1) 5 (tA t0 t1 t2 t3 t4 t5 t6 false) u hkey hx hct hcv h rfl)
  generalize hz1 : addOf t5 (tagIn key x ct cv) = z1 at TC ⊢
  clear hz1
  generalize hy : valueIn key x ct cv = y at TC hval ⊢
  clear hy
  have PC := Lib.hid (fun (u : World) (h : CellsAt u (w.heap.size + 1) 80 (tA t0 t1 t2 t3 t4 z1 t6 false)) => put_calls key x t0 t6 y (w.heap.size + 1) 6 (tA t0 t1 t2 t3 t4 z1 t6 false) u hkey hx h0 (by omega) hval h rfl rfl (by decide))
  generalize hz2 : addOf t6 (tagIn key x (cellOf key x (t0 + 1) y).1 (cellOf key x (t0 + 1) y).2) = z2 at PC ⊢
  clear hz2
  generalize (cellOf key x (t0 + 1) y).1 = x1 at PC ⊢
  generalize (cellOf key x (t0 + 1) y).2 = x2 at PC ⊢
  clear hn hcap hA hx hct hcv hkey hval h0 h1 BC0 R hbh
  go_enter Tryz.func97, Tryz.ntmps97
  go_upto_region 1 with fail
  have k0 := K0.out
  clear K0
  generalize World.alloc (World.alloc _ _) _ = w0 at k0 ⊢
  obtain ⟨kc0, kf0, kc1, kf1, kc2, kf2, kc3, kf3, kc4, kf4, -⟩ := k0.rd
  go_wp2_with fail
  refine (RC.out _ k0).mono ?_; rintro e w1 ⟨rfl, k1⟩
  clear kc0 kf0 kc1 kf1 kc2 kf2 kc3 kf3 kc4 kf4 k0 RC
  obtain ⟨kc0, kf0, kc1, kf1, kc2, kf2, kc3, kf3, kc4, kf4, -⟩ := k1.rd
  go_wp2_with fail
  refine (BC.out _ k1).mono ?_; rintro e w2 ⟨rfl, k2⟩
  clear kc0 kf0 kc1 kf1 kc2 kf2 kc3 kf3 kc4 kf4 k1 BC
  go_wp2_with fail
  refine (SC.out _ k2).mono ?_; rintro e w3 ⟨rfl, k3⟩
  clear k2 SC
  simp only [cond_true]
  obtain ⟨kc0, kf0, kc1, kf1, kc2, kf2, kc3, kf3, kc4, kf4, -⟩ := k3.rd
  go_wp2_with fail
  refine (TC.out _ (k3.at_ (by simp))).mono ?_; rintro e w4 ⟨rfl, hg4, hc4⟩
  have k4 : Kept w [(w.heap.size + 1 + 1 + 1 + 1, 112, zC), (w.heap.size + 1 + 1 + 1, 80, zT), (w.heap.size + 1 + 1, 112, (cA ct cv)), (w.heap.size + 1, 80, (tA t0 t1 t2 t3 t4 z1 t6 false)), (w.heap.size, 26, (pA key A l.length cap))] _ := k3.put (k := 3) rfl (by unfold Apart; simp <;> omega) hg4 hc4
  clear kc0 kf0 kc1 kf1 kc2 kf2 kc3 kf3 kc4 kf4 k3 TC hg4 hc4
  obtain ⟨kc0, kf0, kc1, kf1, kc2, kf2, kc3, kf3, kc4, kf4, -⟩ := k4.rd
  go_wp2_with fail
  refine (PC.out _ (k4.at_ (by simp))).mono ?_; rintro e w7 ⟨rfl, hg7, hc7⟩
  have k7 : Kept w [(w.heap.size + 1 + 1 + 1 + 1, 112, zC), (w.heap.size + 1 + 1 + 1, 80, zT), (w.heap.size + 1 + 1, 112, (cA ct cv)), (w.heap.size + 1, 80, (tA (t0 + 1) t1 t2 t3 t4 z1 z2 false)), (w.heap.size, 26, (pA key A l.length cap))] _ := k4.put (k := 3) rfl (by unfold Apart; simp <;> omega) hg7 hc7
  clear kc0 kf0 kc1 kf1 kc2 kf2 kc3 kf3 kc4 kf4 k4 PC hg7 hc7
  have m0 := k7.lt (x := (w.heap.size + 1 + 1 + 1 + 1, 112, zC)) (by simp)
  simp only [] at m0
  have k8 := k7.put1 w7.heap.size 112 (cA x1 x2) rfl
  clear k7
  go_upto_region 10 with fail
  generalize World.alloc _ _ = w8 at k8 ⊢
  obtain ⟨kc0, kf0, kc1, kf1, kc2, kf2, kc3, kf3, kc4, kf4, kc5, kf5, -⟩ := k8.rd
  have K8 := Lib.hid k8
  clear k8
  go_region
  go_wp2_with fail
  obtain ⟨w9, e9, ⟨d0, d1, d2, d3, d4, d5, d6, d7, d8, d9⟩, hb⟩ := touch_end (x0 := .int .i64 (t0 + 1)) (x1 := .int .i64 t1) (x2 := .int .i64 t2) (x3 := .int .i64 t3) (x4 := .int .i64 t4) (x5 := .int .i64 z1) (x6 := .int .i64 z2) (x7 := .bool false) (y0 := .int .i64 x1) (y1 := .int .i64 x2) (K8.out.at_ (p := w.heap.size + 1 + 1 + 1) (t := 80) (cs := zT) (by simp)) (K8.out.at_ (p := w.heap.size + 1 + 1 + 1 + 1) (t := 112) (cs := zC) (by simp)) (by omega) K8.out.1 (by omega) (by omega)
  rw [e9]
  clear e9
  exact bodyPost_ret (v := (.tuple #[.agg (tA (t0 + 1) t1 t2 t3 t4 z1 z2 false), .agg (cA x1 x2), .int .i64 y, .int .i64 0])) (by simp [results, Tryz.results97, go_sem, d0, d1, d2, d3, d4, d5, d6, d7, d8, d9]) rfl ⟨rfl, hb.drew⟩
theorem valueIn_i64 (key a t v : Int) : I64 (valueIn key a t v) := by
  unfold valueIn
  split
  · unfold shownOf
    have := turnOf_bd (streamOf key a t) (10007 - streamOf key a t) v
    unfold I64; omega
  · exact ⟨by decide, by decide⟩
theorem implTouched_calls (a0 a1 a2 a3 : Addr) (key x ct cv value : Int) (A : Option Addr) (l : List Int) (cap : Nat) (t0 t1 t2 t3 t4 t5 t6 : Int) (t7 : Bool) (w : World) (hn : l.length ≤ 1048576) (hcap : l.length ≤ cap) (hA : Ints w .i64 w.heap.size A l) (hx : I64 x) (hct : I64 ct) (hcv : I64 cv) (he : Errs w a0 a1 a2 a3) :
    Calls Tryz.prog 97 #[.agg (pA key A l.length cap), .agg (tA t0 t1 t2 t3 t4 t5 t6 t7), .int .i64 x, .agg (cA ct cv), .int .i64 value] w fun e w' => e = .returned (.tuple #[.agg (tR ((touched key l ⟨t0, t1, t2, t3, t4, t5, t6, t7⟩ x ct cv value).1)), .agg (cA ((touched key l ⟨t0, t1, t2, t3, t4, t5, t6, t7⟩ x ct cv value).2.1.1) ((touched key l ⟨t0, t1, t2, t3, t4, t5, t6, t7⟩ x ct cv value).2.1.2)), .int .i64 (touched key l ⟨t0, t1, t2, t3, t4, t5, t6, t7⟩ x ct cv value).2.2.1, .int .i64 (touched key l ⟨t0, t1, t2, t3, t4, t5, t6, t7⟩ x ct cv value).2.2.2]) ∧ Below w.heap.size w w' := by
  have IA := fun (u : World) (hb : Below w.heap.size w u) => (hA.below hb (Nat.le_refl _)).more hb.size
  unfold touched
  by_cases h : touchOk key l ⟨t0, t1, t2, t3, t4, t5, t6, t7⟩ x ct cv value
  · rw [if_pos h]
    cases t7 with
    | true =>
      rw [if_pos rfl]
      exact touched_refused a0 a1 a2 a3 a1 key x ct cv value A l cap t0 t1 t2 t3 t4 t5 t6 true t0 t1 t2 t3 t4 t5 t6 true ct cv 2 w he (fun u hb => refused_failed a0 a1 a2 a3 key x ct cv value A l cap t0 t1 t2 t3 t4 t5 t6 u hn hcap (IA u hb) hx hct hcv (he.below hb) h) (fun u r he hr => codeOf_1 r a0 a1 a2 a3 _ u he hr)
    | false =>
      rw [if_neg (by simp)]
      by_cases h1 : 100000 ≤ t0
      · rw [if_pos h1]
        exact touched_refused a0 a1 a2 a3 a2 key x ct cv value A l cap t0 t1 t2 t3 t4 t5 t6 false t0 t1 t2 t3 t4 t5 t6 false ct cv 3 w he (fun u hb => refused_spent a0 a1 a2 a3 key x ct cv value A l cap t0 t1 t2 t3 t4 t5 t6 u hn hcap (IA u hb) hx hct hcv (he.below hb) h h1) (fun u r he hr => codeOf_2 r a0 a1 a2 a3 _ u he hr)
      · rw [if_neg h1]
        by_cases h2 : t0 < ct
        · rw [if_pos h2]
          exact touched_refused a0 a1 a2 a3 a3 key x ct cv value A l cap t0 t1 t2 t3 t4 t5 t6 false t0 t1 t2 t3 t4 t5 t6 true ct cv 4 w he (fun u hb => refused_caught a0 a1 a2 a3 key x ct cv value A l cap t0 t1 t2 t3 t4 t5 t6 u hn hcap (IA u hb) hx hct hcv (he.below hb) h h1 h2) (fun u r he hr => codeOf_3 r a0 a1 a2 a3 _ u he hr)
        · rw [if_neg h2]
          have hk := h.2.1.1.1
          have hT := h.2.1.2.2.1
          have hV := h.2.2.2
          have hkey : I64 key := by unfold isKey at hk; exact ⟨by omega, by omega⟩
          have R := fun (u : World) (hb : Below w.heap.size w u) => refused_none a0 a1 a2 a3 key x ct cv value A l cap t0 t1 t2 t3 t4 t5 t6 u hn hcap (IA u hb) hx hct hcv (he.below hb) h h1 h2
          by_cases hm : value = -1
          · have hq : (value == -1) = true := by simpa using hm
            have hvi := valueIn_i64 key x ct cv
            simp only [if_pos hm]
            rcases hb : behindB key l t2 x with _ | _
            · exact touched_ok_rm key x ct cv value A l cap t0 t1 t2 t3 t4 t5 t6 w hn hcap hA hx hct hcv hkey hvi hT.1 hT.2 hq hb R
            · exact touched_ok_nm key x ct cv value A l cap t0 t1 t2 t3 t4 t5 t6 w hn hcap hA hx hct hcv hkey hvi hT.1 hT.2 hq hb R
          · have hq : (value == -1) = false := by simpa using hm
            have hvv : I64 value := by rcases hV with hV | hV <;> (unfold isVal at *; exact ⟨by omega, by omega⟩)
            simp only [if_neg hm]
            rcases hb : behindB key l t2 x with _ | _
            · exact touched_ok_rv key x ct cv value A l cap t0 t1 t2 t3 t4 t5 t6 w hn hcap hA hx hct hcv hkey hvv hT.1 hT.2 hq hb R
            · exact touched_ok_nv key x ct cv value A l cap t0 t1 t2 t3 t4 t5 t6 w hn hcap hA hx hct hcv hkey hvv hT.1 hT.2 hq hb R
  · rw [if_neg h]
    exact touched_refused a0 a1 a2 a3 a0 key x ct cv value A l cap t0 t1 t2 t3 t4 t5 t6 t7 0 0 0 0 0 0 0 false 0 0 1 w he (fun u hb => refused_bad a0 a1 a2 a3 key x ct cv value A l cap t0 t1 t2 t3 t4 t5 t6 t7 u hn hcap (IA u hb) hx hct hcv (he.below hb) h) (fun u r he hr => codeOf_0 r a0 a1 a2 a3 _ u he hr)
end Go.Proofs.YtgaecedhkbneaaaGreatDoor.Mx

import Derived.Test.YtgaecedhkbneaaaGreatDoorH14
namespace Go.Proofs.YtgaecedhkbneaaaGreatDoor.Mx
open Go.ChangeShapes Go.WideShapes Go.ChangeAt Go.RowKit
set_option linter.unusedVariables false
set_option maxRecDepth 20000 in
set_option maxHeartbeats 8000000 in
theorem specScanned_on (key ct cv : Int) (r : Nat) (A : Option Addr) (l : List Int) (cap : Nat) (t0 t1 t2 t3 t4 t5 t6 : Int) (w : World) (hn : l.length ≤ maxLen) (hcap : l.length ≤ cap) (hA : Ints w .i64 w.heap.size A l) (ht : trustOk key l r ⟨t0, t1, t2, t3, t4, t5, t6, false⟩) (hc : isCell ct cv) (h0 : ¬ 100000 ≤ t0) (h1 : ¬ 1000 ≤ t1) (hct : ¬ t0 < ct) (hcu : t2 + 1 < l.getD r 0) :
    Calls Tryz.prog 105 #[.agg (pA key A l.length cap), .int .i64 r, .agg (tA t0 t1 t2 t3 t4 t5 t6 false), .agg (cA ct cv)] w fun e w' => e = .returned (.tuple #[.agg (tR (scanMid key l r ⟨t0, t1, t2, t3, t4, t5, t6, false⟩ ct cv)), .agg (cA ((cellOf key (firstOf key l r + t2) (t0 + 1) (valueIn key (firstOf key l r + t2) ct cv)).1) ((cellOf key (firstOf key l r + t2) (t0 + 1) (valueIn key (firstOf key l r + t2) ct cv)).2)), .int .i64 0]) ∧ Below w.heap.size w w' := by
  have K0 := Lib.hid (show Kept w [(w.heap.size + 1 + 1 + 1 + 1, 112, zC), (w.heap.size + 1 + 1 + 1, 80, zT), (w.heap.size + 1 + 1, 112, (cA ct cv)), (w.heap.size + 1, 80, (tA t0 t1 t2 t3 t4 t5 t6 false)), (w.heap.size, 26, (pA key A l.length cap))] _ from ((((((Kept.refl w).put1 _ _ (pA key A l.length cap) rfl).put1 _ _ (tA t0 t1 t2 t3 t4 t5 t6 false) (by simp)).put1 _ _ (cA ct cv) (by simp)).put1 _ _ zT (by simp)).put1 _ _ zC (by simp)))
  have FI := Lib.hid (fun (u : World) (hb : Below w.heap.size w u) => specFirst_calls key r A l cap u hn hcap ((hA.below hb (Nat.le_refl _)).more hb.size))
  have TO := Lib.hid (fun (u : World) (hb : Below w.heap.size w u) => specTrustOk_calls key r A l cap t0 t1 t2 t3 t4 t5 t6 false u hn ((hA.below hb (Nat.le_refl _)).more hb.size))
  have CO := Lib.hid (fun (u : World) => specCellOk_calls ct cv u)
  have hf : 0 ≤ firstOf key l r ∧ firstOf key l r ≤ 32 := by
    have hl : r < l.length := by have := ht.2.1; omega
    rw [firstOf_yes ht.1 hl]
    have h1 := upTo_bd ht.1.2.2.1 (show r ≤ l.length by omega)
    have h2 := ht.1.2.1.2
    omega
  have hd : decide (firstOf key l r < 0) = false := decide_eq_false (by omega)
  rw [trustB_yes ht] at TO
  rw [decide_eq_true hc] at CO
  have hl : r < l.length := by have := ht.2.1; omega
  have ht0 : 0 ≤ t0 ∧ t0 ≤ 100000 := ht.2.2.1
  have ht1 : 0 ≤ t1 := ht.2.2.2.1.1
  have hv8 := ht.1.2.2.1 r hl
  have ht2 : 0 ≤ t2 ∧ t2 ≤ 8 := by have := ht.2.2.2.2.1; simp at this; simp at hv8; omega
  obtain ⟨p0, p1⟩ := hf
  obtain ⟨p2, p3⟩ := ht0
  obtain ⟨p4, p5⟩ := ht2
  have hm := hn
  unfold maxLen at hm
  obtain ⟨bb, oo, rfl, hbb, hcc⟩ := hA r hl
  have b0 : decide (100000 ≤ t0) = false := decide_eq_false h0
  have b1 : decide (1000 ≤ t1) = false := decide_eq_false h1
  have b2 : decide (t0 < ct) = false := decide_eq_false hct
  obtain ⟨vv, hvv⟩ : ∃ v, v = l.getD r 0 := ⟨_, rfl⟩
  rw [← hvv] at hcc hcu hv8
  have VI := Lib.hid (fun u => specValueIn_calls key (firstOf key l r + t2) ct cv u)
  have CC := Lib.hid (fun u => specCellOf_calls key (firstOf key l r + t2) (t0 + 1) (valueIn key (firstOf key l r + t2) ct cv) u)
  have T1 := Lib.hid (fun u => specTripleIn_calls (firstOf key l r + t2) ct cv u)
  have T2 := Lib.hid (fun u => specTripleIn_calls (firstOf key l r + t2) (cellOf key (firstOf key l r + t2) (t0 + 1) (valueIn key (firstOf key l r + t2) ct cv)).1 (cellOf key (firstOf key l r + t2) (t0 + 1) (valueIn key (firstOf key l r + t2) ct cv)).2 u)
  have G1 := Lib.hid (fun u => specTag_calls key (tripleIn (firstOf key l r + t2) ct cv).1 (tripleIn (firstOf key l r + t2) ct cv).2.1 (tripleIn (firstOf key l r + t2) ct cv).2.2 u)
  have G2 := Lib.hid (fun u => specTag_calls key (tripleIn (firstOf key l r + t2) (cellOf key (firstOf key l r + t2) (t0 + 1) (valueIn key (firstOf key l r + t2) ct cv)).1 (cellOf key (firstOf key l r + t2) (t0 + 1) (valueIn key (firstOf key l r + t2) ct cv)).2).1 (tripleIn (firstOf key l r + t2) (cellOf key (firstOf key l r + t2) (t0 + 1) (valueIn key (firstOf key l r + t2) ct cv)).1 (cellOf key (firstOf key l r + t2) (t0 + 1) (valueIn key (firstOf key l r + t2) ct cv)).2).2.1 (tripleIn (firstOf key l r + t2) (cellOf key (firstOf key l r + t2) (t0 + 1) (valueIn key (firstOf key l r + t2) ct cv)).1 (cellOf key (firstOf key l r + t2) (t0 + 1) (valueIn key (firstOf key l r + t2) ct cv)).2).2.2 u)
  have A1 := Lib.hid (fun u => specAdd_calls t3 (tagOf key (tripleIn (firstOf key l r + t2) ct cv).1 (tripleIn (firstOf key l r + t2) ct cv).2.1 (tripleIn (firstOf key l r + t2) ct cv).2.2) u)
  have A2 := Lib.hid (fun u => specAdd_calls t6 (tagOf key (tripleIn (firstOf key l r + t2) (cellOf key (firstOf key l r + t2) (t0 + 1) (valueIn key (firstOf key l r + t2) ct cv)).1 (cellOf key (firstOf key l r + t2) (t0 + 1) (valueIn key (firstOf key l r + t2) ct cv)).2).1 (tripleIn (firstOf key l r + t2) (cellOf key (firstOf key l r + t2) (t0 + 1) (valueIn key (firstOf key l r + t2) ct cv)).1 (cellOf key (firstOf key l r + t2) (t0 + 1) (valueIn key (firstOf key l r + t2) ct cv)).2).2.1 (tripleIn (firstOf key l r + t2) (cellOf key (firstOf key l r + t2) (t0 + 1) (valueIn key (firstOf key l r + t2) ct cv)).1 (cellOf key (firstOf key l r + t2) (t0 + 1) (valueIn key (firstOf key l r + t2) ct cv)).2).2.2) u)
  unfold scanMid
  simp only []
  generalize addOf t6 _ = n6 at A2 ⊢
  generalize addOf t3 _ = n3 at A1 ⊢
  generalize tagOf key (tripleIn (firstOf key l r + t2) (cellOf key (firstOf key l r + t2) (t0 + 1) (valueIn key (firstOf key l r + t2) ct cv)).1 (cellOf key (firstOf key l r + t2) (t0 + 1) (valueIn key (firstOf key l r + t2) ct cv)).2).1 (tripleIn (firstOf key l r + t2) (cellOf key (firstOf key l r + t2) (t0 + 1) (valueIn key (firstOf key l r + t2) ct cv)).1 (cellOf key (firstOf key l r + t2) (t0 + 1) (valueIn key (firstOf key l r + t2) ct cv)).2).2.1 (tripleIn (firstOf key l r + t2) (cellOf key (firstOf key l r + t2) (t0 + 1) (valueIn key (firstOf key l r + t2) ct cv)).1 (cellOf key (firstOf key l r + t2) (t0 + 1) (valueIn key (firstOf key l r + t2) ct cv)).2).2.2 = g2 at G2 A2
  generalize tagOf key (tripleIn (firstOf key l r + t2) ct cv).1 (tripleIn (firstOf key l r + t2) ct cv).2.1 (tripleIn (firstOf key l r + t2) ct cv).2.2 = g1 at G1 A1
  generalize tripleIn (firstOf key l r + t2) (cellOf key (firstOf key l r + t2) (t0 + 1) (valueIn key (firstOf key l r + t2) ct cv)).1 (cellOf key (firstOf key l r + t2) (t0 + 1) (valueIn key (firstOf key l r + t2) ct cv)).2 = q2 at T2 G2
  generalize tripleIn (firstOf key l r + t2) ct cv = q1 at T1 G1
  obtain ⟨q11, q12, q13⟩ := q1
  obtain ⟨q21, q22, q23⟩ := q2
  generalize (cellOf key (firstOf key l r + t2) (t0 + 1) (valueIn key (firstOf key l r + t2) ct cv)) = cn at CC T2 ⊢
  obtain ⟨c1, c2⟩ := cn
  generalize valueIn key (firstOf key l r + t2) ct cv = vl at VI CC
  simp only at CC T1 T2 G1 G2 ⊢
  clear ht hc hA hn h0 h1 hct hvv
  generalize firstOf key l r = f at FI hd p0 p1 VI CC T1 T2
  have b3 : decide (t2 + 1 < vv) = true := decide_eq_true hcu
  go_enter Tryz.func105, Tryz.ntmps105
  go_wp2_with fail
  refine (FI.out _ K0.out.1).mono ?_; rintro e uz1 ⟨rfl, bz2⟩
  have hz3 := K0.out.below bz2
  clear bz2
  obtain ⟨kc0, kf0, kc1, kf1, kc2, kf2, kc3, kf3, kc4, kf4, -⟩ := hz3.rd
  go_wp2_with fail
  refine (TO.out _ hz3.1).mono ?_; rintro e uz4 ⟨rfl, bz5⟩
  have hz6 := hz3.below bz5
  clear bz5 hz3 kc0 kf0 kc1 kf1 kc2 kf2 kc3 kf3 kc4 kf4
  obtain ⟨kc0, kf0, kc1, kf1, kc2, kf2, kc3, kf3, kc4, kf4, -⟩ := hz6.rd
  go_wp2_with fail
  refine (CO.out _).mono ?_; rintro e uz7 ⟨rfl, bz8⟩
  have hz9 := hz6.below bz8
  clear bz8 hz6 kc0 kf0 kc1 kf1 kc2 kf2 kc3 kf3 kc4 kf4
  obtain ⟨kc0, kf0, kc1, kf1, kc2, kf2, kc3, kf3, kc4, kf4, -⟩ := hz9.rd
  go_upto_region 13 with fail
  have hz10 : Kept w [(w.heap.size + 1 + 1 + 1 + 1, 112, zC), (w.heap.size + 1 + 1 + 1, 80, zT), (w.heap.size + 1 + 1, 112, (cA ct cv)), (w.heap.size + 1, 80, (tA (t0 + 1) t1 t2 t3 t4 t5 t6 false)), (w.heap.size, 26, (pA key (some ⟨bb, oo, none⟩) l.length cap))] _ := hz9.put (k := 3) rfl (by unfold Apart; simp <;> omega) (gb_set (gb_refl _ (some (w.heap.size + 1))) 0 (.int .i64 (t0 + 1))) ((hz9.at_ (p := w.heap.size + 1) (t := 80) (cs := (tA t0 t1 t2 t3 t4 t5 t6 false)) (by simp)).set_ 0 _)
  clear hz9 kc0 kf0 kc1 kf1 kc2 kf2 kc3 kf3 kc4 kf4
  generalize World.setCell _ _ _ = wq at hz10 ⊢
  obtain ⟨kc0, kf0, kc1, kf1, kc2, kf2, kc3, kf3, kc4, kf4, -⟩ := hz10.rd
  have lm0 : w.heap.size + 1 + 1 + 1 + 1 < wq.heap.size := hz10.lt (x := (w.heap.size + 1 + 1 + 1 + 1, 112, zC)) (by simp)
  have lm1 : w.heap.size + 1 + 1 + 1 < wq.heap.size := hz10.lt (x := (w.heap.size + 1 + 1 + 1, 80, zT)) (by simp)
  have lm2 : w.heap.size + 1 + 1 < wq.heap.size := hz10.lt (x := (w.heap.size + 1 + 1, 112, (cA ct cv))) (by simp)
  have lm3 : w.heap.size + 1 < wq.heap.size := hz10.lt (x := (w.heap.size + 1, 80, (tA (t0 + 1) t1 t2 t3 t4 t5 t6 false))) (by simp)
  have lm4 : w.heap.size < wq.heap.size := hz10.lt (x := (w.heap.size, 26, (pA key (some ⟨bb, oo, none⟩) l.length cap))) (by simp)
  have hst : ∀ x ∈ ([] : List Res), w.heap.size ≤ x.2.1 ∧ (∀ y ∈ ([(w.heap.size + 1 + 1 + 1 + 1, 112, zC), (w.heap.size + 1 + 1 + 1, 80, zT), (w.heap.size + 1 + 1, 112, (cA ct cv)), (w.heap.size + 1, 80, (tA (t0 + 1) t1 t2 t3 t4 t5 t6 false)), (w.heap.size, 26, (pA key (some ⟨bb, oo, none⟩) l.length cap))] : List Box), y.1 ≠ x.2.1) ∧ ∃ z, CellsAt wq x.2.1 x.2.2.1 z ∧ z.size = x.2.2.2.size := by
    intro y hy
    cases hy
  have hn0 : Kept w [(w.heap.size + 1 + 1 + 1 + 1, 112, zC), (w.heap.size + 1 + 1 + 1, 80, zT), (w.heap.size + 1 + 1, 112, (cA ct cv)), (w.heap.size + 1, 80, (tA (t0 + 1) t1 t2 t3 t4 t5 t6 false)), (w.heap.size, 26, (pA key (some ⟨bb, oo, none⟩) l.length cap))] _ := hz10.sub (by intro y hy; simp at hy ⊢; rcases hy with rfl | rfl | rfl | rfl | rfl <;> simp)
  have hm0 : ∀ γ, MadeC w (wq.heap.size) [(w.heap.size + 1 + 1 + 1 + 1, 112, zC), (w.heap.size + 1 + 1 + 1, 80, zT), (w.heap.size + 1 + 1, 112, (cA ct cv)), (w.heap.size + 1, 80, (tA (t0 + 1) t1 t2 t3 t4 t5 t6 false)), (w.heap.size, 26, (pA key (some ⟨bb, oo, none⟩) l.length cap))] [] [(11, 12, 112, (cA c1 c2))] (fun _ => false) γ _ := fun γ => MadeC.start (ResC.start hn0 hst) hn0.1.size (by simp) (by intro y hy; simp only [List.mem_cons, List.not_mem_nil, or_false] at hy; rcases hy with rfl | rfl | rfl | rfl | rfl <;> (simp only []; omega)) (by intro y hy; cases hy)
  refine wp_region_free [false, false, false, false, false, false, false, false, false, true, true, true, true] (ShM [(9, .int .i64 vl), (10, .agg (cA c1 c2))] [11]) (fun D γ u => MadeC w (wq.heap.size) [(w.heap.size + 1 + 1 + 1 + 1, 112, zC), (w.heap.size + 1 + 1 + 1, 80, zT), (w.heap.size + 1 + 1, 112, (cA ct cv)), (w.heap.size + 1, 80, (tA (t0 + 1) t1 t2 t3 t4 t5 t6 false)), (w.heap.size, 26, (pA key (some ⟨bb, oo, none⟩) l.length cap))] [] [(11, 12, 112, (cA c1 c2))] D γ u) (by kernel_rfl) (by kernel_rfl) (fun γ => by kernel_rfl) (fun D γ γ' w ha h => h.loc ha) (ShM.inh _ _) (fun γ => hm0 γ) (fun γ hγ => ?_)
  clear hst hn0 hm0
  have g9 : γ 9 = .int .i64 vl := hγ 9 rfl
  have g10 : γ 10 = .agg (cA c1 c2) := hγ 10 rfl
  have g12 : γ 12 = undef := hγ 12 rfl
  obtain ⟨gg, g11⟩ : ∃ g : Nat, γ 11 = .pointer (some ⟨g, 0, none⟩) := hγ 11 rfl
  clear hz10 kc0 kf0 kc1 kf1 kc2 kf2 kc3 kf3 kc4 kf4
  apply Exists.intro
  refine ⟨fun D => ?_, ?_, ?_⟩
  · simp only [hushL, cond_true, cond_false, Nat.reduceAdd, g9, g10, g12, g11]
    iterate 13 (first
      | go_big_quiet_skip
      | (go_big_quiet_want
         go_big_quiet_op
         first
           | go_big_quiet_on
           | (apply Exists.intro
              refine ⟨fun u hu => ?_, ?_⟩
              · first
                  | with_reducible rfl
                  | (obtain ⟨kc0, kf0, kc1, kf1, kc2, kf2, kc3, kf3, kc4, kf4, -⟩ := hu.1.1.rd; go_simp; first | done | with_reducible rfl)
              go_big_quiet_on)))
    exact wpQuiet_nil rfl
  · simp only [freeOk, Nat.reduceAdd]
    refine ⟨fun D u hD hd hu => ?_, fun D u hD hd hu => ?_, fun D u hD hd hu => ?_, fun D u hD hd hu => ?_, trivial⟩
    · exact steps_call ((VI.out u).mono fun e w' ⟨he, hb⟩ => ⟨_, he, rfl, hu.below hb 9 _ (by simp)⟩) rfl rfl rfl rfl (by kernel_rfl)
    · exact steps_call ((CC.out u).mono fun e w' ⟨he, hb⟩ => ⟨_, he, rfl, hu.below hb 10 _ (by simp)⟩) rfl rfl rfl rfl (by kernel_rfl)
    · exact steps_alloc (cs := zC) rfl (by kernel_rfl) ⟨⟨_, rfl⟩, hu.made (j := 12) (t := 112) (V := (cA c1 c2)) (by simp) (by simp) (by simp) hD (by decide) rfl⟩
    · have dk := hd { on := 11, ground := Ground.data } (by simp) rfl rfl
      obtain ⟨g0, e1, z, hz, hzs⟩ := hu.box (k := 11) (j := 12) (t := 112) (V := (cA c1 c2)) (by simp) dk
      obtain rfl : gg = g0 := by rw [g11] at e1; simpa using e1
      exact steps_store hz rfl rfl rfl (by kernel_rfl) hzs (by simp [Value.oneCell']) (fun w' hc hg => ⟨rfl, hu.filled (k := 11) (t := 112) (V := (cA c1 c2)) (by simp) dk (by simp) (by simp) (by decide) e1 hg hc _⟩)
  · intro D uf hD hu
    have hf := hu.done (by intro y hy; cases hy)
    obtain ⟨g0, e1, hge11, hgc11⟩ := hu.doneM (k := 11) (j := 12) (t := 112) (V := (cA c1 c2)) (by simp) (hD 11 (by simp) rfl) (hD 12 (by simp) rfl)
    obtain rfl : gg = g0 := by rw [g11] at e1; simpa using e1
    clear e1
    have hfz11 := hf.more (Nat.le_trans hu.2.1 hge11) hgc11
    clear hf hgc11
    clear hu hD
    obtain ⟨kc0, kf0, kc1, kf1, kc2, kf2, kc3, kf3, kc4, kf4, kc5, kf5, -⟩ := hfz11.rd
    go_upto_region 14 with fail
    refine wp_region_class_tail (C := fun u => Kept w [(gg, 112, (cA c1 c2)), (w.heap.size + 1 + 1 + 1 + 1, 112, zC), (w.heap.size + 1 + 1 + 1, 80, zT), (w.heap.size + 1 + 1, 112, (cA ct cv)), (w.heap.size + 1, 80, (tA (t0 + 1) t1 t2 t3 t4 t5 t6 false)), (w.heap.size, 26, (pA key (some ⟨bb, oo, none⟩) l.length cap))] u) 10 (by kernel_rfl) (by kernel_rfl) (hfz11).drew ?_
    clear hfz11 kc0 kf0 kc1 kf1 kc2 kf2 kc3 kf3 kc4 kf4 kc5 kf5
    simp only [List.take_succ_cons, List.take_zero, List.drop_succ_cons, List.drop_zero]
    iterate 10 (first
      | go_big_quiet_skip
      | (go_big_quiet_want
         go_big_quiet_op
         first
           | go_big_quiet_on
           | (apply Exists.intro
              refine ⟨fun u hu => ?_, ?_⟩
              · first
                  | with_reducible rfl
                  | (go_at_call 121; exact (T1.out u).mono fun e w' h => ⟨h.1, hu.below h.2⟩)
                  | (go_at_call 172; exact (G1.out u).mono fun e w' h => ⟨h.1, hu.below h.2⟩)
                  | (go_at_call 171; exact class_same hu (A1.out u))
                  | (obtain ⟨kc0, kf0, kc1, kf1, kc2, kf2, kc3, kf3, kc4, kf4, kc5, kf5, -⟩ := hu.rd; go_simp; first | done | with_reducible rfl)
              go_big_quiet_on)))
    refine wpQuiet_nil ?_
    intro uz12 hz13
    obtain ⟨kc0, kf0, kc1, kf1, kc2, kf2, kc3, kf3, kc4, kf4, kc5, kf5, -⟩ := hz13.rd
    go_upto_region 15 with fail
    have hz14 : Kept w [(gg, 112, (cA c1 c2)), (w.heap.size + 1 + 1 + 1 + 1, 112, zC), (w.heap.size + 1 + 1 + 1, 80, zT), (w.heap.size + 1 + 1, 112, (cA ct cv)), (w.heap.size + 1, 80, (tA (t0 + 1) t1 t2 n3 t4 t5 t6 false)), (w.heap.size, 26, (pA key (some ⟨bb, oo, none⟩) l.length cap))] _ := hz13.put (k := 4) rfl (by unfold Apart; simp <;> omega) (gb_set (gb_refl _ (some (w.heap.size + 1))) 3 (.int .i64 n3)) ((hz13.at_ (p := w.heap.size + 1) (t := 80) (cs := (tA (t0 + 1) t1 t2 t3 t4 t5 t6 false)) (by simp)).set_ 3 _)
    clear hz13 kc0 kf0 kc1 kf1 kc2 kf2 kc3 kf3 kc4 kf4 kc5 kf5
    generalize World.setCell _ _ _ = wa at hz14 ⊢
    obtain ⟨kc0, kf0, kc1, kf1, kc2, kf2, kc3, kf3, kc4, kf4, kc5, kf5, -⟩ := hz14.rd
    clear kc0 kf0 kc1 kf1 kc2 kf2 kc3 kf3 kc4 kf4 kc5 kf5
    refine wp_region_class_tail (C := fun u => Kept w [(gg, 112, (cA c1 c2)), (w.heap.size + 1 + 1 + 1 + 1, 112, zC), (w.heap.size + 1 + 1 + 1, 80, zT), (w.heap.size + 1 + 1, 112, (cA ct cv)), (w.heap.size + 1, 80, (tA (t0 + 1) t1 t2 n3 t4 t5 t6 false)), (w.heap.size, 26, (pA key (some ⟨bb, oo, none⟩) l.length cap))] u) 10 (by kernel_rfl) (by kernel_rfl) (hz14).drew ?_
    clear hz14
    simp only [List.take_succ_cons, List.take_zero, List.drop_succ_cons, List.drop_zero]
    iterate 10 (first
      | go_big_quiet_skip
      | (go_big_quiet_want
         go_big_quiet_op
         first
           | go_big_quiet_on
           | (apply Exists.intro
              refine ⟨fun u hu => ?_, ?_⟩
              · first
                  | with_reducible rfl
                  | (go_at_call 121; exact (T2.out u).mono fun e w' h => ⟨h.1, hu.below h.2⟩)
                  | (go_at_call 172; exact (G2.out u).mono fun e w' h => ⟨h.1, hu.below h.2⟩)
                  | (go_at_call 171; exact class_same hu (A2.out u))
                  | (obtain ⟨kc0, kf0, kc1, kf1, kc2, kf2, kc3, kf3, kc4, kf4, kc5, kf5, -⟩ := hu.rd; go_simp; first | done | with_reducible rfl)
              go_big_quiet_on)))
    refine wpQuiet_nil ?_
    intro uz15 hz16
    obtain ⟨kc0, kf0, kc1, kf1, kc2, kf2, kc3, kf3, kc4, kf4, kc5, kf5, -⟩ := hz16.rd
    go_upto_region 16 with fail
    have hz17 : Kept w [(gg, 112, (cA c1 c2)), (w.heap.size + 1 + 1 + 1 + 1, 112, zC), (w.heap.size + 1 + 1 + 1, 80, zT), (w.heap.size + 1 + 1, 112, (cA ct cv)), (w.heap.size + 1, 80, (tA (t0 + 1) t1 t2 n3 t4 t5 n6 false)), (w.heap.size, 26, (pA key (some ⟨bb, oo, none⟩) l.length cap))] _ := hz16.put (k := 4) rfl (by unfold Apart; simp <;> omega) (gb_set (gb_refl _ (some (w.heap.size + 1))) 6 (.int .i64 n6)) ((hz16.at_ (p := w.heap.size + 1) (t := 80) (cs := (tA (t0 + 1) t1 t2 n3 t4 t5 t6 false)) (by simp)).set_ 6 _)
    clear hz16 kc0 kf0 kc1 kf1 kc2 kf2 kc3 kf3 kc4 kf4 kc5 kf5
    generalize World.setCell _ _ _ = wb at hz17 ⊢
    obtain ⟨kc0, kf0, kc1, kf1, kc2, kf2, kc3, kf3, kc4, kf4, kc5, kf5, -⟩ := hz17.rd
    go_upto_region 17 with fail
    have hz18 : Kept w [(gg, 112, (cA c1 c2)), (w.heap.size + 1 + 1 + 1 + 1, 112, zC), (w.heap.size + 1 + 1 + 1, 80, zT), (w.heap.size + 1 + 1, 112, (cA ct cv)), (w.heap.size + 1, 80, (tA (t0 + 1) t1 (t2 + 1) n3 t4 t5 n6 false)), (w.heap.size, 26, (pA key (some ⟨bb, oo, none⟩) l.length cap))] _ := hz17.put (k := 4) rfl (by unfold Apart; simp <;> omega) (gb_set (gb_refl _ (some (w.heap.size + 1))) 2 (.int .i64 (t2 + 1))) ((hz17.at_ (p := w.heap.size + 1) (t := 80) (cs := (tA (t0 + 1) t1 t2 n3 t4 t5 n6 false)) (by simp)).set_ 2 _)
    clear hz17 kc0 kf0 kc1 kf1 kc2 kf2 kc3 kf3 kc4 kf4 kc5 kf5
    generalize World.setCell _ _ _ = wc at hz18 ⊢
    obtain ⟨kc0, kf0, kc1, kf1, kc2, kf2, kc3, kf3, kc4, kf4, kc5, kf5, -⟩ := hz18.rd
    have ci : wc.cell? ⟨bb, oo + r, none⟩ = some (.int .i64 vv) := (hz18.1.cell (p := ⟨bb, oo + r, none⟩) hbb).trans hcc
    go_quiet (fail)
    have hz19 := hz18.drewN nq
    clear ci hz18 kc0 kf0 kc1 kf1 kc2 kf2 kc3 kf3 kc4 kf4 kc5 kf5
    generalize World.drewN _ _ = wd at hz19 ⊢
    obtain ⟨kc0, kf0, kc1, kf1, kc2, kf2, kc3, kf3, kc4, kf4, kc5, kf5, -⟩ := hz19.rd
    go_upto_region 18 with fail
    have hst : ∀ x ∈ ([(2, w.heap.size + 1 + 1 + 1, 80, (tA (t0 + 1) t1 (t2 + 1) n3 t4 t5 n6 false)), (3, w.heap.size + 1 + 1 + 1 + 1, 112, (cA c1 c2))] : List Res), w.heap.size ≤ x.2.1 ∧ (∀ y ∈ ([(gg, 112, (cA c1 c2)), (w.heap.size + 1 + 1, 112, (cA ct cv)), (w.heap.size + 1, 80, (tA (t0 + 1) t1 (t2 + 1) n3 t4 t5 n6 false)), (w.heap.size, 26, (pA key (some ⟨bb, oo, none⟩) l.length cap))] : List Box), y.1 ≠ x.2.1) ∧ ∃ z, CellsAt wd x.2.1 x.2.2.1 z ∧ z.size = x.2.2.2.size := by
      intro y hy
      simp only [List.mem_cons, List.not_mem_nil, or_false] at hy
      rcases hy with rfl | rfl
      · exact ⟨by simp only [] <;> omega, by intro y hy; simp at hy; rcases hy with rfl | rfl | rfl | rfl <;> simp <;> omega, _, hz19.at_ (t := 80) (cs := zT) (by simp), rfl⟩
      · exact ⟨by simp only [] <;> omega, by intro y hy; simp at hy; rcases hy with rfl | rfl | rfl | rfl <;> simp <;> omega, _, hz19.at_ (t := 112) (cs := zC) (by simp), rfl⟩
    have hn0 : Kept w [(gg, 112, (cA c1 c2)), (w.heap.size + 1 + 1, 112, (cA ct cv)), (w.heap.size + 1, 80, (tA (t0 + 1) t1 (t2 + 1) n3 t4 t5 n6 false)), (w.heap.size, 26, (pA key (some ⟨bb, oo, none⟩) l.length cap))] _ := hz19.sub (by intro y hy; simp at hy ⊢; rcases hy with rfl | rfl | rfl | rfl <;> simp)
    refine wp_region_free [false, false, true, true, false] (ShV []) (fun D _ u => ResC w [(gg, 112, (cA c1 c2)), (w.heap.size + 1 + 1, 112, (cA ct cv)), (w.heap.size + 1, 80, (tA (t0 + 1) t1 (t2 + 1) n3 t4 t5 n6 false)), (w.heap.size, 26, (pA key (some ⟨bb, oo, none⟩) l.length cap))] [(2, w.heap.size + 1 + 1 + 1, 80, (tA (t0 + 1) t1 (t2 + 1) n3 t4 t5 n6 false)), (3, w.heap.size + 1 + 1 + 1 + 1, 112, (cA c1 c2))] D u) (by kernel_rfl) (by kernel_rfl) (fun γ => by kernel_rfl) (fun D γ γ' w _ h => h) (ShV.inh _) (fun γ => ResC.start hn0 hst) (fun γ hγ => ?_)
    clear hst hn0
    have g2 : γ 2 = undef := hγ 2 rfl
    have g3 : γ 3 = undef := hγ 3 rfl
    clear hz19 kc0 kf0 kc1 kf1 kc2 kf2 kc3 kf3 kc4 kf4 kc5 kf5
    apply Exists.intro
    refine ⟨fun D => ?_, ?_, ?_⟩
    · simp only [hushL, cond_true, cond_false, Nat.reduceAdd, g2, g3]
      iterate 5 (first
        | go_big_quiet_skip
        | (go_big_quiet_want
           go_big_quiet_op
           first
             | go_big_quiet_on
             | (apply Exists.intro
                refine ⟨fun u hu => ?_, ?_⟩
                · first
                    | with_reducible rfl
                    | (obtain ⟨kc0, kf0, kc1, kf1, kc2, kf2, kc3, kf3, -⟩ := hu.1.rd; go_simp; first | done | with_reducible rfl)
                go_big_quiet_on)))
      exact wpQuiet_nil rfl
    · simp only [freeOk, Nat.reduceAdd]
      refine ⟨fun D u hD hd hu => ?_, fun D u hD hd hu => ?_, trivial⟩
      · obtain ⟨z, hz, hzs⟩ := hu.at_ (k := 2) (p := w.heap.size + 1 + 1 + 1) (t := 80) (V := (tA (t0 + 1) t1 (t2 + 1) n3 t4 t5 n6 false)) (by simp)
        exact steps_store hz rfl rfl rfl (by kernel_rfl) hzs (by simp [Value.oneCell']) (fun w' hc hg => ⟨rfl, hu.stored (by simp) (by simp) hg hc⟩)
      · obtain ⟨z, hz, hzs⟩ := hu.at_ (k := 3) (p := w.heap.size + 1 + 1 + 1 + 1) (t := 112) (V := (cA c1 c2)) (by simp)
        exact steps_store hz rfl rfl rfl (by kernel_rfl) hzs (by simp [Value.oneCell']) (fun w' hc hg => ⟨rfl, hu.stored (by simp) (by simp) hg hc⟩)
    · intro D uf hD hu
      have hf := hu.done (by intro y hy; simp only [List.mem_cons, List.not_mem_nil, or_false] at hy; rcases hy with rfl | rfl; exact hD 2 (by simp) rfl; exact hD 3 (by simp) rfl)
      clear hu hD
      obtain ⟨kc0, kf0, kc1, kf1, kc2, kf2, kc3, kf3, kc4, kf4, kc5, kf5, -⟩ := hf.rd
      go_wp2_with fail
      exact bodyPost_ret (v := (.tuple #[.agg (tA (t0 + 1) t1 (t2 + 1) n3 t4 t5 n6 false), .agg (cA c1 c2), .int .i64 0])) (by simp [results, Tryz.results105, go_sem, kc0, kc1]) rfl ⟨rfl, hf.1⟩
set_option maxRecDepth 20000 in
set_option maxHeartbeats 8000000 in
theorem specScanned_end (key ct cv : Int) (r : Nat) (A : Option Addr) (l : List Int) (cap : Nat) (t0 t1 t2 t3 t4 t5 t6 : Int) (w : World) (hn : l.length ≤ maxLen) (hcap : l.length ≤ cap) (hA : Ints w .i64 w.heap.size A l) (ht : trustOk key l r ⟨t0, t1, t2, t3, t4, t5, t6, false⟩) (hc : isCell ct cv) (h0 : ¬ 100000 ≤ t0) (h1 : ¬ 1000 ≤ t1) (hct : ¬ t0 < ct) (hcu : ¬ t2 + 1 < l.getD r 0) :
    Calls Tryz.prog 105 #[.agg (pA key A l.length cap), .int .i64 r, .agg (tA t0 t1 t2 t3 t4 t5 t6 false), .agg (cA ct cv)] w fun e w' => e = .returned (.tuple #[.agg (tR ((verdictOf (scanMid key l r ⟨t0, t1, t2, t3, t4, t5, t6, false⟩ ct cv)).1)), .agg (cA ((cellOf key (firstOf key l r + t2) (t0 + 1) (valueIn key (firstOf key l r + t2) ct cv)).1) ((cellOf key (firstOf key l r + t2) (t0 + 1) (valueIn key (firstOf key l r + t2) ct cv)).2)), .int .i64 (verdictOf (scanMid key l r ⟨t0, t1, t2, t3, t4, t5, t6, false⟩ ct cv)).2]) ∧ Below w.heap.size w w' := by
  have K0 := Lib.hid (show Kept w [(w.heap.size + 1 + 1 + 1 + 1, 112, zC), (w.heap.size + 1 + 1 + 1, 80, zT), (w.heap.size + 1 + 1, 112, (cA ct cv)), (w.heap.size + 1, 80, (tA t0 t1 t2 t3 t4 t5 t6 false)), (w.heap.size, 26, (pA key A l.length cap))] _ from ((((((Kept.refl w).put1 _ _ (pA key A l.length cap) rfl).put1 _ _ (tA t0 t1 t2 t3 t4 t5 t6 false) (by simp)).put1 _ _ (cA ct cv) (by simp)).put1 _ _ zT (by simp)).put1 _ _ zC (by simp)))
  have FI := Lib.hid (fun (u : World) (hb : Below w.heap.size w u) => specFirst_calls key r A l cap u hn hcap ((hA.below hb (Nat.le_refl _)).more hb.size))
  have TO := Lib.hid (fun (u : World) (hb : Below w.heap.size w u) => specTrustOk_calls key r A l cap t0 t1 t2 t3 t4 t5 t6 false u hn ((hA.below hb (Nat.le_refl _)).more hb.size))
  have CO := Lib.hid (fun (u : World) => specCellOk_calls ct cv u)
  have hf : 0 ≤ firstOf key l r ∧ firstOf key l r ≤ 32 := by
    have hl : r < l.length := by have := ht.2.1; omega
    rw [firstOf_yes ht.1 hl]
    have h1 := upTo_bd ht.1.2.2.1 (show r ≤ l.length by omega)
    have h2 := ht.1.2.1.2
    omega
  have hd : decide (firstOf key l r < 0) = false := decide_eq_false (by omega)
  rw [trustB_yes ht] at TO
  rw [decide_eq_true hc] at CO
  have hl : r < l.length := by have := ht.2.1; omega
  have ht0 : 0 ≤ t0 ∧ t0 ≤ 100000 := ht.2.2.1
  have ht1 : 0 ≤ t1 := ht.2.2.2.1.1
  have hv8 := ht.1.2.2.1 r hl
  have ht2 : 0 ≤ t2 ∧ t2 ≤ 8 := by have := ht.2.2.2.2.1; simp at this; simp at hv8; omega
  obtain ⟨p0, p1⟩ := hf
  obtain ⟨p2, p3⟩ := ht0
  obtain ⟨p4, p5⟩ := ht2
  have hm := hn
  unfold maxLen at hm
  obtain ⟨bb, oo, rfl, hbb, hcc⟩ := hA r hl
  have b0 : decide (100000 ≤ t0) = false := decide_eq_false h0
  have b1 : decide (1000 ≤ t1) = false := decide_eq_false h1
  have b2 : decide (t0 < ct) = false := decide_eq_false hct
  obtain ⟨vv, hvv⟩ : ∃ v, v = l.getD r 0 := ⟨_, rfl⟩
  rw [← hvv] at hcc hcu hv8
  have VI := Lib.hid (fun u => specValueIn_calls key (firstOf key l r + t2) ct cv u)
  have CC := Lib.hid (fun u => specCellOf_calls key (firstOf key l r + t2) (t0 + 1) (valueIn key (firstOf key l r + t2) ct cv) u)
  have T1 := Lib.hid (fun u => specTripleIn_calls (firstOf key l r + t2) ct cv u)
  have T2 := Lib.hid (fun u => specTripleIn_calls (firstOf key l r + t2) (cellOf key (firstOf key l r + t2) (t0 + 1) (valueIn key (firstOf key l r + t2) ct cv)).1 (cellOf key (firstOf key l r + t2) (t0 + 1) (valueIn key (firstOf key l r + t2) ct cv)).2 u)
  have G1 := Lib.hid (fun u => specTag_calls key (tripleIn (firstOf key l r + t2) ct cv).1 (tripleIn (firstOf key l r + t2) ct cv).2.1 (tripleIn (firstOf key l r + t2) ct cv).2.2 u)
  have G2 := Lib.hid (fun u => specTag_calls key (tripleIn (firstOf key l r + t2) (cellOf key (firstOf key l r + t2) (t0 + 1) (valueIn key (firstOf key l r + t2) ct cv)).1 (cellOf key (firstOf key l r + t2) (t0 + 1) (valueIn key (firstOf key l r + t2) ct cv)).2).1 (tripleIn (firstOf key l r + t2) (cellOf key (firstOf key l r + t2) (t0 + 1) (valueIn key (firstOf key l r + t2) ct cv)).1 (cellOf key (firstOf key l r + t2) (t0 + 1) (valueIn key (firstOf key l r + t2) ct cv)).2).2.1 (tripleIn (firstOf key l r + t2) (cellOf key (firstOf key l r + t2) (t0 + 1) (valueIn key (firstOf key l r + t2) ct cv)).1 (cellOf key (firstOf key l r + t2) (t0 + 1) (valueIn key (firstOf key l r + t2) ct cv)).2).2.2 u)
  have A1 := Lib.hid (fun u => specAdd_calls t3 (tagOf key (tripleIn (firstOf key l r + t2) ct cv).1 (tripleIn (firstOf key l r + t2) ct cv).2.1 (tripleIn (firstOf key l r + t2) ct cv).2.2) u)
  have A2 := Lib.hid (fun u => specAdd_calls t6 (tagOf key (tripleIn (firstOf key l r + t2) (cellOf key (firstOf key l r + t2) (t0 + 1) (valueIn key (firstOf key l r + t2) ct cv)).1 (cellOf key (firstOf key l r + t2) (t0 + 1) (valueIn key (firstOf key l r + t2) ct cv)).2).1 (tripleIn (firstOf key l r + t2) (cellOf key (firstOf key l r + t2) (t0 + 1) (valueIn key (firstOf key l r + t2) ct cv)).1 (cellOf key (firstOf key l r + t2) (t0 + 1) (valueIn key (firstOf key l r + t2) ct cv)).2).2.1 (tripleIn (firstOf key l r + t2) (cellOf key (firstOf key l r + t2) (t0 + 1) (valueIn key (firstOf key l r + t2) ct cv)).1 (cellOf key (firstOf key l r + t2) (t0 + 1) (valueIn key (firstOf key l r + t2) ct cv)).2).2.2) u)
  have VE := Lib.hid (fun u => l9Verdict_calls (t0 + 1) t1 (t2 + 1) (scanMid key l r ⟨t0, t1, t2, t3, t4, t5, t6, false⟩ ct cv).read t4 t5 (scanMid key l r ⟨t0, t1, t2, t3, t4, t5, t6, false⟩ ct cv).nwritten false u ht1 (by omega))
  unfold scanMid at VE ⊢
  simp only [] at VE ⊢
  generalize addOf t6 _ = n6 at A2 VE ⊢
  generalize addOf t3 _ = n3 at A1 VE ⊢
  generalize tagOf key (tripleIn (firstOf key l r + t2) (cellOf key (firstOf key l r + t2) (t0 + 1) (valueIn key (firstOf key l r + t2) ct cv)).1 (cellOf key (firstOf key l r + t2) (t0 + 1) (valueIn key (firstOf key l r + t2) ct cv)).2).1 (tripleIn (firstOf key l r + t2) (cellOf key (firstOf key l r + t2) (t0 + 1) (valueIn key (firstOf key l r + t2) ct cv)).1 (cellOf key (firstOf key l r + t2) (t0 + 1) (valueIn key (firstOf key l r + t2) ct cv)).2).2.1 (tripleIn (firstOf key l r + t2) (cellOf key (firstOf key l r + t2) (t0 + 1) (valueIn key (firstOf key l r + t2) ct cv)).1 (cellOf key (firstOf key l r + t2) (t0 + 1) (valueIn key (firstOf key l r + t2) ct cv)).2).2.2 = g2 at G2 A2
  generalize tagOf key (tripleIn (firstOf key l r + t2) ct cv).1 (tripleIn (firstOf key l r + t2) ct cv).2.1 (tripleIn (firstOf key l r + t2) ct cv).2.2 = g1 at G1 A1
  generalize tripleIn (firstOf key l r + t2) (cellOf key (firstOf key l r + t2) (t0 + 1) (valueIn key (firstOf key l r + t2) ct cv)).1 (cellOf key (firstOf key l r + t2) (t0 + 1) (valueIn key (firstOf key l r + t2) ct cv)).2 = q2 at T2 G2
  generalize tripleIn (firstOf key l r + t2) ct cv = q1 at T1 G1
  obtain ⟨q11, q12, q13⟩ := q1
  obtain ⟨q21, q22, q23⟩ := q2
  generalize (cellOf key (firstOf key l r + t2) (t0 + 1) (valueIn key (firstOf key l r + t2) ct cv)) = cn at CC T2 ⊢
  obtain ⟨c1, c2⟩ := cn
  generalize valueIn key (firstOf key l r + t2) ct cv = vl at VI CC
  simp only at CC T1 T2 G1 G2 ⊢
  clear ht hc hA hn h0 h1 hct hvv
  generalize firstOf key l r = f at FI hd p0 p1 VI CC T1 T2
  generalize verdictOf ⟨t0 + 1, t1, t2 + 1, n3, t4, t5, n6, false⟩ = vd at VE ⊢
  obtain ⟨VT, vk⟩ := vd
  simp only at VE ⊢
  have b3 : decide (t2 + 1 < vv) = false := decide_eq_false hcu
  go_enter Tryz.func105, Tryz.ntmps105
  go_wp2_with fail
  refine (FI.out _ K0.out.1).mono ?_; rintro e uz1 ⟨rfl, bz2⟩
  have hz3 := K0.out.below bz2
  clear bz2
  obtain ⟨kc0, kf0, kc1, kf1, kc2, kf2, kc3, kf3, kc4, kf4, -⟩ := hz3.rd
  go_wp2_with fail
  refine (TO.out _ hz3.1).mono ?_; rintro e uz4 ⟨rfl, bz5⟩
  have hz6 := hz3.below bz5
  clear bz5 hz3 kc0 kf0 kc1 kf1 kc2 kf2 kc3 kf3 kc4 kf4
  obtain ⟨kc0, kf0, kc1, kf1, kc2, kf2, kc3, kf3, kc4, kf4, -⟩ := hz6.rd
  go_wp2_with fail
  refine (CO.out _).mono ?_; rintro e uz7 ⟨rfl, bz8⟩
  have hz9 := hz6.below bz8
  clear bz8 hz6 kc0 kf0 kc1 kf1 kc2 kf2 kc3 kf3 kc4 kf4
  obtain ⟨kc0, kf0, kc1, kf1, kc2, kf2, kc3, kf3, kc4, kf4, -⟩ := hz9.rd
  go_upto_region 13 with fail
  have hz10 : Kept w [(w.heap.size + 1 + 1 + 1 + 1, 112, zC), (w.heap.size + 1 + 1 + 1, 80, zT), (w.heap.size + 1 + 1, 112, (cA ct cv)), (w.heap.size + 1, 80, (tA (t0 + 1) t1 t2 t3 t4 t5 t6 false)), (w.heap.size, 26, (pA key (some ⟨bb, oo, none⟩) l.length cap))] _ := hz9.put (k := 3) rfl (by unfold Apart; simp <;> omega) (gb_set (gb_refl _ (some (w.heap.size + 1))) 0 (.int .i64 (t0 + 1))) ((hz9.at_ (p := w.heap.size + 1) (t := 80) (cs := (tA t0 t1 t2 t3 t4 t5 t6 false)) (by simp)).set_ 0 _)
  clear hz9 kc0 kf0 kc1 kf1 kc2 kf2 kc3 kf3 kc4 kf4
  generalize World.setCell _ _ _ = wq at hz10 ⊢
  obtain ⟨kc0, kf0, kc1, kf1, kc2, kf2, kc3, kf3, kc4, kf4, -⟩ := hz10.rd
  have lm0 : w.heap.size + 1 + 1 + 1 + 1 < wq.heap.size := hz10.lt (x := (w.heap.size + 1 + 1 + 1 + 1, 112, zC)) (by simp)
  have lm1 : w.heap.size + 1 + 1 + 1 < wq.heap.size := hz10.lt (x := (w.heap.size + 1 + 1 + 1, 80, zT)) (by simp)
  have lm2 : w.heap.size + 1 + 1 < wq.heap.size := hz10.lt (x := (w.heap.size + 1 + 1, 112, (cA ct cv))) (by simp)
  have lm3 : w.heap.size + 1 < wq.heap.size := hz10.lt (x := (w.heap.size + 1, 80, (tA (t0 + 1) t1 t2 t3 t4 t5 t6 false))) (by simp)
  have lm4 : w.heap.size < wq.heap.size := hz10.lt (x := (w.heap.size, 26, (pA key (some ⟨bb, oo, none⟩) l.length cap))) (by simp)
  have hst : ∀ x ∈ ([] : List Res), w.heap.size ≤ x.2.1 ∧ (∀ y ∈ ([(w.heap.size + 1 + 1 + 1 + 1, 112, zC), (w.heap.size + 1 + 1 + 1, 80, zT), (w.heap.size + 1 + 1, 112, (cA ct cv)), (w.heap.size + 1, 80, (tA (t0 + 1) t1 t2 t3 t4 t5 t6 false)), (w.heap.size, 26, (pA key (some ⟨bb, oo, none⟩) l.length cap))] : List Box), y.1 ≠ x.2.1) ∧ ∃ z, CellsAt wq x.2.1 x.2.2.1 z ∧ z.size = x.2.2.2.size := by
    intro y hy
    cases hy
  have hn0 : Kept w [(w.heap.size + 1 + 1 + 1 + 1, 112, zC), (w.heap.size + 1 + 1 + 1, 80, zT), (w.heap.size + 1 + 1, 112, (cA ct cv)), (w.heap.size + 1, 80, (tA (t0 + 1) t1 t2 t3 t4 t5 t6 false)), (w.heap.size, 26, (pA key (some ⟨bb, oo, none⟩) l.length cap))] _ := hz10.sub (by intro y hy; simp at hy ⊢; rcases hy with rfl | rfl | rfl | rfl | rfl <;> simp)
  have hm0 : ∀ γ, MadeC w (wq.heap.size) [(w.heap.size + 1 + 1 + 1 + 1, 112, zC), (w.heap.size + 1 + 1 + 1, 80, zT), (w.heap.size + 1 + 1, 112, (cA ct cv)), (w.heap.size + 1, 80, (tA (t0 + 1) t1 t2 t3 t4 t5 t6 false)), (w.heap.size, 26, (pA key (some ⟨bb, oo, none⟩) l.length cap))] [] [(11, 12, 112, (cA c1 c2))] (fun _ => false) γ _ := fun γ => MadeC.start (ResC.start hn0 hst) hn0.1.size (by simp) (by intro y hy; simp only [List.mem_cons, List.not_mem_nil, or_false] at hy; rcases hy with rfl | rfl | rfl | rfl | rfl <;> (simp only []; omega)) (by intro y hy; cases hy)
  refine wp_region_free [false, false, false, false, false, false, false, false, false, true, true, true, true] (ShM [(9, .int .i64 vl), (10, .agg (cA c1 c2))] [11]) (fun D γ u => MadeC w (wq.heap.size) [(w.heap.size + 1 + 1 + 1 + 1, 112, zC), (w.heap.size + 1 + 1 + 1, 80, zT), (w.heap.size + 1 + 1, 112, (cA ct cv)), (w.heap.size + 1, 80, (tA (t0 + 1) t1 t2 t3 t4 t5 t6 false)), (w.heap.size, 26, (pA key (some ⟨bb, oo, none⟩) l.length cap))] [] [(11, 12, 112, (cA c1 c2))] D γ u) (by kernel_rfl) (by kernel_rfl) (fun γ => by kernel_rfl) (fun D γ γ' w ha h => h.loc ha) (ShM.inh _ _) (fun γ => hm0 γ) (fun γ hγ => ?_)
  clear hst hn0 hm0
  have g9 : γ 9 = .int .i64 vl := hγ 9 rfl
  have g10 : γ 10 = .agg (cA c1 c2) := hγ 10 rfl
  have g12 : γ 12 = undef := hγ 12 rfl
  obtain ⟨gg, g11⟩ : ∃ g : Nat, γ 11 = .pointer (some ⟨g, 0, none⟩) := hγ 11 rfl
  clear hz10 kc0 kf0 kc1 kf1 kc2 kf2 kc3 kf3 kc4 kf4
  apply Exists.intro
  refine ⟨fun D => ?_, ?_, ?_⟩
  · simp only [hushL, cond_true, cond_false, Nat.reduceAdd, g9, g10, g12, g11]
    iterate 13 (first
      | go_big_quiet_skip
      | (go_big_quiet_want
         go_big_quiet_op
         first
           | go_big_quiet_on
           | (apply Exists.intro
              refine ⟨fun u hu => ?_, ?_⟩
              · first
                  | with_reducible rfl
                  | (obtain ⟨kc0, kf0, kc1, kf1, kc2, kf2, kc3, kf3, kc4, kf4, -⟩ := hu.1.1.rd; go_simp; first | done | with_reducible rfl)
              go_big_quiet_on)))
    exact wpQuiet_nil rfl
  · simp only [freeOk, Nat.reduceAdd]
    refine ⟨fun D u hD hd hu => ?_, fun D u hD hd hu => ?_, fun D u hD hd hu => ?_, fun D u hD hd hu => ?_, trivial⟩
    · exact steps_call ((VI.out u).mono fun e w' ⟨he, hb⟩ => ⟨_, he, rfl, hu.below hb 9 _ (by simp)⟩) rfl rfl rfl rfl (by kernel_rfl)
    · exact steps_call ((CC.out u).mono fun e w' ⟨he, hb⟩ => ⟨_, he, rfl, hu.below hb 10 _ (by simp)⟩) rfl rfl rfl rfl (by kernel_rfl)
    · exact steps_alloc (cs := zC) rfl (by kernel_rfl) ⟨⟨_, rfl⟩, hu.made (j := 12) (t := 112) (V := (cA c1 c2)) (by simp) (by simp) (by simp) hD (by decide) rfl⟩
    · have dk := hd { on := 11, ground := Ground.data } (by simp) rfl rfl
      obtain ⟨g0, e1, z, hz, hzs⟩ := hu.box (k := 11) (j := 12) (t := 112) (V := (cA c1 c2)) (by simp) dk
      obtain rfl : gg = g0 := by rw [g11] at e1; simpa using e1
      exact steps_store hz rfl rfl rfl (by kernel_rfl) hzs (by simp [Value.oneCell']) (fun w' hc hg => ⟨rfl, hu.filled (k := 11) (t := 112) (V := (cA c1 c2)) (by simp) dk (by simp) (by simp) (by decide) e1 hg hc _⟩)
  · intro D uf hD hu
    have hf := hu.done (by intro y hy; cases hy)
    obtain ⟨g0, e1, hge11, hgc11⟩ := hu.doneM (k := 11) (j := 12) (t := 112) (V := (cA c1 c2)) (by simp) (hD 11 (by simp) rfl) (hD 12 (by simp) rfl)
    obtain rfl : gg = g0 := by rw [g11] at e1; simpa using e1
    clear e1
    have hfz11 := hf.more (Nat.le_trans hu.2.1 hge11) hgc11
    clear hf hgc11
    clear hu hD
    obtain ⟨kc0, kf0, kc1, kf1, kc2, kf2, kc3, kf3, kc4, kf4, kc5, kf5, -⟩ := hfz11.rd
    go_upto_region 14 with fail
    refine wp_region_class_tail (C := fun u => Kept w [(gg, 112, (cA c1 c2)), (w.heap.size + 1 + 1 + 1 + 1, 112, zC), (w.heap.size + 1 + 1 + 1, 80, zT), (w.heap.size + 1 + 1, 112, (cA ct cv)), (w.heap.size + 1, 80, (tA (t0 + 1) t1 t2 t3 t4 t5 t6 false)), (w.heap.size, 26, (pA key (some ⟨bb, oo, none⟩) l.length cap))] u) 10 (by kernel_rfl) (by kernel_rfl) (hfz11).drew ?_
    clear hfz11 kc0 kf0 kc1 kf1 kc2 kf2 kc3 kf3 kc4 kf4 kc5 kf5
    simp only [List.take_succ_cons, List.take_zero, List.drop_succ_cons, List.drop_zero]
    iterate 10 (first
      | go_big_quiet_skip
      | (go_big_quiet_want
         go_big_quiet_op
         first
           | go_big_quiet_on
           | (apply Exists.intro
              refine ⟨fun u hu => ?_, ?_⟩
              · first
                  | with_reducible rfl
                  | (go_at_call 121; exact (T1.out u).mono fun e w' h => ⟨h.1, hu.below h.2⟩)
                  | (go_at_call 172; exact (G1.out u).mono fun e w' h => ⟨h.1, hu.below h.2⟩)
                  | (go_at_call 171; exact class_same hu (A1.out u))
                  | (obtain ⟨kc0, kf0, kc1, kf1, kc2, kf2, kc3, kf3, kc4, kf4, kc5, kf5, -⟩ := hu.rd; go_simp; first | done | with_reducible rfl)
              go_big_quiet_on)))
    refine wpQuiet_nil ?_
    intro uz12 hz13
    obtain ⟨kc0, kf0, kc1, kf1, kc2, kf2, kc3, kf3, kc4, kf4, kc5, kf5, -⟩ := hz13.rd
    go_upto_region 15 with fail
    have hz14 : Kept w [(gg, 112, (cA c1 c2)), (w.heap.size + 1 + 1 + 1 + 1, 112, zC), (w.heap.size + 1 + 1 + 1, 80, zT), (w.heap.size + 1 + 1, 112, (cA ct cv)), (w.heap.size + 1, 80, (tA (t0 + 1) t1 t2 n3 t4 t5 t6 false)), (w.heap.size, 26, (pA key (some ⟨bb, oo, none⟩) l.length cap))] _ := hz13.put (k := 4) rfl (by unfold Apart; simp <;> omega) (gb_set (gb_refl _ (some (w.heap.size + 1))) 3 (.int .i64 n3)) ((hz13.at_ (p := w.heap.size + 1) (t := 80) (cs := (tA (t0 + 1) t1 t2 t3 t4 t5 t6 false)) (by simp)).set_ 3 _)
    clear hz13 kc0 kf0 kc1 kf1 kc2 kf2 kc3 kf3 kc4 kf4 kc5 kf5
    generalize World.setCell _ _ _ = wa at hz14 ⊢
    obtain ⟨kc0, kf0, kc1, kf1, kc2, kf2, kc3, kf3, kc4, kf4, kc5, kf5, -⟩ := hz14.rd
    clear kc0 kf0 kc1 kf1 kc2 kf2 kc3 kf3 kc4 kf4 kc5 kf5
    refine wp_region_class_tail (C := fun u => Kept w [(gg, 112, (cA c1 c2)), (w.heap.size + 1 + 1 + 1 + 1, 112, zC), (w.heap.size + 1 + 1 + 1, 80, zT), (w.heap.size + 1 + 1, 112, (cA ct cv)), (w.heap.size + 1, 80, (tA (t0 + 1) t1 t2 n3 t4 t5 t6 false)), (w.heap.size, 26, (pA key (some ⟨bb, oo, none⟩) l.length cap))] u) 10 (by kernel_rfl) (by kernel_rfl) (hz14).drew ?_
    clear hz14
    simp only [List.take_succ_cons, List.take_zero, List.drop_succ_cons, List.drop_zero]
    iterate 10 (first
      | go_big_quiet_skip
      | (go_big_quiet_want
         go_big_quiet_op
         first
           | go_big_quiet_on
           | (apply Exists.intro
              refine ⟨fun u hu => ?_, ?_⟩
              · first
                  | with_reducible rfl
                  | (go_at_call 121; exact (T2.out u).mono fun e w' h => ⟨h.1, hu.below h.2⟩)
                  | (go_at_call 172; exact (G2.out u).mono fun e w' h => ⟨h.1, hu.below h.2⟩)
                  | (go_at_call 171; exact class_same hu (A2.out u))
                  | (obtain ⟨kc0, kf0, kc1, kf1, kc2, kf2, kc3, kf3, kc4, kf4, kc5, kf5, -⟩ := hu.rd; go_simp; first | done | with_reducible rfl)
              go_big_quiet_on)))
    refine wpQuiet_nil ?_
    intro uz15 hz16
    obtain ⟨kc0, kf0, kc1, kf1, kc2, kf2, kc3, kf3, kc4, kf4, kc5, kf5, -⟩ := hz16.rd
    go_upto_region 16 with fail
    have hz17 : Kept w [(gg, 112, (cA c1 c2)), (w.heap.size + 1 + 1 + 1 + 1, 112, zC), (w.heap.size + 1 + 1 + 1, 80, zT), (w.heap.size + 1 + 1, 112, (cA ct cv)), (w.heap.size + 1, 80, (tA (t0 + 1) t1 t2 n3 t4 t5 n6 false)), (w.heap.size, 26, (pA key (some ⟨bb, oo, none⟩) l.length cap))] _ := hz16.put (k := 4) rfl (by unfold Apart; simp <;> omega) (gb_set (gb_refl _ (some (w.heap.size + 1))) 6 (.int .i64 n6)) ((hz16.at_ (p := w.heap.size + 1) (t := 80) (cs := (tA (t0 + 1) t1 t2 n3 t4 t5 t6 false)) (by simp)).set_ 6 _)
    clear hz16 kc0 kf0 kc1 kf1 kc2 kf2 kc3 kf3 kc4 kf4 kc5 kf5
    generalize World.setCell _ _ _ = wb at hz17 ⊢
    obtain ⟨kc0, kf0, kc1, kf1, kc2, kf2, kc3, kf3, kc4, kf4, kc5, kf5, -⟩ := hz17.rd
    go_upto_region 17 with fail
    have hz18 : Kept w [(gg, 112, (cA c1 c2)), (w.heap.size + 1 + 1 + 1 + 1, 112, zC), (w.heap.size + 1 + 1 + 1, 80, zT), (w.heap.size + 1 + 1, 112, (cA ct cv)), (w.heap.size + 1, 80, (tA (t0 + 1) t1 (t2 + 1) n3 t4 t5 n6 false)), (w.heap.size, 26, (pA key (some ⟨bb, oo, none⟩) l.length cap))] _ := hz17.put (k := 4) rfl (by unfold Apart; simp <;> omega) (gb_set (gb_refl _ (some (w.heap.size + 1))) 2 (.int .i64 (t2 + 1))) ((hz17.at_ (p := w.heap.size + 1) (t := 80) (cs := (tA (t0 + 1) t1 t2 n3 t4 t5 n6 false)) (by simp)).set_ 2 _)
    clear hz17 kc0 kf0 kc1 kf1 kc2 kf2 kc3 kf3 kc4 kf4 kc5 kf5
    generalize World.setCell _ _ _ = wc at hz18 ⊢
    obtain ⟨kc0, kf0, kc1, kf1, kc2, kf2, kc3, kf3, kc4, kf4, kc5, kf5, -⟩ := hz18.rd
    have ci : wc.cell? ⟨bb, oo + r, none⟩ = some (.int .i64 vv) := (hz18.1.cell (p := ⟨bb, oo + r, none⟩) hbb).trans hcc
    go_quiet (fail)
    have hz19 := hz18.drewN nq
    clear ci hz18 kc0 kf0 kc1 kf1 kc2 kf2 kc3 kf3 kc4 kf4 kc5 kf5
    generalize World.drewN _ _ = wd at hz19 ⊢
    obtain ⟨kc0, kf0, kc1, kf1, kc2, kf2, kc3, kf3, kc4, kf4, kc5, kf5, -⟩ := hz19.rd
    go_wp2_with fail
    refine (VE.out _).mono ?_; rintro e uz20 ⟨rfl, bz21⟩
    have hz22 := hz19.below bz21
    clear bz21 hz19 kc0 kf0 kc1 kf1 kc2 kf2 kc3 kf3 kc4 kf4 kc5 kf5
    obtain ⟨kc0, kf0, kc1, kf1, kc2, kf2, kc3, kf3, kc4, kf4, kc5, kf5, -⟩ := hz22.rd
    have lt0hz23 : gg < uz20.heap.size := hz22.lt (x := (gg, 112, (cA c1 c2))) (by simp)
    have lt1hz23 : w.heap.size + 1 + 1 + 1 + 1 < uz20.heap.size := hz22.lt (x := (w.heap.size + 1 + 1 + 1 + 1, 112, zC)) (by simp)
    have lt2hz23 : w.heap.size + 1 + 1 + 1 < uz20.heap.size := hz22.lt (x := (w.heap.size + 1 + 1 + 1, 80, zT)) (by simp)
    have lt3hz23 : w.heap.size + 1 + 1 < uz20.heap.size := hz22.lt (x := (w.heap.size + 1 + 1, 112, (cA ct cv))) (by simp)
    have lt4hz23 : w.heap.size + 1 < uz20.heap.size := hz22.lt (x := (w.heap.size + 1, 80, (tA (t0 + 1) t1 (t2 + 1) n3 t4 t5 n6 false))) (by simp)
    have lt5hz23 : w.heap.size < uz20.heap.size := hz22.lt (x := (w.heap.size, 26, (pA key (some ⟨bb, oo, none⟩) l.length cap))) (by simp)
    have hz23 := hz22.put1 uz20.heap.size 80 (tR VT) rfl
    clear hz22 kc0 kf0 kc1 kf1 kc2 kf2 kc3 kf3 kc4 kf4 kc5 kf5
    go_upto_region 20 with fail
    have hst : ∀ x ∈ ([(3, w.heap.size + 1 + 1 + 1, 80, (tR VT)), (4, w.heap.size + 1 + 1 + 1 + 1, 112, (cA c1 c2))] : List Res), w.heap.size ≤ x.2.1 ∧ (∀ y ∈ ([(uz20.heap.size, 80, (tR VT)), (gg, 112, (cA c1 c2)), (w.heap.size + 1 + 1, 112, (cA ct cv)), (w.heap.size + 1, 80, (tA (t0 + 1) t1 (t2 + 1) n3 t4 t5 n6 false)), (w.heap.size, 26, (pA key (some ⟨bb, oo, none⟩) l.length cap))] : List Box), y.1 ≠ x.2.1) ∧ ∃ z, CellsAt (uz20.alloc (.cells (tR VT) 80)) x.2.1 x.2.2.1 z ∧ z.size = x.2.2.2.size := by
      intro y hy
      simp only [List.mem_cons, List.not_mem_nil, or_false] at hy
      rcases hy with rfl | rfl
      · exact ⟨by simp only [] <;> omega, by intro y hy; simp at hy; rcases hy with rfl | rfl | rfl | rfl | rfl <;> simp <;> omega, _, hz23.at_ (t := 80) (cs := zT) (by simp), rfl⟩
      · exact ⟨by simp only [] <;> omega, by intro y hy; simp at hy; rcases hy with rfl | rfl | rfl | rfl | rfl <;> simp <;> omega, _, hz23.at_ (t := 112) (cs := zC) (by simp), rfl⟩
    have hn0 : Kept w [(uz20.heap.size, 80, (tR VT)), (gg, 112, (cA c1 c2)), (w.heap.size + 1 + 1, 112, (cA ct cv)), (w.heap.size + 1, 80, (tA (t0 + 1) t1 (t2 + 1) n3 t4 t5 n6 false)), (w.heap.size, 26, (pA key (some ⟨bb, oo, none⟩) l.length cap))] _ := hz23.sub (by intro y hy; simp at hy ⊢; rcases hy with rfl | rfl | rfl | rfl | rfl <;> simp)
    refine wp_region_free [false, false, false, true, true, false] (ShV []) (fun D _ u => ResC w [(uz20.heap.size, 80, (tR VT)), (gg, 112, (cA c1 c2)), (w.heap.size + 1 + 1, 112, (cA ct cv)), (w.heap.size + 1, 80, (tA (t0 + 1) t1 (t2 + 1) n3 t4 t5 n6 false)), (w.heap.size, 26, (pA key (some ⟨bb, oo, none⟩) l.length cap))] [(3, w.heap.size + 1 + 1 + 1, 80, (tR VT)), (4, w.heap.size + 1 + 1 + 1 + 1, 112, (cA c1 c2))] D u) (by kernel_rfl) (by kernel_rfl) (fun γ => by kernel_rfl) (fun D γ γ' w _ h => h) (ShV.inh _) (fun γ => ResC.start hn0 hst) (fun γ hγ => ?_)
    clear hst hn0
    have g3 : γ 3 = undef := hγ 3 rfl
    have g4 : γ 4 = undef := hγ 4 rfl
    clear hz23
    apply Exists.intro
    refine ⟨fun D => ?_, ?_, ?_⟩
    · simp only [hushL, cond_true, cond_false, Nat.reduceAdd, g3, g4]
      iterate 6 (first
        | go_big_quiet_skip
        | (go_big_quiet_want
           go_big_quiet_op
           first
             | go_big_quiet_on
             | (apply Exists.intro
                refine ⟨fun u hu => ?_, ?_⟩
                · first
                    | with_reducible rfl
                    | (obtain ⟨kc0, kf0, kc1, kf1, kc2, kf2, kc3, kf3, kc4, kf4, -⟩ := hu.1.rd; go_simp; first | done | with_reducible rfl)
                go_big_quiet_on)))
      exact wpQuiet_nil rfl
    · simp only [freeOk, Nat.reduceAdd]
      refine ⟨fun D u hD hd hu => ?_, fun D u hD hd hu => ?_, trivial⟩
      · obtain ⟨z, hz, hzs⟩ := hu.at_ (k := 3) (p := w.heap.size + 1 + 1 + 1) (t := 80) (V := (tR VT)) (by simp)
        exact steps_store hz rfl rfl rfl (by kernel_rfl) hzs (by simp [Value.oneCell']) (fun w' hc hg => ⟨rfl, hu.stored (by simp) (by simp) hg hc⟩)
      · obtain ⟨z, hz, hzs⟩ := hu.at_ (k := 4) (p := w.heap.size + 1 + 1 + 1 + 1) (t := 112) (V := (cA c1 c2)) (by simp)
        exact steps_store hz rfl rfl rfl (by kernel_rfl) hzs (by simp [Value.oneCell']) (fun w' hc hg => ⟨rfl, hu.stored (by simp) (by simp) hg hc⟩)
    · intro D uf hD hu
      have hf := hu.done (by intro y hy; simp only [List.mem_cons, List.not_mem_nil, or_false] at hy; rcases hy with rfl | rfl; exact hD 3 (by simp) rfl; exact hD 4 (by simp) rfl)
      clear hu hD
      obtain ⟨kc0, kf0, kc1, kf1, kc2, kf2, kc3, kf3, kc4, kf4, kc5, kf5, kc6, kf6, -⟩ := hf.rd
      go_wp2_with fail
      exact bodyPost_ret (v := (.tuple #[.agg (tR VT), .agg (cA c1 c2), .int .i64 vk])) (by simp [results, Tryz.results105, go_sem, kc0, kc1]) rfl ⟨rfl, hf.1⟩
end Go.Proofs.YtgaecedhkbneaaaGreatDoor.Mx

import Derived.Test.YtgaecedhkbneaaaGreatDoorG14
import Derived.Test.YtgaecedhkbneaaaGreatDoorG05
namespace Go.Proofs.YtgaecedhkbneaaaGreatDoor.Mx
open Go.ChangeShapes Go.WideShapes Go.ChangeAt Go.RowKit
set_option linter.unusedVariables false
set_option maxRecDepth 20000 in
set_option maxHeartbeats 4000000 in
theorem specTouched_ok (key x ct cv value : Int) (A : Option Addr) (l : List Int) (cap : Nat) (t0 t1 t2 t3 t4 t5 t6 : Int) (w : World) (hn : l.length ≤ maxLen) (hcap : l.length ≤ cap) (hA : Ints w .i64 w.heap.size A l) (hr : 0 ≤ regionOf key l x) (ht : trustOk key l (regionOf key l x) ⟨t0, t1, t2, t3, t4, t5, t6, false⟩) (hc : isCell ct cv) (hv : ValOk value) (hcl : ¬ 100000 ≤ t0) (hct : ¬ t0 < ct) (hxx : I64 x) (now : Int) (hnow : now = if value = -1 then valueIn key x ct cv else value) :
    Calls Tryz.prog 101 #[.agg (pA key A l.length cap), .agg (tA t0 t1 t2 t3 t4 t5 t6 false), .int .i64 x, .agg (cA ct cv), .int .i64 value] w fun e w' => e = .returned (.tuple #[.agg #[.int .i64 (sumsT key ⟨t0 + 1, t1, t2, t3, t4, t5, t6, false⟩ (behindB key l t2 x) (tripleIn x ct cv).1 (tripleIn x ct cv).2.1 (tripleIn x ct cv).2.2 (tripleIn x (cellOf key x (t0 + 1) now).1 (cellOf key x (t0 + 1) now).2).1 (tripleIn x (cellOf key x (t0 + 1) now).1 (cellOf key x (t0 + 1) now).2).2.1 (tripleIn x (cellOf key x (t0 + 1) now).1 (cellOf key x (t0 + 1) now).2).2.2).clock, .int .i64 (sumsT key ⟨t0 + 1, t1, t2, t3, t4, t5, t6, false⟩ (behindB key l t2 x) (tripleIn x ct cv).1 (tripleIn x ct cv).2.1 (tripleIn x ct cv).2.2 (tripleIn x (cellOf key x (t0 + 1) now).1 (cellOf key x (t0 + 1) now).2).1 (tripleIn x (cellOf key x (t0 + 1) now).1 (cellOf key x (t0 + 1) now).2).2.1 (tripleIn x (cellOf key x (t0 + 1) now).1 (cellOf key x (t0 + 1) now).2).2.2).epoch, .int .i64 (sumsT key ⟨t0 + 1, t1, t2, t3, t4, t5, t6, false⟩ (behindB key l t2 x) (tripleIn x ct cv).1 (tripleIn x ct cv).2.1 (tripleIn x ct cv).2.2 (tripleIn x (cellOf key x (t0 + 1) now).1 (cellOf key x (t0 + 1) now).2).1 (tripleIn x (cellOf key x (t0 + 1) now).1 (cellOf key x (t0 + 1) now).2).2.1 (tripleIn x (cellOf key x (t0 + 1) now).1 (cellOf key x (t0 + 1) now).2).2.2).cursor, .int .i64 (sumsT key ⟨t0 + 1, t1, t2, t3, t4, t5, t6, false⟩ (behindB key l t2 x) (tripleIn x ct cv).1 (tripleIn x ct cv).2.1 (tripleIn x ct cv).2.2 (tripleIn x (cellOf key x (t0 + 1) now).1 (cellOf key x (t0 + 1) now).2).1 (tripleIn x (cellOf key x (t0 + 1) now).1 (cellOf key x (t0 + 1) now).2).2.1 (tripleIn x (cellOf key x (t0 + 1) now).1 (cellOf key x (t0 + 1) now).2).2.2).read, .int .i64 (sumsT key ⟨t0 + 1, t1, t2, t3, t4, t5, t6, false⟩ (behindB key l t2 x) (tripleIn x ct cv).1 (tripleIn x ct cv).2.1 (tripleIn x ct cv).2.2 (tripleIn x (cellOf key x (t0 + 1) now).1 (cellOf key x (t0 + 1) now).2).1 (tripleIn x (cellOf key x (t0 + 1) now).1 (cellOf key x (t0 + 1) now).2).2.1 (tripleIn x (cellOf key x (t0 + 1) now).1 (cellOf key x (t0 + 1) now).2).2.2).written, .int .i64 (sumsT key ⟨t0 + 1, t1, t2, t3, t4, t5, t6, false⟩ (behindB key l t2 x) (tripleIn x ct cv).1 (tripleIn x ct cv).2.1 (tripleIn x ct cv).2.2 (tripleIn x (cellOf key x (t0 + 1) now).1 (cellOf key x (t0 + 1) now).2).1 (tripleIn x (cellOf key x (t0 + 1) now).1 (cellOf key x (t0 + 1) now).2).2.1 (tripleIn x (cellOf key x (t0 + 1) now).1 (cellOf key x (t0 + 1) now).2).2.2).nread, .int .i64 (sumsT key ⟨t0 + 1, t1, t2, t3, t4, t5, t6, false⟩ (behindB key l t2 x) (tripleIn x ct cv).1 (tripleIn x ct cv).2.1 (tripleIn x ct cv).2.2 (tripleIn x (cellOf key x (t0 + 1) now).1 (cellOf key x (t0 + 1) now).2).1 (tripleIn x (cellOf key x (t0 + 1) now).1 (cellOf key x (t0 + 1) now).2).2.1 (tripleIn x (cellOf key x (t0 + 1) now).1 (cellOf key x (t0 + 1) now).2).2.2).nwritten, .bool (sumsT key ⟨t0 + 1, t1, t2, t3, t4, t5, t6, false⟩ (behindB key l t2 x) (tripleIn x ct cv).1 (tripleIn x ct cv).2.1 (tripleIn x ct cv).2.2 (tripleIn x (cellOf key x (t0 + 1) now).1 (cellOf key x (t0 + 1) now).2).1 (tripleIn x (cellOf key x (t0 + 1) now).1 (cellOf key x (t0 + 1) now).2).2.1 (tripleIn x (cellOf key x (t0 + 1) now).1 (cellOf key x (t0 + 1) now).2).2.2).failed], .agg (cA ((cellOf key x (t0 + 1) now).1) ((cellOf key x (t0 + 1) now).2)), .int .i64 (valueIn key x ct cv), .int .i64 0]) ∧ Below w.heap.size w w' := by
  have K0 := Lib.hid (show Kept w [(w.heap.size + 1 + 1 + 1 + 1, 112, zC), (w.heap.size + 1 + 1 + 1, 80, zT), (w.heap.size + 1 + 1, 112, (cA ct cv)), (w.heap.size + 1, 80, (tA t0 t1 t2 t3 t4 t5 t6 false)), (w.heap.size, 26, (pA key A l.length cap))] _ from (((((Kept.refl w).put1 _ _ (pA key A l.length cap) rfl).put1 _ _ (tA t0 t1 t2 t3 t4 t5 t6 false) (by simp)).put1 _ _ (cA ct cv) (by simp)).put1 _ _ zT (by simp)).put1 _ _ zC (by simp))
  have R := Lib.hid (fun (u : World) (hb : Below w.heap.size w u) => specRegion_calls key x A l cap u hn hcap ((hA.below hb (Nat.le_refl _)).more hb.size))
  have TO := Lib.hid (fun (u : World) (hb : Below w.heap.size w u) => specTrustOk_calls key (regionOf key l x) A l cap t0 t1 t2 t3 t4 t5 t6 false u hn ((hA.below hb (Nat.le_refl _)).more hb.size))
  have CO := Lib.hid (fun (u : World) => specCellOk_calls ct cv u)
  rw [trustB_yes ht] at TO
  rw [decide_eq_true hc] at CO
  have hd : decide (regionOf key l x < 0) = false := decide_eq_false (by omega)
  have htm : 0 ≤ t0 ∧ t0 ≤ 100000 := ht.2.2.1
  have VI := Lib.hid (fun u => specValueIn_calls key x ct cv u)
  have CC := Lib.hid (fun u => specCellOf_calls key x (t0 + 1) now u)
  have BH := Lib.hid (fun (u : World) (hb : Below w.heap.size w u) => specBehind_calls key x A l cap (t0 + 1) t1 t2 t3 t4 t5 t6 false u hn hcap ((hA.below hb (Nat.le_refl _)).more hb.size) hxx)
  clear hA hxx hn
  generalize regionOf key l x = r at R hd TO
  clear hr ht hc
  generalize (cellOf key x (t0 + 1) now).1 = c1 at CC ⊢
  generalize (cellOf key x (t0 + 1) now).2 = c2 at CC ⊢
  generalize behindB key l t2 x = nx at BH ⊢
  have TI1 := Lib.hid (fun u => specTripleIn_calls x ct cv u)
  have TI2 := Lib.hid (fun u => specTripleIn_calls x c1 c2 u)
  have LS := Lib.hid (fun u => l8Sums_calls nx key A l.length cap (t0 + 1) t1 t2 t3 t4 t5 t6 false (tripleIn x ct cv).1 (tripleIn x ct cv).2.1 (tripleIn x ct cv).2.2 (tripleIn x c1 c2).1 (tripleIn x c1 c2).2.1 (tripleIn x c1 c2).2.2 u)
  generalize sumsT key ⟨t0 + 1, t1, t2, t3, t4, t5, t6, false⟩ nx (tripleIn x ct cv).1 (tripleIn x ct cv).2.1 (tripleIn x ct cv).2.2 (tripleIn x c1 c2).1 (tripleIn x c1 c2).2.1 (tripleIn x c1 c2).2.2 = TS at LS ⊢
  generalize tripleIn x ct cv = q1 at TI1 LS
  generalize tripleIn x c1 c2 = q2 at TI2 LS
  obtain ⟨q11, q12, q13⟩ := q1
  obtain ⟨q21, q22, q23⟩ := q2
  simp only at TI1 TI2 LS
  by_cases hv3 : value = -1
  · subst hv3
    rw [if_pos rfl] at hnow
    rw [← hnow] at VI ⊢
    clear hv hnow
    go_enter Tryz.func101, Tryz.ntmps101
    go_wp2_with fail
    refine (R.out _ K0.out.1).mono ?_; rintro e wz ⟨rfl, b1⟩
    have hz := K0.out.below b1
    clear b1 R K0
    obtain ⟨kc0, kf0, kc1, kf1, kc2, kf2, kc3, kf3, kc4, kf4, -⟩ := hz.rd
    go_wp2_with fail
    refine (TO.out _ hz.1).mono ?_; rintro e wy ⟨rfl, b1⟩
    have hy := hz.below b1
    clear b1 TO hz kc0 kf0 kc1 kf1 kc2 kf2 kc3 kf3 kc4 kf4
    obtain ⟨kc0, kf0, kc1, kf1, kc2, kf2, kc3, kf3, kc4, kf4, -⟩ := hy.rd
    go_wp2_with fail
    refine (CO.out _).mono ?_; rintro e wx ⟨rfl, b1⟩
    have hx := hy.below b1
    clear b1 CO hy kc0 kf0 kc1 kf1 kc2 kf2 kc3 kf3 kc4 kf4
    obtain ⟨kc0, kf0, kc1, kf1, kc2, kf2, kc3, kf3, kc4, kf4, -⟩ := hx.rd
    go_wp2_with fail
    refine (VI.out _).mono ?_; rintro e wr ⟨rfl, b1⟩
    have hr := hx.below b1
    clear b1 VI hx kc0 kf0 kc1 kf1 kc2 kf2 kc3 kf3 kc4 kf4
    obtain ⟨kc0, kf0, kc1, kf1, kc2, kf2, kc3, kf3, kc4, kf4, -⟩ := hr.rd
    go_upto_region 15 with fail
    have hq : Kept w [(w.heap.size + 1 + 1 + 1 + 1, 112, zC), (w.heap.size + 1 + 1 + 1, 80, zT), (w.heap.size + 1 + 1, 112, (cA ct cv)), (w.heap.size + 1, 80, (tA (t0 + 1) t1 t2 t3 t4 t5 t6 false)), (w.heap.size, 26, (pA key A l.length cap))] _ := hr.put (k := 3) rfl (by unfold Apart; simp; omega) (gb_set (gb_refl wr (some (w.heap.size + 1))) 0 (.int .i64 (t0 + 1))) ((hr.at_ (p := w.heap.size + 1) (t := 80) (cs := (tA t0 t1 t2 t3 t4 t5 t6 false)) (by simp)).set_ 0 _)
    clear hr kc0 kf0 kc1 kf1 kc2 kf2 kc3 kf3 kc4 kf4
    generalize World.setCell _ _ _ = wq at hq ⊢
    obtain ⟨kc0, kf0, kc1, kf1, kc2, kf2, kc3, kf3, kc4, kf4, -⟩ := hq.rd
    go_wp2_with fail
    refine (CC.out _).mono ?_; rintro e ws ⟨rfl, b1⟩
    have hs := hq.below b1
    have hlt : w.heap.size + 1 + 1 + 1 + 1 < ws.heap.size := hs.lt (x := (w.heap.size + 1 + 1 + 1 + 1, 112, zC)) (by simp)
    have hn := hs.put1 ws.heap.size 112 (cA c1 c2) rfl
    clear b1 CC hq hs kc0 kf0 kc1 kf1 kc2 kf2 kc3 kf3 kc4 kf4
    go_upto_region 16 with fail
    have hst : ∀ x ∈ ([(15, w.heap.size + 1 + 1 + 1, 80, (tR TS)), (16, w.heap.size + 1 + 1 + 1 + 1, 112, (cA c1 c2))] : List Res), w.heap.size ≤ x.2.1 ∧ (∀ y ∈ ([(ws.heap.size, 112, (cA c1 c2)), (w.heap.size + 1 + 1, 112, (cA ct cv)), (w.heap.size + 1, 80, (tA (t0 + 1) t1 t2 t3 t4 t5 t6 false)), (w.heap.size, 26, (pA key A l.length cap))] : List Box), y.1 ≠ x.2.1) ∧ ∃ z, CellsAt (ws.alloc (.cells (cA c1 c2) 112)) x.2.1 x.2.2.1 z ∧ z.size = x.2.2.2.size := by
      intro y hy
      simp only [List.mem_cons, List.not_mem_nil, or_false] at hy
      rcases hy with rfl | rfl
      · exact ⟨by simp only []; omega, by intro y hy; simp at hy; rcases hy with rfl | rfl | rfl | rfl <;> simp <;> omega, _, hn.at_ (t := 80) (cs := zT) (by simp), rfl⟩
      · exact ⟨by simp only []; omega, by intro y hy; simp at hy; rcases hy with rfl | rfl | rfl | rfl <;> simp <;> omega, _, hn.at_ (t := 112) (cs := zC) (by simp), rfl⟩
    have hn0 : Kept w [(ws.heap.size, 112, (cA c1 c2)), (w.heap.size + 1 + 1, 112, (cA ct cv)), (w.heap.size + 1, 80, (tA (t0 + 1) t1 t2 t3 t4 t5 t6 false)), (w.heap.size, 26, (pA key A l.length cap))] _ := hn.sub (by intro y hy; simp at hy ⊢; rcases hy with rfl | rfl | rfl | rfl <;> simp)
    refine wp_region_free [false, false, false, false, false, true, false, false, true, false, false, true, true, false, false, true, true, false, false] (ShV [(5, .bool nx), (8, .agg #[.int .i64 q11, .int .i64 q12, .int .i64 q13]), (11, .agg #[.int .i64 q21, .int .i64 q22, .int .i64 q23]), (12, .agg (tR TS))]) (fun D _ u => ResC w [(ws.heap.size, 112, (cA c1 c2)), (w.heap.size + 1 + 1, 112, (cA ct cv)), (w.heap.size + 1, 80, (tA (t0 + 1) t1 t2 t3 t4 t5 t6 false)), (w.heap.size, 26, (pA key A l.length cap))] [(15, w.heap.size + 1 + 1 + 1, 80, (tR TS)), (16, w.heap.size + 1 + 1 + 1 + 1, 112, (cA c1 c2))] D u) (by kernel_rfl) (by kernel_rfl) (fun γ => by kernel_rfl) (fun D γ γ' w _ h => h) (ShV.inh _) (fun γ => ResC.start hn0 hst) (fun γ hγ => ?_)
    have g5 : γ 5 = .bool nx := hγ 5 rfl
    have g8 : γ 8 = .agg #[.int .i64 q11, .int .i64 q12, .int .i64 q13] := hγ 8 rfl
    have g11 : γ 11 = .agg #[.int .i64 q21, .int .i64 q22, .int .i64 q23] := hγ 11 rfl
    have g12 : γ 12 = .agg (tR TS) := hγ 12 rfl
    have g15 : γ 15 = undef := hγ 15 rfl
    have g16 : γ 16 = undef := hγ 16 rfl
    apply Exists.intro
    refine ⟨fun D => ?_, ?_, ?_⟩
    · simp only [hushL, cond_true, cond_false, Nat.reduceAdd, g5, g8, g11, g12, g15, g16]
      iterate 19 (first
        | go_big_quiet_skip
        | (go_big_quiet_want
           go_big_quiet_op
           first
             | go_big_quiet_on
             | (apply Exists.intro
                refine ⟨fun u hu => ?_, ?_⟩
                · first
                    | with_reducible rfl
                    | (obtain ⟨kc0, kf0, kc1, kf1, kc2, kf2, kc3, kf3, -⟩ := hu.1.rd; go_simp; first | done | with_reducible rfl)
                go_big_quiet_on)))
      exact wpQuiet_nil rfl
    · simp only [freeOk, Nat.reduceAdd]
      refine ⟨fun D u hD hd hu => ?_, fun D u hD hd hu => ?_, fun D u hD hd hu => ?_, fun D u hD hd hu => ?_, fun D u hD hd hu => ?_, fun D u hD hd hu => ?_, trivial⟩
      · exact steps_call ((BH.out u hu.1.1).mono fun e w' ⟨he, hb⟩ => ⟨_, he, rfl, hu.below hb 5 (by simp)⟩) rfl rfl rfl rfl (by kernel_rfl)
      · exact steps_call ((TI1.out u).mono fun e w' ⟨he, hb⟩ => ⟨_, he, rfl, hu.below hb 8 (by simp)⟩) rfl rfl rfl rfl (by kernel_rfl)
      · exact steps_call ((TI2.out u).mono fun e w' ⟨he, hb⟩ => ⟨_, he, rfl, hu.below hb 11 (by simp)⟩) rfl rfl rfl rfl (by kernel_rfl)
      · exact steps_call ((LS.out u).mono fun e w' ⟨he, hb⟩ => ⟨_, he, rfl, hu.below hb 12 (by simp)⟩) rfl rfl rfl rfl (by kernel_rfl)
      · obtain ⟨z, hz, hzs⟩ := hu.at_ (k := 15) (p := w.heap.size + 1 + 1 + 1) (t := 80) (V := (tR TS)) (by simp)
        exact steps_store hz rfl rfl rfl (by kernel_rfl) hzs (by simp [Value.oneCell']) (fun w' hc hg => ⟨rfl, hu.stored (by simp) (by simp) hg hc⟩)
      · obtain ⟨z, hz, hzs⟩ := hu.at_ (k := 16) (p := w.heap.size + 1 + 1 + 1 + 1) (t := 112) (V := (cA c1 c2)) (by simp)
        exact steps_store hz rfl rfl rfl (by kernel_rfl) hzs (by simp [Value.oneCell']) (fun w' hc hg => ⟨rfl, hu.stored (by simp) (by simp) hg hc⟩)
    · intro D u hD hu
      have hf := hu.done (by intro y hy; simp only [List.mem_cons, List.not_mem_nil, or_false] at hy; rcases hy with rfl | rfl; exact hD 15 (by simp) rfl; exact hD 16 (by simp) rfl)
      clear hu hD
      obtain ⟨kc0, kf0, kc1, kf1, -⟩ := hf.rd
      go_wp2_with fail
      exact bodyPost_ret (v := (.tuple #[.agg (tR TS), .agg (cA c1 c2), .int .i64 now, .int .i64 0])) (by simp [results, Tryz.results101, go_sem, kc0, kc1]) rfl ⟨rfl, hf.1⟩
  · have hv1 : (value == -1) = false := by simpa using hv3
    have hv2 : (value != -1) = true := by simpa using hv3
    have LV := Lib.hid (fun u => l2Value_yes value u (by rcases hv with h | h; exact absurd h hv3; exact h))
    rw [if_neg hv3] at hnow
    subst hnow
    generalize valueIn key x ct cv = rd at VI ⊢
    clear hv
    go_enter Tryz.func101, Tryz.ntmps101
    go_wp2_with fail
    refine (R.out _ K0.out.1).mono ?_; rintro e wz ⟨rfl, b1⟩
    have hz := K0.out.below b1
    clear b1 R K0
    obtain ⟨kc0, kf0, kc1, kf1, kc2, kf2, kc3, kf3, kc4, kf4, -⟩ := hz.rd
    go_wp2_with fail
    refine (TO.out _ hz.1).mono ?_; rintro e wy ⟨rfl, b1⟩
    have hy := hz.below b1
    clear b1 TO hz kc0 kf0 kc1 kf1 kc2 kf2 kc3 kf3 kc4 kf4
    obtain ⟨kc0, kf0, kc1, kf1, kc2, kf2, kc3, kf3, kc4, kf4, -⟩ := hy.rd
    go_wp2_with fail
    refine (CO.out _).mono ?_; rintro e wx ⟨rfl, b1⟩
    have hx := hy.below b1
    clear b1 CO hy kc0 kf0 kc1 kf1 kc2 kf2 kc3 kf3 kc4 kf4
    obtain ⟨kc0, kf0, kc1, kf1, kc2, kf2, kc3, kf3, kc4, kf4, -⟩ := hx.rd
    go_wp2_with fail
    refine (LV.out _).mono ?_; rintro e w' ⟨rfl, rfl⟩
    go_wp2_with fail
    refine (VI.out _).mono ?_; rintro e wr ⟨rfl, b1⟩
    have hr := hx.below b1
    clear b1 VI hx kc0 kf0 kc1 kf1 kc2 kf2 kc3 kf3 kc4 kf4
    obtain ⟨kc0, kf0, kc1, kf1, kc2, kf2, kc3, kf3, kc4, kf4, -⟩ := hr.rd
    go_upto_region 15 with fail
    have hq : Kept w [(w.heap.size + 1 + 1 + 1 + 1, 112, zC), (w.heap.size + 1 + 1 + 1, 80, zT), (w.heap.size + 1 + 1, 112, (cA ct cv)), (w.heap.size + 1, 80, (tA (t0 + 1) t1 t2 t3 t4 t5 t6 false)), (w.heap.size, 26, (pA key A l.length cap))] _ := hr.put (k := 3) rfl (by unfold Apart; simp; omega) (gb_set (gb_refl wr (some (w.heap.size + 1))) 0 (.int .i64 (t0 + 1))) ((hr.at_ (p := w.heap.size + 1) (t := 80) (cs := (tA t0 t1 t2 t3 t4 t5 t6 false)) (by simp)).set_ 0 _)
    clear hr kc0 kf0 kc1 kf1 kc2 kf2 kc3 kf3 kc4 kf4
    generalize World.setCell _ _ _ = wq at hq ⊢
    obtain ⟨kc0, kf0, kc1, kf1, kc2, kf2, kc3, kf3, kc4, kf4, -⟩ := hq.rd
    go_wp2_with fail
    refine (CC.out _).mono ?_; rintro e ws ⟨rfl, b1⟩
    have hs := hq.below b1
    have hlt : w.heap.size + 1 + 1 + 1 + 1 < ws.heap.size := hs.lt (x := (w.heap.size + 1 + 1 + 1 + 1, 112, zC)) (by simp)
    have hn := hs.put1 ws.heap.size 112 (cA c1 c2) rfl
    clear b1 CC hq hs kc0 kf0 kc1 kf1 kc2 kf2 kc3 kf3 kc4 kf4
    go_upto_region 16 with fail
    have hst : ∀ x ∈ ([(15, w.heap.size + 1 + 1 + 1, 80, (tR TS)), (16, w.heap.size + 1 + 1 + 1 + 1, 112, (cA c1 c2))] : List Res), w.heap.size ≤ x.2.1 ∧ (∀ y ∈ ([(ws.heap.size, 112, (cA c1 c2)), (w.heap.size + 1 + 1, 112, (cA ct cv)), (w.heap.size + 1, 80, (tA (t0 + 1) t1 t2 t3 t4 t5 t6 false)), (w.heap.size, 26, (pA key A l.length cap))] : List Box), y.1 ≠ x.2.1) ∧ ∃ z, CellsAt (ws.alloc (.cells (cA c1 c2) 112)) x.2.1 x.2.2.1 z ∧ z.size = x.2.2.2.size := by
      intro y hy
      simp only [List.mem_cons, List.not_mem_nil, or_false] at hy
      rcases hy with rfl | rfl
      · exact ⟨by simp only []; omega, by intro y hy; simp at hy; rcases hy with rfl | rfl | rfl | rfl <;> simp <;> omega, _, hn.at_ (t := 80) (cs := zT) (by simp), rfl⟩
      · exact ⟨by simp only []; omega, by intro y hy; simp at hy; rcases hy with rfl | rfl | rfl | rfl <;> simp <;> omega, _, hn.at_ (t := 112) (cs := zC) (by simp), rfl⟩
    have hn0 : Kept w [(ws.heap.size, 112, (cA c1 c2)), (w.heap.size + 1 + 1, 112, (cA ct cv)), (w.heap.size + 1, 80, (tA (t0 + 1) t1 t2 t3 t4 t5 t6 false)), (w.heap.size, 26, (pA key A l.length cap))] _ := hn.sub (by intro y hy; simp at hy ⊢; rcases hy with rfl | rfl | rfl | rfl <;> simp)
    refine wp_region_free [false, false, false, false, false, true, false, false, true, false, false, true, true, false, false, true, true, false, false] (ShV [(5, .bool nx), (8, .agg #[.int .i64 q11, .int .i64 q12, .int .i64 q13]), (11, .agg #[.int .i64 q21, .int .i64 q22, .int .i64 q23]), (12, .agg (tR TS))]) (fun D _ u => ResC w [(ws.heap.size, 112, (cA c1 c2)), (w.heap.size + 1 + 1, 112, (cA ct cv)), (w.heap.size + 1, 80, (tA (t0 + 1) t1 t2 t3 t4 t5 t6 false)), (w.heap.size, 26, (pA key A l.length cap))] [(15, w.heap.size + 1 + 1 + 1, 80, (tR TS)), (16, w.heap.size + 1 + 1 + 1 + 1, 112, (cA c1 c2))] D u) (by kernel_rfl) (by kernel_rfl) (fun γ => by kernel_rfl) (fun D γ γ' w _ h => h) (ShV.inh _) (fun γ => ResC.start hn0 hst) (fun γ hγ => ?_)
    have g5 : γ 5 = .bool nx := hγ 5 rfl
    have g8 : γ 8 = .agg #[.int .i64 q11, .int .i64 q12, .int .i64 q13] := hγ 8 rfl
    have g11 : γ 11 = .agg #[.int .i64 q21, .int .i64 q22, .int .i64 q23] := hγ 11 rfl
    have g12 : γ 12 = .agg (tR TS) := hγ 12 rfl
    have g15 : γ 15 = undef := hγ 15 rfl
    have g16 : γ 16 = undef := hγ 16 rfl
    apply Exists.intro
    refine ⟨fun D => ?_, ?_, ?_⟩
    · simp only [hushL, cond_true, cond_false, Nat.reduceAdd, g5, g8, g11, g12, g15, g16]
      iterate 19 (first
        | go_big_quiet_skip
        | (go_big_quiet_want
           go_big_quiet_op
           first
             | go_big_quiet_on
             | (apply Exists.intro
                refine ⟨fun u hu => ?_, ?_⟩
                · first
                    | with_reducible rfl
                    | (obtain ⟨kc0, kf0, kc1, kf1, kc2, kf2, kc3, kf3, -⟩ := hu.1.rd; go_simp; first | done | with_reducible rfl)
                go_big_quiet_on)))
      exact wpQuiet_nil rfl
    · simp only [freeOk, Nat.reduceAdd]
      refine ⟨fun D u hD hd hu => ?_, fun D u hD hd hu => ?_, fun D u hD hd hu => ?_, fun D u hD hd hu => ?_, fun D u hD hd hu => ?_, fun D u hD hd hu => ?_, trivial⟩
      · exact steps_call ((BH.out u hu.1.1).mono fun e w' ⟨he, hb⟩ => ⟨_, he, rfl, hu.below hb 5 (by simp)⟩) rfl rfl rfl rfl (by kernel_rfl)
      · exact steps_call ((TI1.out u).mono fun e w' ⟨he, hb⟩ => ⟨_, he, rfl, hu.below hb 8 (by simp)⟩) rfl rfl rfl rfl (by kernel_rfl)
      · exact steps_call ((TI2.out u).mono fun e w' ⟨he, hb⟩ => ⟨_, he, rfl, hu.below hb 11 (by simp)⟩) rfl rfl rfl rfl (by kernel_rfl)
      · exact steps_call ((LS.out u).mono fun e w' ⟨he, hb⟩ => ⟨_, he, rfl, hu.below hb 12 (by simp)⟩) rfl rfl rfl rfl (by kernel_rfl)
      · obtain ⟨z, hz, hzs⟩ := hu.at_ (k := 15) (p := w.heap.size + 1 + 1 + 1) (t := 80) (V := (tR TS)) (by simp)
        exact steps_store hz rfl rfl rfl (by kernel_rfl) hzs (by simp [Value.oneCell']) (fun w' hc hg => ⟨rfl, hu.stored (by simp) (by simp) hg hc⟩)
      · obtain ⟨z, hz, hzs⟩ := hu.at_ (k := 16) (p := w.heap.size + 1 + 1 + 1 + 1) (t := 112) (V := (cA c1 c2)) (by simp)
        exact steps_store hz rfl rfl rfl (by kernel_rfl) hzs (by simp [Value.oneCell']) (fun w' hc hg => ⟨rfl, hu.stored (by simp) (by simp) hg hc⟩)
    · intro D u hD hu
      have hf := hu.done (by intro y hy; simp only [List.mem_cons, List.not_mem_nil, or_false] at hy; rcases hy with rfl | rfl; exact hD 15 (by simp) rfl; exact hD 16 (by simp) rfl)
      clear hu hD
      obtain ⟨kc0, kf0, kc1, kf1, -⟩ := hf.rd
      go_wp2_with fail
      exact bodyPost_ret (v := (.tuple #[.agg (tR TS), .agg (cA c1 c2), .int .i64 rd, .int .i64 0])) (by simp [results, Tryz.results101, go_sem, kc0, kc1]) rfl ⟨rfl, hf.1⟩
end Go.Proofs.YtgaecedhkbneaaaGreatDoor.Mx

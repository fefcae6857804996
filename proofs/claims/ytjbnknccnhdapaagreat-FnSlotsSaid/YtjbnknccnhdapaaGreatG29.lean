import Derived.Test.YtjbnknccnhdapaaGreatG28
namespace Go.Proofs.YtjbnknccnhdapaaGreat.Mx
open Go.ChangeShapes Go.WideShapes Go.ChangeAt Go.RowKit
set_option linter.unusedVariables false
noncomputable def doVol (x : VolN) (kind a b c : Int) : VolN × Int × Int :=
 if kind = 1 then ((touchVol x a (-1)).1, (touchVol x a (-1)).2.2, (touchVol x a (-1)).2.1) else
 if kind = 2 then ((writeVol x a b).1, (writeVol x a b).2.2, 0) else
 if kind = 3 then ((stepVol x a).1, (stepVol x a).2, 0) else
 if kind = 4 then ((closeVol x a).1, (closeVol x a).2, 0) else
 if kind = 5 then ((saveVol x 3).1, (saveVol x 3).2, 0) else
 if kind = 6 then fall14 x a else
 if kind = 7 then bendVol x a b c else
 if kind = 8 then replayVol x a b else ((spoilVol x a).1, (spoilVol x a).2, 0)
theorem doVol_inv {x : VolN} (h : x.Inv) (kind a b c : Int) : (doVol x kind a b c).1.Inv := by
 unfold doVol
 split
 ·exact touchVol_inv h _ _
 ·split
  ·exact writeVol_inv h _ _
  ·split
   ·exact stepVol_inv h _
   ·split
    ·exact closeVol_inv h _
    ·split
     ·exact saveVol_inv h _
     ·split
      ·exact fall14_inv h _
      ·split
       ·exact bendVol_inv h _ _ _
       ·split
        ·exact replayVol_inv h _ _
        ·exact spoilVol_inv h _
set_option maxRecDepth 20000 in
set_option maxHeartbeats 4000000 in
theorem l14Do_1 (x : VolN) (v : Value) (w : World) (h : x.Inv) (hv : VolR w w.heap.size x v) (a b0 c0 : Int) (ha : I64 a) : Calls Tryz.prog 36 #[v, .agg #[.int .i64 1, .int .i64 a, .int .i64 b0, .int .i64 c0]] w (VolAnsA w ((touchVol x a (-1)).1, (touchVol x a (-1)).2.2, (touchVol x a (-1)).2.1)) := by
 have S0 := fun (u : World) (hb : Below w.heap.size w u) => l12Touch_r x v u h (hv.grow hb) a (-1) ha
 obtain ⟨A, cap, B, tc, C, cc, b, off, sc, rfl, hA, hB, hC, hbb, h0, h1, hcap⟩ := hv
 have K0 := Lib.hid (show Kept w [(w.heap.size + 1 + 1 + 1 + 1 + 1, 80, zC), (w.heap.size + 1 + 1 + 1 + 1, 45, (vX x A cap B tc C cc b off sc)), (w.heap.size + 1 + 1 + 1, 80, zC), (w.heap.size + 1 + 1, 45, zV), (w.heap.size + 1, 84, #[.int .i64 1, .int .i64 a, .int .i64 b0, .int .i64 c0]), (w.heap.size, 45, (vX x A cap B tc C cc b off sc))] _ from (((((((Kept.refl w).put1 _ _ (vX x A cap B tc C cc b off sc) rfl).put1 _ _ #[.int .i64 1, .int .i64 a, .int .i64 b0, .int .i64 c0] (by simp)).put1 _ _ zV (by simp)).put1 _ _ zC (by simp)).put1 _ _ (vX x A cap B tc C cc b off sc) (by simp)).put1 _ _ zC (by simp)))
 generalize touchVol x a (-1) = Y at S0 ⊢
 obtain ⟨y, p, q⟩ := Y
 simp only [] at S0 ⊢
 have SO := Lib.hid S0
 clear hA hB hC h0 h1 S0 h ha
 go_enter Tryz.func36, Tryz.ntmps36
 go_upto_region 3 with fail
 have hk0 := K0.out
 clear K0
 have lo0 : w.heap.size + 1 + 1 + 1 + 1 + 1 < _ := hk0.lt (x := (w.heap.size + 1 + 1 + 1 + 1 + 1, 80, zC)) (by simp)
 have lo1 : w.heap.size + 1 + 1 + 1 + 1 < _ := hk0.lt (x := (w.heap.size + 1 + 1 + 1 + 1, 45, (vX x A cap B tc C cc b off sc))) (by simp)
 have lo2 : w.heap.size + 1 + 1 + 1 < _ := hk0.lt (x := (w.heap.size + 1 + 1 + 1, 80, zC)) (by simp)
 have lo3 : w.heap.size + 1 + 1 < _ := hk0.lt (x := (w.heap.size + 1 + 1, 45, zV)) (by simp)
 have lo4 : w.heap.size + 1 < _ := hk0.lt (x := (w.heap.size + 1, 84, #[.int .i64 1, .int .i64 a, .int .i64 b0, .int .i64 c0])) (by simp)
 have lo5 : w.heap.size < _ := hk0.lt (x := (w.heap.size, 45, (vX x A cap B tc C cc b off sc))) (by simp)
 generalize World.alloc _ _ = w6 at hk0 lo0 lo1 lo2 lo3 lo4 lo5 ⊢
 obtain ⟨kc0, kf0, kc1, kf1, kc2, kf2, kc3, kf3, kc4, kf4, kc5, kf5, -⟩ := hk0.rd
 have KK := Lib.hid hk0
 clear hk0
 go_wp2_with fail
 refine (SO.out _ KK.out.1).mono ?_; rintro e u1 ⟨cs, rfl, hv, hb1⟩
 obtain ⟨A', c', B', d', C', e', b', o', s', e1, -⟩ := hv.reads
 injection e1 with e1; subst e1
 have hk1 := KK.out.below hb1
 have lz := hb1.size
 have hwb : w.heap.size ≤ w6.heap.size := KK.out.1.size
 clear SO
 clear kc0 kf0 kc1 kf1 kc2 kf2 kc3 kf3 kc4 kf4 kc5 kf5
 have hk2 := hk1.put1 u1.heap.size 45 (vX y A' c' B' d' C' e' b' o' s') rfl
 have hv2 := hv.below ((Below.refl _ _).alloc (Nat.le_refl _) (.cells (vX y A' c' B' d' C' e' b' o' s') 45))
 clear hb1 hk1 hv KK
 go_upto_region 6 with fail
 generalize World.alloc u1 _ = u2 at hk2 hv2 ⊢
 obtain ⟨kc0, kf0, kc1, kf1, kc2, kf2, kc3, kf3, kc4, kf4, kc5, kf5, kc6, kf6, -⟩ := hk2.rd
 have HV := Lib.hid hv2
 have KK := Lib.hid hk2
 clear hv2 hk2
 go_wp2_with fail
 obtain ⟨w9, e9, ⟨d0, d1, d2, d3, d4, d5⟩, ⟨f0, f1⟩, hb9, hv9⟩ := ans_end (w := w) (x0 := .int .i64 y.key) (x1 := .slice A' y.counts.length c') (x2 := .slice B' y.trusts.length d') (x3 := .slice C' y.cells.length e') (x4 := .slice (some ⟨b', o', none⟩) 2 s') (x5 := .int .i64 y.count) (a0 := .int .i64 q) (a1 := .int .i64 p) (KK.out.at_ (p := w.heap.size + 1 + 1) (t := 45) (cs := zV) (by simp)) (KK.out.at_ (p := w.heap.size + 1 + 1 + 1) (t := 80) (cs := zC) (by simp)) (by omega) KK.out.1 (by omega) (by omega)
 rw [e9]
 exact bodyPost_ret (v := .tuple #[.agg (vX y A' c' B' d' C' e' b' o' s'), .agg (cA q p)]) (by simp [results, Tryz.results36, go_sem, d0, d1, d2, d3, d4, d5, f0, f1]) rfl ⟨_, rfl, (hv9 _ _ _ (by omega) (by omega) HV.out).mono hwb, hb9⟩
set_option maxRecDepth 20000 in
set_option maxHeartbeats 4000000 in
theorem l14Do_2 (x : VolN) (v : Value) (w : World) (h : x.Inv) (hv : VolR w w.heap.size x v) (a b0 c0 : Int) (ha : I64 a) : Calls Tryz.prog 36 #[v, .agg #[.int .i64 2, .int .i64 a, .int .i64 b0, .int .i64 c0]] w (VolAnsA w ((writeVol x a b0).1, (writeVol x a b0).2.2, 0)) := by
 have S0 := fun (u : World) (hb : Below w.heap.size w u) => l12Write_r x v u h (hv.grow hb) a b0 ha
 obtain ⟨A, cap, B, tc, C, cc, b, off, sc, rfl, hA, hB, hC, hbb, h0, h1, hcap⟩ := hv
 have K0 := Lib.hid (show Kept w [(w.heap.size + 1 + 1 + 1 + 1 + 1, 80, zC), (w.heap.size + 1 + 1 + 1 + 1, 45, (vX x A cap B tc C cc b off sc)), (w.heap.size + 1 + 1 + 1, 80, zC), (w.heap.size + 1 + 1, 45, zV), (w.heap.size + 1, 84, #[.int .i64 2, .int .i64 a, .int .i64 b0, .int .i64 c0]), (w.heap.size, 45, (vX x A cap B tc C cc b off sc))] _ from (((((((Kept.refl w).put1 _ _ (vX x A cap B tc C cc b off sc) rfl).put1 _ _ #[.int .i64 2, .int .i64 a, .int .i64 b0, .int .i64 c0] (by simp)).put1 _ _ zV (by simp)).put1 _ _ zC (by simp)).put1 _ _ (vX x A cap B tc C cc b off sc) (by simp)).put1 _ _ zC (by simp)))
 generalize writeVol x a b0 = Y at S0 ⊢
 obtain ⟨y, p, q⟩ := Y
 simp only [] at S0 ⊢
 have SO := Lib.hid S0
 clear hA hB hC h0 h1 S0 h ha
 go_enter Tryz.func36, Tryz.ntmps36
 go_upto_region 3 with fail
 have hk0 := K0.out
 clear K0
 have lo0 : w.heap.size + 1 + 1 + 1 + 1 + 1 < _ := hk0.lt (x := (w.heap.size + 1 + 1 + 1 + 1 + 1, 80, zC)) (by simp)
 have lo1 : w.heap.size + 1 + 1 + 1 + 1 < _ := hk0.lt (x := (w.heap.size + 1 + 1 + 1 + 1, 45, (vX x A cap B tc C cc b off sc))) (by simp)
 have lo2 : w.heap.size + 1 + 1 + 1 < _ := hk0.lt (x := (w.heap.size + 1 + 1 + 1, 80, zC)) (by simp)
 have lo3 : w.heap.size + 1 + 1 < _ := hk0.lt (x := (w.heap.size + 1 + 1, 45, zV)) (by simp)
 have lo4 : w.heap.size + 1 < _ := hk0.lt (x := (w.heap.size + 1, 84, #[.int .i64 2, .int .i64 a, .int .i64 b0, .int .i64 c0])) (by simp)
 have lo5 : w.heap.size < _ := hk0.lt (x := (w.heap.size, 45, (vX x A cap B tc C cc b off sc))) (by simp)
 generalize World.alloc _ _ = w6 at hk0 lo0 lo1 lo2 lo3 lo4 lo5 ⊢
 obtain ⟨kc0, kf0, kc1, kf1, kc2, kf2, kc3, kf3, kc4, kf4, kc5, kf5, -⟩ := hk0.rd
 have KK := Lib.hid hk0
 clear hk0
 go_wp2_with fail
 refine (SO.out _ KK.out.1).mono ?_; rintro e u1 ⟨cs, rfl, hv, hb1⟩
 obtain ⟨A', c', B', d', C', e', b', o', s', e1, -⟩ := hv.reads
 injection e1 with e1; subst e1
 have hk1 := KK.out.below hb1
 have lz := hb1.size
 have hwb : w.heap.size ≤ w6.heap.size := KK.out.1.size
 clear SO
 clear kc0 kf0 kc1 kf1 kc2 kf2 kc3 kf3 kc4 kf4 kc5 kf5
 have hk2 := hk1.put1 u1.heap.size 45 (vX y A' c' B' d' C' e' b' o' s') rfl
 have hv2 := hv.below ((Below.refl _ _).alloc (Nat.le_refl _) (.cells (vX y A' c' B' d' C' e' b' o' s') 45))
 clear hb1 hk1 hv KK
 go_upto_region 9 with fail
 generalize World.alloc u1 _ = u2 at hk2 hv2 ⊢
 obtain ⟨kc0, kf0, kc1, kf1, kc2, kf2, kc3, kf3, kc4, kf4, kc5, kf5, kc6, kf6, -⟩ := hk2.rd
 have HV := Lib.hid hv2
 have KK := Lib.hid hk2
 clear hv2 hk2
 go_wp2_with fail
 obtain ⟨w9, e9, ⟨d0, d1, d2, d3, d4, d5⟩, ⟨f0, f1⟩, hb9, hv9⟩ := ans_end (w := w) (x0 := .int .i64 y.key) (x1 := .slice A' y.counts.length c') (x2 := .slice B' y.trusts.length d') (x3 := .slice C' y.cells.length e') (x4 := .slice (some ⟨b', o', none⟩) 2 s') (x5 := .int .i64 y.count) (a0 := .int .i64 q) (a1 := .int .i64 0) (KK.out.at_ (p := w.heap.size + 1 + 1) (t := 45) (cs := zV) (by simp)) (KK.out.at_ (p := w.heap.size + 1 + 1 + 1) (t := 80) (cs := zC) (by simp)) (by omega) KK.out.1 (by omega) (by omega)
 rw [e9]
 exact bodyPost_ret (v := .tuple #[.agg (vX y A' c' B' d' C' e' b' o' s'), .agg (cA q 0)]) (by simp [results, Tryz.results36, go_sem, d0, d1, d2, d3, d4, d5, f0, f1]) rfl ⟨_, rfl, (hv9 _ _ _ (by omega) (by omega) HV.out).mono hwb, hb9⟩
set_option maxRecDepth 20000 in
set_option maxHeartbeats 4000000 in
theorem l14Do_3 (x : VolN) (v : Value) (w : World) (h : x.Inv) (hv : VolR w w.heap.size x v) (a b0 c0 : Int) : Calls Tryz.prog 36 #[v, .agg #[.int .i64 3, .int .i64 a, .int .i64 b0, .int .i64 c0]] w (VolAnsA w ((stepVol x a).1, (stepVol x a).2, 0)) := by
 have S0 := fun (u : World) (hb : Below w.heap.size w u) => l12Step_r x v u h (hv.grow hb) a
 obtain ⟨A, cap, B, tc, C, cc, b, off, sc, rfl, hA, hB, hC, hbb, h0, h1, hcap⟩ := hv
 have K0 := Lib.hid (show Kept w [(w.heap.size + 1 + 1 + 1 + 1 + 1, 80, zC), (w.heap.size + 1 + 1 + 1 + 1, 45, (vX x A cap B tc C cc b off sc)), (w.heap.size + 1 + 1 + 1, 80, zC), (w.heap.size + 1 + 1, 45, zV), (w.heap.size + 1, 84, #[.int .i64 3, .int .i64 a, .int .i64 b0, .int .i64 c0]), (w.heap.size, 45, (vX x A cap B tc C cc b off sc))] _ from (((((((Kept.refl w).put1 _ _ (vX x A cap B tc C cc b off sc) rfl).put1 _ _ #[.int .i64 3, .int .i64 a, .int .i64 b0, .int .i64 c0] (by simp)).put1 _ _ zV (by simp)).put1 _ _ zC (by simp)).put1 _ _ (vX x A cap B tc C cc b off sc) (by simp)).put1 _ _ zC (by simp)))
 generalize stepVol x a = Y at S0 ⊢
 obtain ⟨y, p⟩ := Y
 simp only [] at S0 ⊢
 have SO := Lib.hid S0
 clear hA hB hC h0 h1 S0 h
 go_enter Tryz.func36, Tryz.ntmps36
 go_upto_region 3 with fail
 have hk0 := K0.out
 clear K0
 have lo0 : w.heap.size + 1 + 1 + 1 + 1 + 1 < _ := hk0.lt (x := (w.heap.size + 1 + 1 + 1 + 1 + 1, 80, zC)) (by simp)
 have lo1 : w.heap.size + 1 + 1 + 1 + 1 < _ := hk0.lt (x := (w.heap.size + 1 + 1 + 1 + 1, 45, (vX x A cap B tc C cc b off sc))) (by simp)
 have lo2 : w.heap.size + 1 + 1 + 1 < _ := hk0.lt (x := (w.heap.size + 1 + 1 + 1, 80, zC)) (by simp)
 have lo3 : w.heap.size + 1 + 1 < _ := hk0.lt (x := (w.heap.size + 1 + 1, 45, zV)) (by simp)
 have lo4 : w.heap.size + 1 < _ := hk0.lt (x := (w.heap.size + 1, 84, #[.int .i64 3, .int .i64 a, .int .i64 b0, .int .i64 c0])) (by simp)
 have lo5 : w.heap.size < _ := hk0.lt (x := (w.heap.size, 45, (vX x A cap B tc C cc b off sc))) (by simp)
 generalize World.alloc _ _ = w6 at hk0 lo0 lo1 lo2 lo3 lo4 lo5 ⊢
 obtain ⟨kc0, kf0, kc1, kf1, kc2, kf2, kc3, kf3, kc4, kf4, kc5, kf5, -⟩ := hk0.rd
 have KK := Lib.hid hk0
 clear hk0
 go_wp2_with fail
 refine (SO.out _ KK.out.1).mono ?_; rintro e u1 ⟨cs, rfl, hv, hb1⟩
 obtain ⟨A', c', B', d', C', e', b', o', s', e1, -⟩ := hv.reads
 injection e1 with e1; subst e1
 have hk1 := KK.out.below hb1
 have lz := hb1.size
 have hwb : w.heap.size ≤ w6.heap.size := KK.out.1.size
 clear SO
 clear kc0 kf0 kc1 kf1 kc2 kf2 kc3 kf3 kc4 kf4 kc5 kf5
 obtain ⟨kc0, kf0, kc1, kf1, kc2, kf2, kc3, kf3, kc4, kf4, kc5, kf5, -⟩ := hk1.rd
 have HV := Lib.hid hv
 have KK2 := Lib.hid hk1
 clear hv hk1 hb1 KK
 go_upto_region 24 with fail
 have h6 := vol_put (x0 := .int .i64 y.key) (x1 := .slice A' y.counts.length c') (x2 := .slice B' y.trusts.length d') (x3 := .slice C' y.cells.length e') (x4 := .slice (some ⟨b', o', none⟩) 2 s') (x5 := .int .i64 y.count) (KK2.out.at_ (p := w.heap.size + 1 + 1 + 1 + 1) (t := 45) (cs := (vX x A cap B tc C cc b off sc)) (by simp))
 have hk3 : Kept w [(w.heap.size + 1 + 1 + 1 + 1 + 1, 80, zC), (w.heap.size + 1 + 1 + 1 + 1, 45, (vX y A' c' B' d' C' e' b' o' s')), (w.heap.size + 1 + 1 + 1, 80, zC), (w.heap.size + 1 + 1, 45, zV), (w.heap.size + 1, 84, #[.int .i64 3, .int .i64 a, .int .i64 b0, .int .i64 c0]), (w.heap.size, 45, (vX x A cap B tc C cc b off sc))] _ := KK2.out.put (k := 1) rfl (by unfold Apart; simp <;> omega) h6.2 h6.1
 have hg7 := gb_set (gb_refl ((((((u1.setCell ⟨w.heap.size + 1 + 1 + 1 + 1, 0, none⟩ (.int .i64 y.key)).setCell ⟨w.heap.size + 1 + 1 + 1 + 1, 1, none⟩ (.slice A' y.counts.length c')).setCell ⟨w.heap.size + 1 + 1 + 1 + 1, 2, none⟩ (.slice B' y.trusts.length d')).setCell ⟨w.heap.size + 1 + 1 + 1 + 1, 3, none⟩ (.slice C' y.cells.length e')).setCell ⟨w.heap.size + 1 + 1 + 1 + 1, 4, none⟩ (.slice (some ⟨b', o', none⟩) 2 s')).setCell ⟨w.heap.size + 1 + 1 + 1 + 1, 5, none⟩ (.int .i64 y.count)) (some (w.heap.size + 1 + 1 + 1 + 1 + 1))) 0 (.int .i64 p)
 have hk4 : Kept w [(w.heap.size + 1 + 1 + 1 + 1 + 1, 80, (cA p 0)), (w.heap.size + 1 + 1 + 1 + 1, 45, (vX y A' c' B' d' C' e' b' o' s')), (w.heap.size + 1 + 1 + 1, 80, zC), (w.heap.size + 1 + 1, 45, zV), (w.heap.size + 1, 84, #[.int .i64 3, .int .i64 a, .int .i64 b0, .int .i64 c0]), (w.heap.size, 45, (vX x A cap B tc C cc b off sc))] _ := hk3.put (k := 0) rfl (by unfold Apart; simp <;> omega) hg7 ((hk3.at_ (p := w.heap.size + 1 + 1 + 1 + 1 + 1) (t := 80) (cs := zC) (by simp)).set_ 0 _)
 have hv4 := (HV.out.out h6.2 lo1).out hg7 lo0
 clear h6 hk3 hg7 HV KK2
 clear kc0 kf0 kc1 kf1 kc2 kf2 kc3 kf3 kc4 kf4 kc5 kf5
 generalize World.setCell _ _ _ = u2 at hk4 hv4 ⊢
 obtain ⟨kc0, kf0, kc1, kf1, kc2, kf2, kc3, kf3, kc4, kf4, kc5, kf5, -⟩ := hk4.rd
 have HV := Lib.hid hv4
 have KK := Lib.hid hk4
 clear hv4 hk4
 go_region
 go_wp2_with fail
 obtain ⟨w9, e9, ⟨d0, d1, d2, d3, d4, d5⟩, ⟨f0, f1⟩, hb9, hv9⟩ := ans_end (w := w) (x0 := .int .i64 y.key) (x1 := .slice A' y.counts.length c') (x2 := .slice B' y.trusts.length d') (x3 := .slice C' y.cells.length e') (x4 := .slice (some ⟨b', o', none⟩) 2 s') (x5 := .int .i64 y.count) (a0 := .int .i64 p) (a1 := .int .i64 0) (KK.out.at_ (p := w.heap.size + 1 + 1) (t := 45) (cs := zV) (by simp)) (KK.out.at_ (p := w.heap.size + 1 + 1 + 1) (t := 80) (cs := zC) (by simp)) (by omega) KK.out.1 (by omega) (by omega)
 rw [e9]
 exact bodyPost_ret (v := .tuple #[.agg (vX y A' c' B' d' C' e' b' o' s'), .agg (cA p 0)]) (by simp [results, Tryz.results36, go_sem, d0, d1, d2, d3, d4, d5, f0, f1]) rfl ⟨_, rfl, show VolO w9.drew _ _ _ from (hv9 _ _ _ (by omega) (by omega) HV.out).mono hwb, hb9.drew⟩
set_option maxRecDepth 20000 in
set_option maxHeartbeats 4000000 in
theorem l14Do_4 (x : VolN) (v : Value) (w : World) (h : x.Inv) (hv : VolR w w.heap.size x v) (a b0 c0 : Int) (hr0 : 0 ≤ a) (hr : a < x.counts.length) : Calls Tryz.prog 36 #[v, .agg #[.int .i64 4, .int .i64 a, .int .i64 b0, .int .i64 c0]] w (VolAnsA w ((closeVol x a).1, (closeVol x a).2, 0)) := by
 have S0 := fun (u : World) (hb : Below w.heap.size w u) => l12Close_r x v u h (hv.grow hb) a hr0 hr
 obtain ⟨A, cap, B, tc, C, cc, b, off, sc, rfl, hA, hB, hC, hbb, h0, h1, hcap⟩ := hv
 have K0 := Lib.hid (show Kept w [(w.heap.size + 1 + 1 + 1 + 1 + 1, 80, zC), (w.heap.size + 1 + 1 + 1 + 1, 45, (vX x A cap B tc C cc b off sc)), (w.heap.size + 1 + 1 + 1, 80, zC), (w.heap.size + 1 + 1, 45, zV), (w.heap.size + 1, 84, #[.int .i64 4, .int .i64 a, .int .i64 b0, .int .i64 c0]), (w.heap.size, 45, (vX x A cap B tc C cc b off sc))] _ from (((((((Kept.refl w).put1 _ _ (vX x A cap B tc C cc b off sc) rfl).put1 _ _ #[.int .i64 4, .int .i64 a, .int .i64 b0, .int .i64 c0] (by simp)).put1 _ _ zV (by simp)).put1 _ _ zC (by simp)).put1 _ _ (vX x A cap B tc C cc b off sc) (by simp)).put1 _ _ zC (by simp)))
 generalize closeVol x a = Y at S0 ⊢
 obtain ⟨y, p⟩ := Y
 simp only [] at S0 ⊢
 have SO := Lib.hid S0
 clear hA hB hC h0 h1 S0 h hr0 hr
 go_enter Tryz.func36, Tryz.ntmps36
 go_upto_region 3 with fail
 have hk0 := K0.out
 clear K0
 have lo0 : w.heap.size + 1 + 1 + 1 + 1 + 1 < _ := hk0.lt (x := (w.heap.size + 1 + 1 + 1 + 1 + 1, 80, zC)) (by simp)
 have lo1 : w.heap.size + 1 + 1 + 1 + 1 < _ := hk0.lt (x := (w.heap.size + 1 + 1 + 1 + 1, 45, (vX x A cap B tc C cc b off sc))) (by simp)
 have lo2 : w.heap.size + 1 + 1 + 1 < _ := hk0.lt (x := (w.heap.size + 1 + 1 + 1, 80, zC)) (by simp)
 have lo3 : w.heap.size + 1 + 1 < _ := hk0.lt (x := (w.heap.size + 1 + 1, 45, zV)) (by simp)
 have lo4 : w.heap.size + 1 < _ := hk0.lt (x := (w.heap.size + 1, 84, #[.int .i64 4, .int .i64 a, .int .i64 b0, .int .i64 c0])) (by simp)
 have lo5 : w.heap.size < _ := hk0.lt (x := (w.heap.size, 45, (vX x A cap B tc C cc b off sc))) (by simp)
 generalize World.alloc _ _ = w6 at hk0 lo0 lo1 lo2 lo3 lo4 lo5 ⊢
 obtain ⟨kc0, kf0, kc1, kf1, kc2, kf2, kc3, kf3, kc4, kf4, kc5, kf5, -⟩ := hk0.rd
 have KK := Lib.hid hk0
 clear hk0
 go_wp2_with fail
 refine (SO.out _ KK.out.1).mono ?_; rintro e u1 ⟨cs, rfl, hv, hb1⟩
 obtain ⟨A', c', B', d', C', e', b', o', s', e1, -⟩ := hv.reads
 injection e1 with e1; subst e1
 have hk1 := KK.out.below hb1
 have lz := hb1.size
 have hwb : w.heap.size ≤ w6.heap.size := KK.out.1.size
 clear SO
 clear kc0 kf0 kc1 kf1 kc2 kf2 kc3 kf3 kc4 kf4 kc5 kf5
 obtain ⟨kc0, kf0, kc1, kf1, kc2, kf2, kc3, kf3, kc4, kf4, kc5, kf5, -⟩ := hk1.rd
 have HV := Lib.hid hv
 have KK2 := Lib.hid hk1
 clear hv hk1 hb1 KK
 go_upto_region 24 with fail
 have h6 := vol_put (x0 := .int .i64 y.key) (x1 := .slice A' y.counts.length c') (x2 := .slice B' y.trusts.length d') (x3 := .slice C' y.cells.length e') (x4 := .slice (some ⟨b', o', none⟩) 2 s') (x5 := .int .i64 y.count) (KK2.out.at_ (p := w.heap.size + 1 + 1 + 1 + 1) (t := 45) (cs := (vX x A cap B tc C cc b off sc)) (by simp))
 have hk3 : Kept w [(w.heap.size + 1 + 1 + 1 + 1 + 1, 80, zC), (w.heap.size + 1 + 1 + 1 + 1, 45, (vX y A' c' B' d' C' e' b' o' s')), (w.heap.size + 1 + 1 + 1, 80, zC), (w.heap.size + 1 + 1, 45, zV), (w.heap.size + 1, 84, #[.int .i64 4, .int .i64 a, .int .i64 b0, .int .i64 c0]), (w.heap.size, 45, (vX x A cap B tc C cc b off sc))] _ := KK2.out.put (k := 1) rfl (by unfold Apart; simp <;> omega) h6.2 h6.1
 have hg7 := gb_set (gb_refl ((((((u1.setCell ⟨w.heap.size + 1 + 1 + 1 + 1, 0, none⟩ (.int .i64 y.key)).setCell ⟨w.heap.size + 1 + 1 + 1 + 1, 1, none⟩ (.slice A' y.counts.length c')).setCell ⟨w.heap.size + 1 + 1 + 1 + 1, 2, none⟩ (.slice B' y.trusts.length d')).setCell ⟨w.heap.size + 1 + 1 + 1 + 1, 3, none⟩ (.slice C' y.cells.length e')).setCell ⟨w.heap.size + 1 + 1 + 1 + 1, 4, none⟩ (.slice (some ⟨b', o', none⟩) 2 s')).setCell ⟨w.heap.size + 1 + 1 + 1 + 1, 5, none⟩ (.int .i64 y.count)) (some (w.heap.size + 1 + 1 + 1 + 1 + 1))) 0 (.int .i64 p)
 have hk4 : Kept w [(w.heap.size + 1 + 1 + 1 + 1 + 1, 80, (cA p 0)), (w.heap.size + 1 + 1 + 1 + 1, 45, (vX y A' c' B' d' C' e' b' o' s')), (w.heap.size + 1 + 1 + 1, 80, zC), (w.heap.size + 1 + 1, 45, zV), (w.heap.size + 1, 84, #[.int .i64 4, .int .i64 a, .int .i64 b0, .int .i64 c0]), (w.heap.size, 45, (vX x A cap B tc C cc b off sc))] _ := hk3.put (k := 0) rfl (by unfold Apart; simp <;> omega) hg7 ((hk3.at_ (p := w.heap.size + 1 + 1 + 1 + 1 + 1) (t := 80) (cs := zC) (by simp)).set_ 0 _)
 have hv4 := (HV.out.out h6.2 lo1).out hg7 lo0
 clear h6 hk3 hg7 HV KK2
 clear kc0 kf0 kc1 kf1 kc2 kf2 kc3 kf3 kc4 kf4 kc5 kf5
 generalize World.setCell _ _ _ = u2 at hk4 hv4 ⊢
 obtain ⟨kc0, kf0, kc1, kf1, kc2, kf2, kc3, kf3, kc4, kf4, kc5, kf5, -⟩ := hk4.rd
 have HV := Lib.hid hv4
 have KK := Lib.hid hk4
 clear hv4 hk4
 go_region
 go_wp2_with fail
 obtain ⟨w9, e9, ⟨d0, d1, d2, d3, d4, d5⟩, ⟨f0, f1⟩, hb9, hv9⟩ := ans_end (w := w) (x0 := .int .i64 y.key) (x1 := .slice A' y.counts.length c') (x2 := .slice B' y.trusts.length d') (x3 := .slice C' y.cells.length e') (x4 := .slice (some ⟨b', o', none⟩) 2 s') (x5 := .int .i64 y.count) (a0 := .int .i64 p) (a1 := .int .i64 0) (KK.out.at_ (p := w.heap.size + 1 + 1) (t := 45) (cs := zV) (by simp)) (KK.out.at_ (p := w.heap.size + 1 + 1 + 1) (t := 80) (cs := zC) (by simp)) (by omega) KK.out.1 (by omega) (by omega)
 rw [e9]
 exact bodyPost_ret (v := .tuple #[.agg (vX y A' c' B' d' C' e' b' o' s'), .agg (cA p 0)]) (by simp [results, Tryz.results36, go_sem, d0, d1, d2, d3, d4, d5, f0, f1]) rfl ⟨_, rfl, show VolO w9.drew _ _ _ from (hv9 _ _ _ (by omega) (by omega) HV.out).mono hwb, hb9.drew⟩
set_option maxRecDepth 20000 in
set_option maxHeartbeats 4000000 in
theorem l14Do_5 (x : VolN) (v : Value) (w : World) (h : x.Inv) (hv : VolR w w.heap.size x v) (a b0 c0 : Int) : Calls Tryz.prog 36 #[v, .agg #[.int .i64 5, .int .i64 a, .int .i64 b0, .int .i64 c0]] w (VolAnsA w ((saveVol x 3).1, (saveVol x 3).2, 0)) := by
 have S0 := fun (u : World) (hb : Below w.heap.size w u) => l13Save_r x v u h (hv.grow hb) 3
 obtain ⟨A, cap, B, tc, C, cc, b, off, sc, rfl, hA, hB, hC, hbb, h0, h1, hcap⟩ := hv
 have K0 := Lib.hid (show Kept w [(w.heap.size + 1 + 1 + 1 + 1 + 1, 80, zC), (w.heap.size + 1 + 1 + 1 + 1, 45, (vX x A cap B tc C cc b off sc)), (w.heap.size + 1 + 1 + 1, 80, zC), (w.heap.size + 1 + 1, 45, zV), (w.heap.size + 1, 84, #[.int .i64 5, .int .i64 a, .int .i64 b0, .int .i64 c0]), (w.heap.size, 45, (vX x A cap B tc C cc b off sc))] _ from (((((((Kept.refl w).put1 _ _ (vX x A cap B tc C cc b off sc) rfl).put1 _ _ #[.int .i64 5, .int .i64 a, .int .i64 b0, .int .i64 c0] (by simp)).put1 _ _ zV (by simp)).put1 _ _ zC (by simp)).put1 _ _ (vX x A cap B tc C cc b off sc) (by simp)).put1 _ _ zC (by simp)))
 generalize saveVol x 3 = Y at S0 ⊢
 obtain ⟨y, p⟩ := Y
 simp only [] at S0 ⊢
 have SO := Lib.hid S0
 clear hA hB hC h0 h1 S0 h
 go_enter Tryz.func36, Tryz.ntmps36
 go_upto_region 3 with fail
 have hk0 := K0.out
 clear K0
 have lo0 : w.heap.size + 1 + 1 + 1 + 1 + 1 < _ := hk0.lt (x := (w.heap.size + 1 + 1 + 1 + 1 + 1, 80, zC)) (by simp)
 have lo1 : w.heap.size + 1 + 1 + 1 + 1 < _ := hk0.lt (x := (w.heap.size + 1 + 1 + 1 + 1, 45, (vX x A cap B tc C cc b off sc))) (by simp)
 have lo2 : w.heap.size + 1 + 1 + 1 < _ := hk0.lt (x := (w.heap.size + 1 + 1 + 1, 80, zC)) (by simp)
 have lo3 : w.heap.size + 1 + 1 < _ := hk0.lt (x := (w.heap.size + 1 + 1, 45, zV)) (by simp)
 have lo4 : w.heap.size + 1 < _ := hk0.lt (x := (w.heap.size + 1, 84, #[.int .i64 5, .int .i64 a, .int .i64 b0, .int .i64 c0])) (by simp)
 have lo5 : w.heap.size < _ := hk0.lt (x := (w.heap.size, 45, (vX x A cap B tc C cc b off sc))) (by simp)
 generalize World.alloc _ _ = w6 at hk0 lo0 lo1 lo2 lo3 lo4 lo5 ⊢
 obtain ⟨kc0, kf0, kc1, kf1, kc2, kf2, kc3, kf3, kc4, kf4, kc5, kf5, -⟩ := hk0.rd
 have KK := Lib.hid hk0
 clear hk0
 go_wp2_with fail
 refine (SO.out _ KK.out.1).mono ?_; rintro e u1 ⟨cs, rfl, hv, hb1⟩
 obtain ⟨A', c', B', d', C', e', b', o', s', e1, -⟩ := hv.reads
 injection e1 with e1; subst e1
 have hk1 := KK.out.below hb1
 have lz := hb1.size
 have hwb : w.heap.size ≤ w6.heap.size := KK.out.1.size
 clear SO
 clear kc0 kf0 kc1 kf1 kc2 kf2 kc3 kf3 kc4 kf4 kc5 kf5
 obtain ⟨kc0, kf0, kc1, kf1, kc2, kf2, kc3, kf3, kc4, kf4, kc5, kf5, -⟩ := hk1.rd
 have HV := Lib.hid hv
 have KK2 := Lib.hid hk1
 clear hv hk1 hb1 KK
 go_upto_region 24 with fail
 have h6 := vol_put (x0 := .int .i64 y.key) (x1 := .slice A' y.counts.length c') (x2 := .slice B' y.trusts.length d') (x3 := .slice C' y.cells.length e') (x4 := .slice (some ⟨b', o', none⟩) 2 s') (x5 := .int .i64 y.count) (KK2.out.at_ (p := w.heap.size + 1 + 1 + 1 + 1) (t := 45) (cs := (vX x A cap B tc C cc b off sc)) (by simp))
 have hk3 : Kept w [(w.heap.size + 1 + 1 + 1 + 1 + 1, 80, zC), (w.heap.size + 1 + 1 + 1 + 1, 45, (vX y A' c' B' d' C' e' b' o' s')), (w.heap.size + 1 + 1 + 1, 80, zC), (w.heap.size + 1 + 1, 45, zV), (w.heap.size + 1, 84, #[.int .i64 5, .int .i64 a, .int .i64 b0, .int .i64 c0]), (w.heap.size, 45, (vX x A cap B tc C cc b off sc))] _ := KK2.out.put (k := 1) rfl (by unfold Apart; simp <;> omega) h6.2 h6.1
 have hg7 := gb_set (gb_refl ((((((u1.setCell ⟨w.heap.size + 1 + 1 + 1 + 1, 0, none⟩ (.int .i64 y.key)).setCell ⟨w.heap.size + 1 + 1 + 1 + 1, 1, none⟩ (.slice A' y.counts.length c')).setCell ⟨w.heap.size + 1 + 1 + 1 + 1, 2, none⟩ (.slice B' y.trusts.length d')).setCell ⟨w.heap.size + 1 + 1 + 1 + 1, 3, none⟩ (.slice C' y.cells.length e')).setCell ⟨w.heap.size + 1 + 1 + 1 + 1, 4, none⟩ (.slice (some ⟨b', o', none⟩) 2 s')).setCell ⟨w.heap.size + 1 + 1 + 1 + 1, 5, none⟩ (.int .i64 y.count)) (some (w.heap.size + 1 + 1 + 1 + 1 + 1))) 0 (.int .i64 p)
 have hk4 : Kept w [(w.heap.size + 1 + 1 + 1 + 1 + 1, 80, (cA p 0)), (w.heap.size + 1 + 1 + 1 + 1, 45, (vX y A' c' B' d' C' e' b' o' s')), (w.heap.size + 1 + 1 + 1, 80, zC), (w.heap.size + 1 + 1, 45, zV), (w.heap.size + 1, 84, #[.int .i64 5, .int .i64 a, .int .i64 b0, .int .i64 c0]), (w.heap.size, 45, (vX x A cap B tc C cc b off sc))] _ := hk3.put (k := 0) rfl (by unfold Apart; simp <;> omega) hg7 ((hk3.at_ (p := w.heap.size + 1 + 1 + 1 + 1 + 1) (t := 80) (cs := zC) (by simp)).set_ 0 _)
 have hv4 := (HV.out.out h6.2 lo1).out hg7 lo0
 clear h6 hk3 hg7 HV KK2
 clear kc0 kf0 kc1 kf1 kc2 kf2 kc3 kf3 kc4 kf4 kc5 kf5
 generalize World.setCell _ _ _ = u2 at hk4 hv4 ⊢
 obtain ⟨kc0, kf0, kc1, kf1, kc2, kf2, kc3, kf3, kc4, kf4, kc5, kf5, -⟩ := hk4.rd
 have HV := Lib.hid hv4
 have KK := Lib.hid hk4
 clear hv4 hk4
 go_region
 go_wp2_with fail
 obtain ⟨w9, e9, ⟨d0, d1, d2, d3, d4, d5⟩, ⟨f0, f1⟩, hb9, hv9⟩ := ans_end (w := w) (x0 := .int .i64 y.key) (x1 := .slice A' y.counts.length c') (x2 := .slice B' y.trusts.length d') (x3 := .slice C' y.cells.length e') (x4 := .slice (some ⟨b', o', none⟩) 2 s') (x5 := .int .i64 y.count) (a0 := .int .i64 p) (a1 := .int .i64 0) (KK.out.at_ (p := w.heap.size + 1 + 1) (t := 45) (cs := zV) (by simp)) (KK.out.at_ (p := w.heap.size + 1 + 1 + 1) (t := 80) (cs := zC) (by simp)) (by omega) KK.out.1 (by omega) (by omega)
 rw [e9]
 exact bodyPost_ret (v := .tuple #[.agg (vX y A' c' B' d' C' e' b' o' s'), .agg (cA p 0)]) (by simp [results, Tryz.results36, go_sem, d0, d1, d2, d3, d4, d5, f0, f1]) rfl ⟨_, rfl, show VolO w9.drew _ _ _ from (hv9 _ _ _ (by omega) (by omega) HV.out).mono hwb, hb9.drew⟩
set_option maxRecDepth 20000 in
set_option maxHeartbeats 4000000 in
theorem l14Do_6 (x : VolN) (v : Value) (w : World) (h : x.Inv) (hv : VolR w w.heap.size x v) (a b0 c0 : Int) : Calls Tryz.prog 36 #[v, .agg #[.int .i64 6, .int .i64 a, .int .i64 b0, .int .i64 c0]] w (VolAnsA w (fall14 x a)) := by
 have S0 := fun (u : World) (hb : Below w.heap.size w u) => l14Fall_r x v u h (hv.grow hb) a
 obtain ⟨A, cap, B, tc, C, cc, b, off, sc, rfl, hA, hB, hC, hbb, h0, h1, hcap⟩ := hv
 have K0 := Lib.hid (show Kept w [(w.heap.size + 1 + 1 + 1 + 1 + 1, 80, zC), (w.heap.size + 1 + 1 + 1 + 1, 45, (vX x A cap B tc C cc b off sc)), (w.heap.size + 1 + 1 + 1, 80, zC), (w.heap.size + 1 + 1, 45, zV), (w.heap.size + 1, 84, #[.int .i64 6, .int .i64 a, .int .i64 b0, .int .i64 c0]), (w.heap.size, 45, (vX x A cap B tc C cc b off sc))] _ from (((((((Kept.refl w).put1 _ _ (vX x A cap B tc C cc b off sc) rfl).put1 _ _ #[.int .i64 6, .int .i64 a, .int .i64 b0, .int .i64 c0] (by simp)).put1 _ _ zV (by simp)).put1 _ _ zC (by simp)).put1 _ _ (vX x A cap B tc C cc b off sc) (by simp)).put1 _ _ zC (by simp)))
 generalize fall14 x a = Y at S0 ⊢
 obtain ⟨y, p, q⟩ := Y
 have SO := Lib.hid S0
 clear hA hB hC h0 h1 S0 h
 go_enter Tryz.func36, Tryz.ntmps36
 go_upto_region 3 with fail
 have hk0 := K0.out
 clear K0
 have lo0 : w.heap.size + 1 + 1 + 1 + 1 + 1 < _ := hk0.lt (x := (w.heap.size + 1 + 1 + 1 + 1 + 1, 80, zC)) (by simp)
 have lo1 : w.heap.size + 1 + 1 + 1 + 1 < _ := hk0.lt (x := (w.heap.size + 1 + 1 + 1 + 1, 45, (vX x A cap B tc C cc b off sc))) (by simp)
 have lo2 : w.heap.size + 1 + 1 + 1 < _ := hk0.lt (x := (w.heap.size + 1 + 1 + 1, 80, zC)) (by simp)
 have lo3 : w.heap.size + 1 + 1 < _ := hk0.lt (x := (w.heap.size + 1 + 1, 45, zV)) (by simp)
 have lo4 : w.heap.size + 1 < _ := hk0.lt (x := (w.heap.size + 1, 84, #[.int .i64 6, .int .i64 a, .int .i64 b0, .int .i64 c0])) (by simp)
 have lo5 : w.heap.size < _ := hk0.lt (x := (w.heap.size, 45, (vX x A cap B tc C cc b off sc))) (by simp)
 generalize World.alloc _ _ = w6 at hk0 lo0 lo1 lo2 lo3 lo4 lo5 ⊢
 obtain ⟨kc0, kf0, kc1, kf1, kc2, kf2, kc3, kf3, kc4, kf4, kc5, kf5, -⟩ := hk0.rd
 have KK := Lib.hid hk0
 clear hk0
 go_wp2_with fail
 refine (SO.out _ KK.out.1).mono ?_; rintro e u1 ⟨cs, rfl, hv, hb1⟩
 obtain ⟨A', c', B', d', C', e', b', o', s', e1, -⟩ := hv.reads
 injection e1 with e1; subst e1
 have hk1 := KK.out.below hb1
 have lz := hb1.size
 have hwb : w.heap.size ≤ w6.heap.size := KK.out.1.size
 clear SO
 clear kc0 kf0 kc1 kf1 kc2 kf2 kc3 kf3 kc4 kf4 kc5 kf5
 obtain ⟨kc0, kf0, kc1, kf1, kc2, kf2, kc3, kf3, kc4, kf4, kc5, kf5, -⟩ := hk1.rd
 have HV := Lib.hid hv
 have KK2 := Lib.hid hk1
 clear hv hk1 hb1 KK
 go_wp2_with fail
 obtain ⟨w9, e9, ⟨d0, d1, d2, d3, d4, d5⟩, ⟨f0, f1⟩, hb9, hv9⟩ := ans_end (w := w) (x0 := .int .i64 y.key) (x1 := .slice A' y.counts.length c') (x2 := .slice B' y.trusts.length d') (x3 := .slice C' y.cells.length e') (x4 := .slice (some ⟨b', o', none⟩) 2 s') (x5 := .int .i64 y.count) (a0 := .int .i64 p) (a1 := .int .i64 q) (KK2.out.at_ (p := w.heap.size + 1 + 1) (t := 45) (cs := zV) (by simp)) (KK2.out.at_ (p := w.heap.size + 1 + 1 + 1) (t := 80) (cs := zC) (by simp)) (by omega) KK2.out.1 (by omega) (by omega)
 rw [e9]
 exact bodyPost_ret (v := .tuple #[.agg (vX y A' c' B' d' C' e' b' o' s'), .agg (cA p q)]) (by simp [results, Tryz.results36, go_sem, d0, d1, d2, d3, d4, d5, f0, f1]) rfl ⟨_, rfl, (hv9 _ _ _ (by omega) (by omega) HV.out).mono hwb, hb9⟩
set_option maxRecDepth 20000 in
set_option maxHeartbeats 4000000 in
theorem l14Do_7 (x : VolN) (v : Value) (w : World) (h : x.Inv) (hv : VolR w w.heap.size x v) (a b0 c0 : Int) : Calls Tryz.prog 36 #[v, .agg #[.int .i64 7, .int .i64 a, .int .i64 b0, .int .i64 c0]] w (VolAnsA w (bendVol x a b0 c0)) := by
 have S0 := fun (u : World) (hb : Below w.heap.size w u) => l14Bend_r x v u h (hv.grow hb) a b0 c0
 obtain ⟨A, cap, B, tc, C, cc, b, off, sc, rfl, hA, hB, hC, hbb, h0, h1, hcap⟩ := hv
 have K0 := Lib.hid (show Kept w [(w.heap.size + 1 + 1 + 1 + 1 + 1, 80, zC), (w.heap.size + 1 + 1 + 1 + 1, 45, (vX x A cap B tc C cc b off sc)), (w.heap.size + 1 + 1 + 1, 80, zC), (w.heap.size + 1 + 1, 45, zV), (w.heap.size + 1, 84, #[.int .i64 7, .int .i64 a, .int .i64 b0, .int .i64 c0]), (w.heap.size, 45, (vX x A cap B tc C cc b off sc))] _ from (((((((Kept.refl w).put1 _ _ (vX x A cap B tc C cc b off sc) rfl).put1 _ _ #[.int .i64 7, .int .i64 a, .int .i64 b0, .int .i64 c0] (by simp)).put1 _ _ zV (by simp)).put1 _ _ zC (by simp)).put1 _ _ (vX x A cap B tc C cc b off sc) (by simp)).put1 _ _ zC (by simp)))
 generalize bendVol x a b0 c0 = Y at S0 ⊢
 obtain ⟨y, p, q⟩ := Y
 have SO := Lib.hid S0
 clear hA hB hC h0 h1 S0 h
 go_enter Tryz.func36, Tryz.ntmps36
 go_upto_region 3 with fail
 have hk0 := K0.out
 clear K0
 have lo0 : w.heap.size + 1 + 1 + 1 + 1 + 1 < _ := hk0.lt (x := (w.heap.size + 1 + 1 + 1 + 1 + 1, 80, zC)) (by simp)
 have lo1 : w.heap.size + 1 + 1 + 1 + 1 < _ := hk0.lt (x := (w.heap.size + 1 + 1 + 1 + 1, 45, (vX x A cap B tc C cc b off sc))) (by simp)
 have lo2 : w.heap.size + 1 + 1 + 1 < _ := hk0.lt (x := (w.heap.size + 1 + 1 + 1, 80, zC)) (by simp)
 have lo3 : w.heap.size + 1 + 1 < _ := hk0.lt (x := (w.heap.size + 1 + 1, 45, zV)) (by simp)
 have lo4 : w.heap.size + 1 < _ := hk0.lt (x := (w.heap.size + 1, 84, #[.int .i64 7, .int .i64 a, .int .i64 b0, .int .i64 c0])) (by simp)
 have lo5 : w.heap.size < _ := hk0.lt (x := (w.heap.size, 45, (vX x A cap B tc C cc b off sc))) (by simp)
 generalize World.alloc _ _ = w6 at hk0 lo0 lo1 lo2 lo3 lo4 lo5 ⊢
 obtain ⟨kc0, kf0, kc1, kf1, kc2, kf2, kc3, kf3, kc4, kf4, kc5, kf5, -⟩ := hk0.rd
 have KK := Lib.hid hk0
 clear hk0
 go_wp2_with fail
 refine (SO.out _ KK.out.1).mono ?_; rintro e u1 ⟨cs, rfl, hv, hb1⟩
 obtain ⟨A', c', B', d', C', e', b', o', s', e1, -⟩ := hv.reads
 injection e1 with e1; subst e1
 have hk1 := KK.out.below hb1
 have lz := hb1.size
 have hwb : w.heap.size ≤ w6.heap.size := KK.out.1.size
 clear SO
 clear kc0 kf0 kc1 kf1 kc2 kf2 kc3 kf3 kc4 kf4 kc5 kf5
 obtain ⟨kc0, kf0, kc1, kf1, kc2, kf2, kc3, kf3, kc4, kf4, kc5, kf5, -⟩ := hk1.rd
 have HV := Lib.hid hv
 have KK2 := Lib.hid hk1
 clear hv hk1 hb1 KK
 go_wp2_with fail
 obtain ⟨w9, e9, ⟨d0, d1, d2, d3, d4, d5⟩, ⟨f0, f1⟩, hb9, hv9⟩ := ans_end (w := w) (x0 := .int .i64 y.key) (x1 := .slice A' y.counts.length c') (x2 := .slice B' y.trusts.length d') (x3 := .slice C' y.cells.length e') (x4 := .slice (some ⟨b', o', none⟩) 2 s') (x5 := .int .i64 y.count) (a0 := .int .i64 p) (a1 := .int .i64 q) (KK2.out.at_ (p := w.heap.size + 1 + 1) (t := 45) (cs := zV) (by simp)) (KK2.out.at_ (p := w.heap.size + 1 + 1 + 1) (t := 80) (cs := zC) (by simp)) (by omega) KK2.out.1 (by omega) (by omega)
 rw [e9]
 exact bodyPost_ret (v := .tuple #[.agg (vX y A' c' B' d' C' e' b' o' s'), .agg (cA p q)]) (by simp [results, Tryz.results36, go_sem, d0, d1, d2, d3, d4, d5, f0, f1]) rfl ⟨_, rfl, (hv9 _ _ _ (by omega) (by omega) HV.out).mono hwb, hb9⟩
set_option maxRecDepth 20000 in
set_option maxHeartbeats 4000000 in
theorem l14Do_8 (x : VolN) (v : Value) (w : World) (h : x.Inv) (hv : VolR w w.heap.size x v) (a b0 c0 : Int) : Calls Tryz.prog 36 #[v, .agg #[.int .i64 8, .int .i64 a, .int .i64 b0, .int .i64 c0]] w (VolAnsA w (replayVol x a b0)) := by
 have S0 := fun (u : World) (hb : Below w.heap.size w u) => l14Replay_r x v u h (hv.grow hb) a b0
 obtain ⟨A, cap, B, tc, C, cc, b, off, sc, rfl, hA, hB, hC, hbb, h0, h1, hcap⟩ := hv
 have K0 := Lib.hid (show Kept w [(w.heap.size + 1 + 1 + 1 + 1 + 1, 80, zC), (w.heap.size + 1 + 1 + 1 + 1, 45, (vX x A cap B tc C cc b off sc)), (w.heap.size + 1 + 1 + 1, 80, zC), (w.heap.size + 1 + 1, 45, zV), (w.heap.size + 1, 84, #[.int .i64 8, .int .i64 a, .int .i64 b0, .int .i64 c0]), (w.heap.size, 45, (vX x A cap B tc C cc b off sc))] _ from (((((((Kept.refl w).put1 _ _ (vX x A cap B tc C cc b off sc) rfl).put1 _ _ #[.int .i64 8, .int .i64 a, .int .i64 b0, .int .i64 c0] (by simp)).put1 _ _ zV (by simp)).put1 _ _ zC (by simp)).put1 _ _ (vX x A cap B tc C cc b off sc) (by simp)).put1 _ _ zC (by simp)))
 generalize replayVol x a b0 = Y at S0 ⊢
 obtain ⟨y, p, q⟩ := Y
 have SO := Lib.hid S0
 clear hA hB hC h0 h1 S0 h
 go_enter Tryz.func36, Tryz.ntmps36
 go_upto_region 3 with fail
 have hk0 := K0.out
 clear K0
 have lo0 : w.heap.size + 1 + 1 + 1 + 1 + 1 < _ := hk0.lt (x := (w.heap.size + 1 + 1 + 1 + 1 + 1, 80, zC)) (by simp)
 have lo1 : w.heap.size + 1 + 1 + 1 + 1 < _ := hk0.lt (x := (w.heap.size + 1 + 1 + 1 + 1, 45, (vX x A cap B tc C cc b off sc))) (by simp)
 have lo2 : w.heap.size + 1 + 1 + 1 < _ := hk0.lt (x := (w.heap.size + 1 + 1 + 1, 80, zC)) (by simp)
 have lo3 : w.heap.size + 1 + 1 < _ := hk0.lt (x := (w.heap.size + 1 + 1, 45, zV)) (by simp)
 have lo4 : w.heap.size + 1 < _ := hk0.lt (x := (w.heap.size + 1, 84, #[.int .i64 8, .int .i64 a, .int .i64 b0, .int .i64 c0])) (by simp)
 have lo5 : w.heap.size < _ := hk0.lt (x := (w.heap.size, 45, (vX x A cap B tc C cc b off sc))) (by simp)
 generalize World.alloc _ _ = w6 at hk0 lo0 lo1 lo2 lo3 lo4 lo5 ⊢
 obtain ⟨kc0, kf0, kc1, kf1, kc2, kf2, kc3, kf3, kc4, kf4, kc5, kf5, -⟩ := hk0.rd
 have KK := Lib.hid hk0
 clear hk0
 go_wp2_with fail
 refine (SO.out _ KK.out.1).mono ?_; rintro e u1 ⟨cs, rfl, hv, hb1⟩
 obtain ⟨A', c', B', d', C', e', b', o', s', e1, -⟩ := hv.reads
 injection e1 with e1; subst e1
 have hk1 := KK.out.below hb1
 have lz := hb1.size
 have hwb : w.heap.size ≤ w6.heap.size := KK.out.1.size
 clear SO
 clear kc0 kf0 kc1 kf1 kc2 kf2 kc3 kf3 kc4 kf4 kc5 kf5
 obtain ⟨kc0, kf0, kc1, kf1, kc2, kf2, kc3, kf3, kc4, kf4, kc5, kf5, -⟩ := hk1.rd
 have HV := Lib.hid hv
 have KK2 := Lib.hid hk1
 clear hv hk1 hb1 KK
 go_wp2_with fail
 obtain ⟨w9, e9, ⟨d0, d1, d2, d3, d4, d5⟩, ⟨f0, f1⟩, hb9, hv9⟩ := ans_end (w := w) (x0 := .int .i64 y.key) (x1 := .slice A' y.counts.length c') (x2 := .slice B' y.trusts.length d') (x3 := .slice C' y.cells.length e') (x4 := .slice (some ⟨b', o', none⟩) 2 s') (x5 := .int .i64 y.count) (a0 := .int .i64 p) (a1 := .int .i64 q) (KK2.out.at_ (p := w.heap.size + 1 + 1) (t := 45) (cs := zV) (by simp)) (KK2.out.at_ (p := w.heap.size + 1 + 1 + 1) (t := 80) (cs := zC) (by simp)) (by omega) KK2.out.1 (by omega) (by omega)
 rw [e9]
 exact bodyPost_ret (v := .tuple #[.agg (vX y A' c' B' d' C' e' b' o' s'), .agg (cA p q)]) (by simp [results, Tryz.results36, go_sem, d0, d1, d2, d3, d4, d5, f0, f1]) rfl ⟨_, rfl, (hv9 _ _ _ (by omega) (by omega) HV.out).mono hwb, hb9⟩
set_option maxRecDepth 20000 in
set_option maxHeartbeats 4000000 in
theorem l14Do_9 (x : VolN) (v : Value) (w : World) (h : x.Inv) (hv : VolR w w.heap.size x v) (a b0 c0 : Int) : Calls Tryz.prog 36 #[v, .agg #[.int .i64 9, .int .i64 a, .int .i64 b0, .int .i64 c0]] w (VolAnsA w ((spoilVol x a).1, (spoilVol x a).2, 0)) := by
 have S0 := fun (u : World) (hb : Below w.heap.size w u) => l13Spoil_r x v u h (hv.grow hb) a
 obtain ⟨A, cap, B, tc, C, cc, b, off, sc, rfl, hA, hB, hC, hbb, h0, h1, hcap⟩ := hv
 have K0 := Lib.hid (show Kept w [(w.heap.size + 1 + 1 + 1 + 1 + 1, 80, zC), (w.heap.size + 1 + 1 + 1 + 1, 45, (vX x A cap B tc C cc b off sc)), (w.heap.size + 1 + 1 + 1, 80, zC), (w.heap.size + 1 + 1, 45, zV), (w.heap.size + 1, 84, #[.int .i64 9, .int .i64 a, .int .i64 b0, .int .i64 c0]), (w.heap.size, 45, (vX x A cap B tc C cc b off sc))] _ from (((((((Kept.refl w).put1 _ _ (vX x A cap B tc C cc b off sc) rfl).put1 _ _ #[.int .i64 9, .int .i64 a, .int .i64 b0, .int .i64 c0] (by simp)).put1 _ _ zV (by simp)).put1 _ _ zC (by simp)).put1 _ _ (vX x A cap B tc C cc b off sc) (by simp)).put1 _ _ zC (by simp)))
 generalize spoilVol x a = Y at S0 ⊢
 obtain ⟨y, p⟩ := Y
 simp only [] at S0 ⊢
 have SO := Lib.hid S0
 clear hA hB hC h0 h1 S0 h
 go_enter Tryz.func36, Tryz.ntmps36
 go_upto_region 3 with fail
 have hk0 := K0.out
 clear K0
 have lo0 : w.heap.size + 1 + 1 + 1 + 1 + 1 < _ := hk0.lt (x := (w.heap.size + 1 + 1 + 1 + 1 + 1, 80, zC)) (by simp)
 have lo1 : w.heap.size + 1 + 1 + 1 + 1 < _ := hk0.lt (x := (w.heap.size + 1 + 1 + 1 + 1, 45, (vX x A cap B tc C cc b off sc))) (by simp)
 have lo2 : w.heap.size + 1 + 1 + 1 < _ := hk0.lt (x := (w.heap.size + 1 + 1 + 1, 80, zC)) (by simp)
 have lo3 : w.heap.size + 1 + 1 < _ := hk0.lt (x := (w.heap.size + 1 + 1, 45, zV)) (by simp)
 have lo4 : w.heap.size + 1 < _ := hk0.lt (x := (w.heap.size + 1, 84, #[.int .i64 9, .int .i64 a, .int .i64 b0, .int .i64 c0])) (by simp)
 have lo5 : w.heap.size < _ := hk0.lt (x := (w.heap.size, 45, (vX x A cap B tc C cc b off sc))) (by simp)
 generalize World.alloc _ _ = w6 at hk0 lo0 lo1 lo2 lo3 lo4 lo5 ⊢
 obtain ⟨kc0, kf0, kc1, kf1, kc2, kf2, kc3, kf3, kc4, kf4, kc5, kf5, -⟩ := hk0.rd
 have KK := Lib.hid hk0
 clear hk0
 go_wp2_with fail
 refine (SO.out _ KK.out.1).mono ?_; rintro e u1 ⟨cs, rfl, hv, hb1⟩
 obtain ⟨A', c', B', d', C', e', b', o', s', e1, -⟩ := hv.reads
 injection e1 with e1; subst e1
 have hk1 := KK.out.below hb1
 have lz := hb1.size
 have hwb : w.heap.size ≤ w6.heap.size := KK.out.1.size
 clear SO
 clear kc0 kf0 kc1 kf1 kc2 kf2 kc3 kf3 kc4 kf4 kc5 kf5
 obtain ⟨kc0, kf0, kc1, kf1, kc2, kf2, kc3, kf3, kc4, kf4, kc5, kf5, -⟩ := hk1.rd
 have HV := Lib.hid hv
 have KK2 := Lib.hid hk1
 clear hv hk1 hb1 KK
 go_upto_region 24 with fail
 have h6 := vol_put (x0 := .int .i64 y.key) (x1 := .slice A' y.counts.length c') (x2 := .slice B' y.trusts.length d') (x3 := .slice C' y.cells.length e') (x4 := .slice (some ⟨b', o', none⟩) 2 s') (x5 := .int .i64 y.count) (KK2.out.at_ (p := w.heap.size + 1 + 1 + 1 + 1) (t := 45) (cs := (vX x A cap B tc C cc b off sc)) (by simp))
 have hk3 : Kept w [(w.heap.size + 1 + 1 + 1 + 1 + 1, 80, zC), (w.heap.size + 1 + 1 + 1 + 1, 45, (vX y A' c' B' d' C' e' b' o' s')), (w.heap.size + 1 + 1 + 1, 80, zC), (w.heap.size + 1 + 1, 45, zV), (w.heap.size + 1, 84, #[.int .i64 9, .int .i64 a, .int .i64 b0, .int .i64 c0]), (w.heap.size, 45, (vX x A cap B tc C cc b off sc))] _ := KK2.out.put (k := 1) rfl (by unfold Apart; simp <;> omega) h6.2 h6.1
 have hg7 := gb_set (gb_refl ((((((u1.setCell ⟨w.heap.size + 1 + 1 + 1 + 1, 0, none⟩ (.int .i64 y.key)).setCell ⟨w.heap.size + 1 + 1 + 1 + 1, 1, none⟩ (.slice A' y.counts.length c')).setCell ⟨w.heap.size + 1 + 1 + 1 + 1, 2, none⟩ (.slice B' y.trusts.length d')).setCell ⟨w.heap.size + 1 + 1 + 1 + 1, 3, none⟩ (.slice C' y.cells.length e')).setCell ⟨w.heap.size + 1 + 1 + 1 + 1, 4, none⟩ (.slice (some ⟨b', o', none⟩) 2 s')).setCell ⟨w.heap.size + 1 + 1 + 1 + 1, 5, none⟩ (.int .i64 y.count)) (some (w.heap.size + 1 + 1 + 1 + 1 + 1))) 0 (.int .i64 p)
 have hk4 : Kept w [(w.heap.size + 1 + 1 + 1 + 1 + 1, 80, (cA p 0)), (w.heap.size + 1 + 1 + 1 + 1, 45, (vX y A' c' B' d' C' e' b' o' s')), (w.heap.size + 1 + 1 + 1, 80, zC), (w.heap.size + 1 + 1, 45, zV), (w.heap.size + 1, 84, #[.int .i64 9, .int .i64 a, .int .i64 b0, .int .i64 c0]), (w.heap.size, 45, (vX x A cap B tc C cc b off sc))] _ := hk3.put (k := 0) rfl (by unfold Apart; simp <;> omega) hg7 ((hk3.at_ (p := w.heap.size + 1 + 1 + 1 + 1 + 1) (t := 80) (cs := zC) (by simp)).set_ 0 _)
 have hv4 := (HV.out.out h6.2 lo1).out hg7 lo0
 clear h6 hk3 hg7 HV KK2
 clear kc0 kf0 kc1 kf1 kc2 kf2 kc3 kf3 kc4 kf4 kc5 kf5
 generalize World.setCell _ _ _ = u2 at hk4 hv4 ⊢
 obtain ⟨kc0, kf0, kc1, kf1, kc2, kf2, kc3, kf3, kc4, kf4, kc5, kf5, -⟩ := hk4.rd
 have HV := Lib.hid hv4
 have KK := Lib.hid hk4
 clear hv4 hk4
 go_region
 go_wp2_with fail
 obtain ⟨w9, e9, ⟨d0, d1, d2, d3, d4, d5⟩, ⟨f0, f1⟩, hb9, hv9⟩ := ans_end (w := w) (x0 := .int .i64 y.key) (x1 := .slice A' y.counts.length c') (x2 := .slice B' y.trusts.length d') (x3 := .slice C' y.cells.length e') (x4 := .slice (some ⟨b', o', none⟩) 2 s') (x5 := .int .i64 y.count) (a0 := .int .i64 p) (a1 := .int .i64 0) (KK.out.at_ (p := w.heap.size + 1 + 1) (t := 45) (cs := zV) (by simp)) (KK.out.at_ (p := w.heap.size + 1 + 1 + 1) (t := 80) (cs := zC) (by simp)) (by omega) KK.out.1 (by omega) (by omega)
 rw [e9]
 exact bodyPost_ret (v := .tuple #[.agg (vX y A' c' B' d' C' e' b' o' s'), .agg (cA p 0)]) (by simp [results, Tryz.results36, go_sem, d0, d1, d2, d3, d4, d5, f0, f1]) rfl ⟨_, rfl, show VolO w9.drew _ _ _ from (hv9 _ _ _ (by omega) (by omega) HV.out).mono hwb, hb9.drew⟩
theorem l14Do_r (x : VolN) (v : Value) (w : World) (h : x.Inv) (hv : VolR w w.heap.size x v) (kind a b0 c0 : Int) (hk0 : 1 ≤ kind) (hk1 : kind ≤ 9) (ha : I64 a) (hr : kind = 4 → 0 ≤ a ∧ a < x.counts.length) : Calls Tryz.prog 36 #[v, .agg #[.int .i64 kind, .int .i64 a, .int .i64 b0, .int .i64 c0]] w (VolAnsA w (doVol x kind a b0 c0)) := by
 have hk : kind = 1 ∨ kind = 2 ∨ kind = 3 ∨ kind = 4 ∨ kind = 5 ∨ kind = 6 ∨ kind = 7 ∨ kind = 8 ∨ kind = 9 := by omega
 rcases hk with rfl | rfl | rfl | rfl | rfl | rfl | rfl | rfl | rfl
 ·exact l14Do_1 x v w h hv a b0 c0 ha
 ·exact l14Do_2 x v w h hv a b0 c0 ha
 ·exact l14Do_3 x v w h hv a b0 c0
 ·exact l14Do_4 x v w h hv a b0 c0 (hr rfl).1 (hr rfl).2
 ·exact l14Do_5 x v w h hv a b0 c0
 ·exact l14Do_6 x v w h hv a b0 c0
 ·exact l14Do_7 x v w h hv a b0 c0
 ·exact l14Do_8 x v w h hv a b0 c0
 ·exact l14Do_9 x v w h hv a b0 c0
end Go.Proofs.YtjbnknccnhdapaaGreat.Mx

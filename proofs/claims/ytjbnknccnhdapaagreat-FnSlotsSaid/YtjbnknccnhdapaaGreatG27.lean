import Derived.Test.YtjbnknccnhdapaaGreatG26
import Derived.Test.YtjbnknccnhdapaaGreatG24
namespace Go.Proofs.YtjbnknccnhdapaaGreat.Mx
open Go.ChangeShapes Go.WideShapes Go.ChangeAt Go.RowKit
set_option linter.unusedVariables false
def VolAnsA (b : World) (r : VolN × Int × Int) (e : Ending) (w' : World) : Prop := ∃ cs, e = .returned (.tuple #[.agg cs, .agg (cA r.2.1 r.2.2)]) ∧ VolO w' b.heap.size r.1 (.agg cs) ∧ Below b.heap.size b w'
theorem ans_end {w w1 : World} {r q : Nat} {t t2 : TypeId} {x0 x1 x2 x3 x4 x5 y0 y1 y2 y3 y4 y5 a0 a1 z0 z1 : Value} (hk : CellsAt w1 r t #[y0, y1, y2, y3, y4, y5]) (hq : CellsAt w1 q t2 #[z0, z1]) (hne : r ≠ q) (hb : Below w.heap.size w w1) (hr : w.heap.size ≤ r) (hrq : w.heap.size ≤ q) :
    ∃ w4, (((((((w1.setCell ⟨r, 0, none⟩ x0).setCell ⟨r, 1, none⟩ x1).setCell ⟨r, 2, none⟩ x2).setCell ⟨r, 3, none⟩ x3).setCell ⟨r, 4, none⟩ x4).setCell ⟨r, 5, none⟩ x5).setCell ⟨q, 0, none⟩ a0).setCell ⟨q, 1, none⟩ a1 = w4 ∧ (w4.cell? ⟨r, 0, none⟩ = some x0 ∧ w4.cell? ⟨r, 1, none⟩ = some x1 ∧ w4.cell? ⟨r, 2, none⟩ = some x2 ∧ w4.cell? ⟨r, 3, none⟩ = some x3 ∧ w4.cell? ⟨r, 4, none⟩ = some x4 ∧ w4.cell? ⟨r, 5, none⟩ = some x5) ∧
      (w4.cell? ⟨q, 0, none⟩ = some a0 ∧ w4.cell? ⟨q, 1, none⟩ = some a1) ∧ Below w.heap.size w w4 ∧ ∀ (base : Nat) (x : VolN) (v : Value), r < base → q < base → VolO w1 base x v → VolO w4 base x v := by
 obtain ⟨w3, e3, ⟨d0, d1, d2, d3, d4, d5⟩, hb3, hg3⟩ := vol_end (w := w) (x0 := x0) (x1 := x1) (x2 := x2) (x3 := x3) (x4 := x4) (x5 := x5) hk hb hr
 rw [e3]
 have hq3 := hq.grown hg3 (by intro e; injection e with e; exact hne e.symm)
 have hc := (hq3.set_ 0 a0).set_ 1 a1
 have hg4 := gb_set (gb_set (gb_refl w3 (some q)) 0 a0) 1 a1
 have k := fun (o : Nat) {z : Value} (h : w3.cell? ⟨r, o, none⟩ = some z) => hg4.cell h (by intro e; injection e with e; exact hne e)
 exact ⟨_, rfl, ⟨k 0 d0, k 1 d1, k 2 d2, k 3 d3, k 4 d4, k 5 d5⟩, ⟨hc.cell 0, hc.cell 1⟩, bgb hb3 hg4 hb3.size hrq, fun base x v h1 h2 hv => (hv.out hg3 h1).out hg4 h2⟩
noncomputable def bendVol (x : VolN) (a c0 c1 : Int) : VolN × Int × Int :=
 open Classical in if 0 ≤ regionOf x.key x.counts a ∧ isCell c0 c1 then ({ x with cells := x.cells.set a.toNat (c0, c1) }, 0, 0) else (x, 1, 0)
set_option maxRecDepth 20000 in
set_option maxHeartbeats 4000000 in
theorem l14Bend_no (x : VolN) (v : Value) (w : World) (hx : x.Short) (hv : VolR w w.heap.size x v) (a c0 c1 : Int) (hr : ¬ 0 ≤ regionOf x.key x.counts a) : Calls Tryz.prog 62 #[v, .int .i64 a, .agg (cA c0 c1)] w (VolAnsA w (x, 1, 0)) := by
 have CO := Lib.hid (fun (u : World) (hb : Below w.heap.size w u) => l12Copy_r x v u hx (hv.grow hb))
 obtain ⟨A, cap, B, tc, C, cc, b, off, sc, rfl, hA, hB, hC, hbb, h0, h1, hcap⟩ := hv
 have K0 := Lib.hid (show Kept w [(w.heap.size + 1 + 1 + 1, 80, zC), (w.heap.size + 1 + 1, 45, zV), (w.heap.size + 1, 55, (cA c0 c1)), (w.heap.size, 45, (vX x A cap B tc C cc b off sc))] _ from (((((Kept.refl w).put1 _ _ (vX x A cap B tc C cc b off sc) rfl).put1 _ _ (cA c0 c1) (by simp)).put1 _ _ zV (by simp)).put1 _ _ zC (by simp)))
 have RG := Lib.hid (fun (u : World) (hb : Below w.heap.size w u) => specRegion_calls x.key a A x.counts cap u (by have := hx.1; unfold maxLen; omega) hcap ((hA.below hb (Nat.le_refl _)).more hb.size))
 have hd : decide (regionOf x.key x.counts a < 0) = true := decide_eq_true (by omega)
 generalize regionOf x.key x.counts a = r at RG hd
 clear hA hB hC h0 h1 hr
 have hxc := hx.2.2.1
 go_enter Tryz.func62, Tryz.ntmps62
 go_wp2_with fail
 refine (CO.out _ K0.out.1).mono ?_; rintro e u1 ⟨vv, rfl, hv, hb1⟩
 have hk1 := K0.out.below hb1
 obtain ⟨A', c', B', d', C', e', b', o', s', rfl, -⟩ := hv.reads
 have hv1 := hv.mono (show w.heap.size + 1 + 1 + 1 + 1 ≤ _ by simp)
 have hbl := hv.slotsGet.2.2.2.1
 have lo0 : w.heap.size + 1 + 1 + 1 < u1.heap.size := hk1.lt (x := (w.heap.size + 1 + 1 + 1, 80, zC)) (by simp)
 have lo1 : w.heap.size + 1 + 1 < u1.heap.size := hk1.lt (x := (w.heap.size + 1 + 1, 45, zV)) (by simp)
 have lo2 : w.heap.size + 1 < u1.heap.size := hk1.lt (x := (w.heap.size + 1, 55, (cA c0 c1))) (by simp)
 have lo3 : w.heap.size < u1.heap.size := hk1.lt (x := (w.heap.size, 45, (vX x A cap B tc C cc b off sc))) (by simp)
 have hk2 := hk1.put1 u1.heap.size 45 (vX x A' c' B' d' C' e' b' o' s') rfl
 have hv2 := hv1.below ((Below.refl _ _).alloc (Nat.le_refl _) (.cells (vX x A' c' B' d' C' e' b' o' s') 45))
 clear hb1 hk1 hv hv1 CO
 go_upto_region 2 with fail
 generalize World.alloc u1 _ = u2 at hk2 hv2 ⊢
 obtain ⟨kc0, kf0, kc1, kf1, kc2, kf2, kc3, kf3, kc4, kf4, -⟩ := hk2.rd
 have HV := Lib.hid hv2
 clear hv2
 have KK := Lib.hid hk2
 go_wp2_with fail
 refine (RG.out _ KK.out.1).mono ?_; rintro e u3 ⟨rfl, b3⟩
 have hk3 := KK.out.below b3
 have hv3 := HV.out.below b3
 have lu3 : u1.heap.size < u3.heap.size := hk3.lt (x := (u1.heap.size, 45, (vX x A' c' B' d' C' e' b' o' s'))) (by simp)
 clear b3 KK HV RG hk2 kc0 kf0 kc1 kf1 kc2 kf2 kc3 kf3 kc4 kf4
 obtain ⟨kc0, kf0, kc1, kf1, kc2, kf2, kc3, kf3, kc4, kf4, -⟩ := hk3.rd
 have HV := Lib.hid hv3
 have KK := Lib.hid hk3
 clear hv3 hk3
 go_wp2_with fail
 obtain ⟨w9, e9, ⟨d0, d1, d2, d3, d4, d5⟩, ⟨f0, f1⟩, hb9, hv9⟩ := ans_end (w := w) (x0 := .int .i64 x.key) (x1 := .slice A' x.counts.length c') (x2 := .slice B' x.trusts.length d') (x3 := .slice C' x.cells.length e') (x4 := .slice (some ⟨b', o', none⟩) 2 s') (x5 := .int .i64 x.count) (a0 := .int .i64 1) (a1 := .int .i64 0) (KK.out.at_ (p := w.heap.size + 1 + 1) (t := 45) (cs := zV) (by simp)) (KK.out.at_ (p := w.heap.size + 1 + 1 + 1) (t := 80) (cs := zC) (by simp)) (by omega) KK.out.1 (by omega) (by omega)
 rw [e9]
 exact bodyPost_ret (v := .tuple #[.agg (vX x A' c' B' d' C' e' b' o' s'), .agg (cA 1 0)]) (by simp [results, Tryz.results62, go_sem, d0, d1, d2, d3, d4, d5, f0, f1]) rfl ⟨_, rfl, (hv9 _ _ _ (by omega) (by omega) HV.out).mono (by omega), hb9⟩
set_option maxRecDepth 20000 in
set_option maxHeartbeats 4000000 in
theorem l14Bend_bad (x : VolN) (v : Value) (w : World) (hx : x.Short) (hv : VolR w w.heap.size x v) (a c0 c1 : Int) (hr : 0 ≤ regionOf x.key x.counts a) (hc : ¬ isCell c0 c1) : Calls Tryz.prog 62 #[v, .int .i64 a, .agg (cA c0 c1)] w (VolAnsA w (x, 1, 0)) := by
 have CO := Lib.hid (fun (u : World) (hb : Below w.heap.size w u) => l12Copy_r x v u hx (hv.grow hb))
 obtain ⟨A, cap, B, tc, C, cc, b, off, sc, rfl, hA, hB, hC, hbb, h0, h1, hcap⟩ := hv
 have K0 := Lib.hid (show Kept w [(w.heap.size + 1 + 1 + 1, 80, zC), (w.heap.size + 1 + 1, 45, zV), (w.heap.size + 1, 55, (cA c0 c1)), (w.heap.size, 45, (vX x A cap B tc C cc b off sc))] _ from (((((Kept.refl w).put1 _ _ (vX x A cap B tc C cc b off sc) rfl).put1 _ _ (cA c0 c1) (by simp)).put1 _ _ zV (by simp)).put1 _ _ zC (by simp)))
 have RG := Lib.hid (fun (u : World) (hb : Below w.heap.size w u) => specRegion_calls x.key a A x.counts cap u (by have := hx.1; unfold maxLen; omega) hcap ((hA.below hb (Nat.le_refl _)).more hb.size))
 have hd : decide (regionOf x.key x.counts a < 0) = false := decide_eq_false (by omega)
 have CK := Lib.hid (fun u => specCellOk_calls c0 c1 u)
 rw [decide_eq_false hc] at CK
 generalize regionOf x.key x.counts a = r at RG hd
 clear hA hB hC h0 h1 hr hc
 have hxc := hx.2.2.1
 go_enter Tryz.func62, Tryz.ntmps62
 go_wp2_with fail
 refine (CO.out _ K0.out.1).mono ?_; rintro e u1 ⟨vv, rfl, hv, hb1⟩
 have hk1 := K0.out.below hb1
 obtain ⟨A', c', B', d', C', e', b', o', s', rfl, -⟩ := hv.reads
 have hv1 := hv.mono (show w.heap.size + 1 + 1 + 1 + 1 ≤ _ by simp)
 have hbl := hv.slotsGet.2.2.2.1
 have lo0 : w.heap.size + 1 + 1 + 1 < u1.heap.size := hk1.lt (x := (w.heap.size + 1 + 1 + 1, 80, zC)) (by simp)
 have lo1 : w.heap.size + 1 + 1 < u1.heap.size := hk1.lt (x := (w.heap.size + 1 + 1, 45, zV)) (by simp)
 have lo2 : w.heap.size + 1 < u1.heap.size := hk1.lt (x := (w.heap.size + 1, 55, (cA c0 c1))) (by simp)
 have lo3 : w.heap.size < u1.heap.size := hk1.lt (x := (w.heap.size, 45, (vX x A cap B tc C cc b off sc))) (by simp)
 have hk2 := hk1.put1 u1.heap.size 45 (vX x A' c' B' d' C' e' b' o' s') rfl
 have hv2 := hv1.below ((Below.refl _ _).alloc (Nat.le_refl _) (.cells (vX x A' c' B' d' C' e' b' o' s') 45))
 clear hb1 hk1 hv hv1 CO
 go_upto_region 2 with fail
 generalize World.alloc u1 _ = u2 at hk2 hv2 ⊢
 obtain ⟨kc0, kf0, kc1, kf1, kc2, kf2, kc3, kf3, kc4, kf4, -⟩ := hk2.rd
 have HV := Lib.hid hv2
 clear hv2
 have KK := Lib.hid hk2
 go_wp2_with fail
 refine (RG.out _ KK.out.1).mono ?_; rintro e u3 ⟨rfl, b3⟩
 have hk3 := KK.out.below b3
 have hv3 := HV.out.below b3
 have lu3 : u1.heap.size < u3.heap.size := hk3.lt (x := (u1.heap.size, 45, (vX x A' c' B' d' C' e' b' o' s'))) (by simp)
 clear b3 KK HV RG hk2 kc0 kf0 kc1 kf1 kc2 kf2 kc3 kf3 kc4 kf4
 obtain ⟨kc0, kf0, kc1, kf1, kc2, kf2, kc3, kf3, kc4, kf4, -⟩ := hk3.rd
 have HV := Lib.hid hv3
 have KK := Lib.hid hk3
 clear hv3 hk3
 go_wp2_with fail
 refine (CK.out _).mono ?_; rintro e u4 ⟨rfl, b4⟩
 have hk4 := KK.out.below b4
 have hv4 := HV.out.below b4
 have hz4 := b4.size
 clear b4 KK HV kc0 kf0 kc1 kf1 kc2 kf2 kc3 kf3 kc4 kf4
 obtain ⟨kc0, kf0, kc1, kf1, kc2, kf2, kc3, kf3, kc4, kf4, -⟩ := hk4.rd
 have HV := Lib.hid hv4
 have KK := Lib.hid hk4
 clear hv4 hk4
 go_wp2_with fail
 obtain ⟨w9, e9, ⟨d0, d1, d2, d3, d4, d5⟩, ⟨f0, f1⟩, hb9, hv9⟩ := ans_end (w := w) (x0 := .int .i64 x.key) (x1 := .slice A' x.counts.length c') (x2 := .slice B' x.trusts.length d') (x3 := .slice C' x.cells.length e') (x4 := .slice (some ⟨b', o', none⟩) 2 s') (x5 := .int .i64 x.count) (a0 := .int .i64 1) (a1 := .int .i64 0) (KK.out.at_ (p := w.heap.size + 1 + 1) (t := 45) (cs := zV) (by simp)) (KK.out.at_ (p := w.heap.size + 1 + 1 + 1) (t := 80) (cs := zC) (by simp)) (by omega) KK.out.1 (by omega) (by omega)
 rw [e9]
 exact bodyPost_ret (v := .tuple #[.agg (vX x A' c' B' d' C' e' b' o' s'), .agg (cA 1 0)]) (by simp [results, Tryz.results62, go_sem, d0, d1, d2, d3, d4, d5, f0, f1]) rfl ⟨_, rfl, (hv9 _ _ _ (by omega) (by omega) HV.out).mono (by omega), hb9⟩
set_option maxRecDepth 20000 in
set_option maxHeartbeats 4000000 in
theorem l14Bend_yes (x : VolN) (v : Value) (w : World) (hx : x.Short) (hv : VolR w w.heap.size x v) (a c0 c1 : Int) (hfit : x.Fit) (hr : 0 ≤ regionOf x.key x.counts a) (hc : isCell c0 c1) : Calls Tryz.prog 62 #[v, .int .i64 a, .agg (cA c0 c1)] w (VolAnsA w ({ x with cells := x.cells.set a.toNat (c0, c1) }, 0, 0)) := by
 have CO := Lib.hid (fun (u : World) (hb : Below w.heap.size w u) => l12Copy_r x v u hx (hv.grow hb))
 obtain ⟨A, cap, B, tc, C, cc, b, off, sc, rfl, hA, hB, hC, hbb, h0, h1, hcap⟩ := hv
 have K0 := Lib.hid (show Kept w [(w.heap.size + 1 + 1 + 1, 80, zC), (w.heap.size + 1 + 1, 45, zV), (w.heap.size + 1, 55, (cA c0 c1)), (w.heap.size, 45, (vX x A cap B tc C cc b off sc))] _ from (((((Kept.refl w).put1 _ _ (vX x A cap B tc C cc b off sc) rfl).put1 _ _ (cA c0 c1) (by simp)).put1 _ _ zV (by simp)).put1 _ _ zC (by simp)))
 obtain ⟨i, e, hi, hp, ha0, hu0, hu1⟩ := regionOf_up hr
 obtain ⟨j, rfl⟩ : ∃ j : Nat, a = j := ⟨a.toNat, by omega⟩
 have hup := upTo_mono hp.2.2.1 (i := i + 1) (j := x.counts.length) (by omega) (Nat.le_refl _)
 have hj : j < x.cells.length := by have := hfit.2; omega
 have hlt2 : (j : Int) < x.cells.length := by omega
 have hj0 : (0 : Int) ≤ j := by omega
 simp only [Int.toNat_natCast]
 clear e hi hp ha0 hu0 hu1 hup hfit
 have RG := Lib.hid (fun (u : World) (hb : Below w.heap.size w u) => specRegion_calls x.key j A x.counts cap u (by have := hx.1; unfold maxLen; omega) hcap ((hA.below hb (Nat.le_refl _)).more hb.size))
 have hd : decide (regionOf x.key x.counts j < 0) = false := decide_eq_false (by omega)
 have CK := Lib.hid (fun u => specCellOk_calls c0 c1 u)
 rw [decide_eq_true hc] at CK
 generalize regionOf x.key x.counts j = r at RG hd
 clear hA hB hC h0 h1 hr hc
 have hxc := hx.2.2.1
 go_enter Tryz.func62, Tryz.ntmps62
 go_wp2_with fail
 refine (CO.out _ K0.out.1).mono ?_; rintro e u1 ⟨vv, rfl, hv, hb1⟩
 have hk1 := K0.out.below hb1
 obtain ⟨A', c', B', d', C', e', b', o', s', rfl, -⟩ := hv.reads
 have hv1 := hv.mono (show w.heap.size + 1 + 1 + 1 + 1 ≤ _ by simp)
 have hbl := hv.slotsGet.2.2.2.1
 have lo0 : w.heap.size + 1 + 1 + 1 < u1.heap.size := hk1.lt (x := (w.heap.size + 1 + 1 + 1, 80, zC)) (by simp)
 have lo1 : w.heap.size + 1 + 1 < u1.heap.size := hk1.lt (x := (w.heap.size + 1 + 1, 45, zV)) (by simp)
 have lo2 : w.heap.size + 1 < u1.heap.size := hk1.lt (x := (w.heap.size + 1, 55, (cA c0 c1))) (by simp)
 have lo3 : w.heap.size < u1.heap.size := hk1.lt (x := (w.heap.size, 45, (vX x A cap B tc C cc b off sc))) (by simp)
 have hk2 := hk1.put1 u1.heap.size 45 (vX x A' c' B' d' C' e' b' o' s') rfl
 have hv2 := hv1.below ((Below.refl _ _).alloc (Nat.le_refl _) (.cells (vX x A' c' B' d' C' e' b' o' s') 45))
 have HBL := Lib.hid (show ∀ g, C' = some ⟨g, 0, none⟩ → g < u1.heap.size from fun g hg => by obtain ⟨g', e', -, hlt, -⟩ := hv.cellsGet (by omega); rw [hg] at e'; injection e' with e'; injection e' with e'; omega)
 clear hb1 hk1 hv hv1 CO
 go_upto_region 2 with fail
 generalize World.alloc u1 _ = u2 at hk2 hv2 ⊢
 obtain ⟨kc0, kf0, kc1, kf1, kc2, kf2, kc3, kf3, kc4, kf4, -⟩ := hk2.rd
 have HV := Lib.hid hv2
 clear hv2
 have KK := Lib.hid hk2
 go_wp2_with fail
 refine (RG.out _ KK.out.1).mono ?_; rintro e u3 ⟨rfl, b3⟩
 have hk3 := KK.out.below b3
 have hv3 := HV.out.below b3
 have lu3 : u1.heap.size < u3.heap.size := hk3.lt (x := (u1.heap.size, 45, (vX x A' c' B' d' C' e' b' o' s'))) (by simp)
 clear b3 KK HV RG hk2 kc0 kf0 kc1 kf1 kc2 kf2 kc3 kf3 kc4 kf4
 obtain ⟨kc0, kf0, kc1, kf1, kc2, kf2, kc3, kf3, kc4, kf4, -⟩ := hk3.rd
 have HV := Lib.hid hv3
 have KK := Lib.hid hk3
 clear hv3 hk3
 go_wp2_with fail
 refine (CK.out _).mono ?_; rintro e u4 ⟨rfl, b4⟩
 have hk4 := KK.out.below b4
 have hv4 := HV.out.below b4
 have hz4 := b4.size
 clear b4 KK HV kc0 kf0 kc1 kf1 kc2 kf2 kc3 kf3 kc4 kf4
 obtain ⟨kc0, kf0, kc1, kf1, kc2, kf2, kc3, kf3, kc4, kf4, -⟩ := hk4.rd
 have HV := Lib.hid hv4
 have KK := Lib.hid hk4
 clear hv4 hk4
 obtain ⟨gc, rfl, hg0, hgu, hrow, hset⟩ := HV.out.cellsGet (by omega)
 have hfz := row_frozen hrow
 obtain ⟨p0, p1⟩ := hrow.here hj
 have HR := Lib.hid hrow
 have HS := Lib.hid hset
 clear hrow hset
 go_upto_region 5 with fail
 have hr6 := HR.out.set_ hj (c0, c1)
 have hg6 := gb_set (gb_set (gb_refl u4 (some gc)) (j * 2) (.int .i64 c0)) (j * 2 + 1) (.int .i64 c1)
 have hne : gc ≠ u1.heap.size := by have := HBL.out gc rfl; omega
 have hk6 := KK.out.grown hg6 (by omega) (by intro y hy; simp at hy; rcases hy with rfl | rfl | rfl | rfl | rfl <;> simp <;> omega)
 have hv6 := HS.out _ (x.cells.set j (c0, c1)) (by simp) hg6 (by rw [List.length_set]; exact hr6)
 generalize World.setCell _ _ _ = u6 at hk6 hv6 ⊢
 clear hr6 hg6 HR HS hfz p0 p1 KK HV
 clear kc0 kf0 kc1 kf1 kc2 kf2 kc3 kf3 kc4 kf4
 obtain ⟨kc0, kf0, kc1, kf1, kc2, kf2, kc3, kf3, kc4, kf4, -⟩ := hk6.rd
 have HV := Lib.hid hv6
 have KK := Lib.hid hk6
 clear hv6 hk6
 go_wp2_with fail
 obtain ⟨w9, e9, ⟨d0, d1, d2, d3, d4, d5⟩, ⟨f0, f1⟩, hb9, hv9⟩ := ans_end (w := w) (x0 := .int .i64 x.key) (x1 := .slice A' x.counts.length c') (x2 := .slice B' x.trusts.length d') (x3 := .slice (some ⟨gc, 0, none⟩) x.cells.length e') (x4 := .slice (some ⟨b', o', none⟩) 2 s') (x5 := .int .i64 x.count) (a0 := .int .i64 0) (a1 := .int .i64 0) (KK.out.at_ (p := w.heap.size + 1 + 1) (t := 45) (cs := zV) (by simp)) (KK.out.at_ (p := w.heap.size + 1 + 1 + 1) (t := 80) (cs := zC) (by simp)) (by omega) KK.out.1 (by omega) (by omega)
 rw [e9]
 exact bodyPost_ret (v := .tuple #[.agg (vX x A' c' B' d' (some ⟨gc, 0, none⟩) e' b' o' s'), .agg zC]) (by simp [results, Tryz.results62, go_sem, d0, d1, d2, d3, d4, d5, f0, f1]) rfl ⟨_, rfl, (hv9 _ _ _ (by omega) (by omega) HV.out).mono (by omega), hb9⟩
theorem l14Bend_calls (x : VolN) (v : Value) (w : World) (hx : x.Short) (hv : VolR w w.heap.size x v) (hfit : x.Fit) (a c0 c1 : Int) : Calls Tryz.prog 62 #[v, .int .i64 a, .agg (cA c0 c1)] w (VolAnsA w (bendVol x a c0 c1)) := by
 unfold bendVol
 by_cases hr : 0 ≤ regionOf x.key x.counts a
 ·by_cases hc : isCell c0 c1
  ·rw [if_pos ⟨hr, hc⟩]; exact l14Bend_yes x v w hx hv a c0 c1 hfit hr hc
  ·rw [if_neg (fun h => hc h.2)]; exact l14Bend_bad x v w hx hv a c0 c1 hr hc
 ·rw [if_neg (fun h => hr h.1)]; exact l14Bend_no x v w hx hv a c0 c1 hr
noncomputable def replayVol (x : VolN) (a slot : Int) : VolN × Int × Int :=
 if slot = 0 then (if 0 ≤ a ∧ a < x.s0.cells.length then bendVol x a (x.s0.cells.getD a.toNat default).1 (x.s0.cells.getD a.toNat default).2 else (x, 1, 0))
 else if slot = 1 then (if 0 ≤ a ∧ a < x.s1.cells.length then bendVol x a (x.s1.cells.getD a.toNat default).1 (x.s1.cells.getD a.toNat default).2 else (x, 1, 0)) else (x, 1, 0)
set_option maxRecDepth 20000 in
set_option maxHeartbeats 4000000 in
theorem l14Replay_no (x : VolN) (v : Value) (w : World) (hx : x.Short) (hv : VolR w w.heap.size x v) (a slot : Int) (hs : slot < 0 ∨ 1 < slot) : Calls Tryz.prog 63 #[v, .int .i64 a, .int .i64 slot] w (VolAnsA w (x, 1, 0)) := by
 have CO := Lib.hid (fun (u : World) (hb : Below w.heap.size w u) => l12Copy_r x v u hx (hv.grow hb))
 obtain ⟨A, cap, B, tc, C, cc, b, off, sc, rfl, hA, hB, hC, hbb, h0, h1, hcap⟩ := hv
 have K0 := Lib.hid (show Kept w [(w.heap.size + 1 + 1, 80, zC), (w.heap.size + 1, 45, zV), (w.heap.size, 45, (vX x A cap B tc C cc b off sc))] _ from ((((Kept.refl w).put1 _ _ (vX x A cap B tc C cc b off sc) rfl).put1 _ _ zV (by simp)).put1 _ _ zC (by simp)))
 clear hA hB hC h0 h1
 have I := Lib.hid (fun u => l1In_no slot 0 1 u hs)
 clear hs
 go_enter Tryz.func63, Tryz.ntmps63
 go_wp2_with fail
 refine (I.out _).mono ?_; rintro e w' ⟨rfl, rfl⟩
 obtain ⟨kc0, kf0, kc1, kf1, kc2, kf2, -⟩ := K0.out.rd
 go_wp2_with fail
 refine (CO.out _ K0.out.1).mono ?_; rintro e u1 ⟨vv, rfl, hv, hb1⟩
 obtain ⟨A', c', B', d', C', e', b', o', s', rfl, -⟩ := hv.reads
 have hk1 := K0.out.below hb1
 have hv1 := hv.mono (show w.heap.size + 1 + 1 + 1 ≤ _ by simp)
 have lo0 : w.heap.size + 1 + 1 < u1.heap.size := hk1.lt (x := (w.heap.size + 1 + 1, 80, zC)) (by simp)
 clear kc0 kf0 kc1 kf1 kc2 kf2
 obtain ⟨kc0, kf0, kc1, kf1, kc2, kf2, -⟩ := hk1.rd
 have HV := Lib.hid hv1
 have KK := Lib.hid hk1
 clear hb1 hv hv1 hk1 CO
 go_wp2_with fail
 obtain ⟨w9, e9, ⟨d0, d1, d2, d3, d4, d5⟩, ⟨f0, f1⟩, hb9, hv9⟩ := ans_end (w := w) (x0 := .int .i64 x.key) (x1 := .slice A' x.counts.length c') (x2 := .slice B' x.trusts.length d') (x3 := .slice C' x.cells.length e') (x4 := .slice (some ⟨b', o', none⟩) 2 s') (x5 := .int .i64 x.count) (a0 := .int .i64 1) (a1 := .int .i64 0) (KK.out.at_ (p := w.heap.size + 1) (t := 45) (cs := zV) (by simp)) (KK.out.at_ (p := w.heap.size + 1 + 1) (t := 80) (cs := zC) (by simp)) (by omega) KK.out.1 (by omega) (by omega)
 rw [e9]
 exact bodyPost_ret (v := .tuple #[.agg (vX x A' c' B' d' C' e' b' o' s'), .agg (cA 1 0)]) (by simp [results, Tryz.results63, go_sem, d0, d1, d2, d3, d4, d5, f0, f1]) rfl ⟨_, rfl, (hv9 _ _ _ (by omega) (by omega) HV.out).mono (by omega), hb9⟩
set_option maxRecDepth 20000 in
set_option maxHeartbeats 8000000 in
theorem l14Replay_bad0 (x : VolN) (v : Value) (w : World) (hx : x.Short) (hv : VolR w w.heap.size x v) (hfit : x.Fit) (a : Int) (ha : ¬ (0 ≤ a ∧ a < x.s0.cells.length)) : Calls Tryz.prog 63 #[v, .int .i64 a, .int .i64 0] w (VolAnsA w (x, 1, 0)) := by
 have CO := Lib.hid (fun (u : World) (hb : Below w.heap.size w u) => l12Copy_r x v u hx (hv.grow hb))
 obtain ⟨A, cap, B, tc, C, cc, b, off, sc, rfl, hA, hB, hC, hbb, h0, h1, hcap⟩ := hv
 have K0 := Lib.hid (show Kept w [(w.heap.size + 1 + 1, 80, zC), (w.heap.size + 1, 45, zV), (w.heap.size, 45, (vX x A cap B tc C cc b off sc))] _ from ((((Kept.refl w).put1 _ _ (vX x A cap B tc C cc b off sc) rfl).put1 _ _ zV (by simp)).put1 _ _ zC (by simp)))
 obtain ⟨Bs, ts, Ds, ds, y0, y1, y2, y3, hrw⟩ := h0
 have QQ := Lib.hid (show ∀ (u : World), Below w.heap.size w u → (u.cell? ⟨b, off, none⟩ = some (.int .i64 x.s0.count) ∧ u.cell? ⟨b, off + 1, none⟩ = some (.slice Bs x.s0.trusts.length ts) ∧ u.cell? ⟨b, off + 2, none⟩ = some (.int .i64 x.s0.mac) ∧ u.cell? ⟨b, off + 3, none⟩ = some (.slice Ds x.s0.cells.length ds)) from fun u hu => ⟨(hu.cell (p := ⟨b, _, none⟩) hbb).trans y0, (hu.cell (p := ⟨b, _, none⟩) hbb).trans y1, (hu.cell (p := ⟨b, _, none⟩) hbb).trans y2, (hu.cell (p := ⟨b, _, none⟩) hbb).trans y3⟩)
 clear y0 y1 y2 y3
 have I := Lib.hid (fun u => l1In_yes 0 0 1 u (by omega) (by omega))
 have hlen : x.s0.cells.length ≤ 1048576 := hx.2.2.2.2.1
 have hwl : IntKind.i64.wrap ((x.s0.cells.length : Int) - 1) = x.s0.cells.length - 1 := IntWalk.i64_in _ (by omega)
 have J := Lib.hid (fun u => l1In_no a 0 (x.s0.cells.length - 1) u (by omega))
 clear ha
 clear hrw hA hB hC h1
 have q_ := QQ.out _ K0.out.1
 obtain ⟨q0, q1, q2, q3⟩ := q_
 go_enter Tryz.func63, Tryz.ntmps63
 go_wp2_with fail
 refine (I.out _).mono ?_; rintro e w' ⟨rfl, rfl⟩
 obtain ⟨kc0, kf0, kc1, kf1, kc2, kf2, -⟩ := K0.out.rd
 go_wp2_with fail
 refine (J.out _).mono ?_; rintro e w' ⟨rfl, rfl⟩
 go_wp2_with fail
 clear q0 q1 q2 q3
 refine (CO.out _ K0.out.1).mono ?_; rintro e u1 ⟨vv, rfl, hv, hb1⟩
 obtain ⟨A', c', B', d', C', e', b', o', s', rfl, -⟩ := hv.reads
 have hk1 := K0.out.below hb1
 have hv1 := hv.mono (show w.heap.size + 1 + 1 + 1 ≤ _ by simp)
 have lo0 : w.heap.size + 1 + 1 < u1.heap.size := hk1.lt (x := (w.heap.size + 1 + 1, 80, zC)) (by simp)
 clear kc0 kf0 kc1 kf1 kc2 kf2
 obtain ⟨kc0, kf0, kc1, kf1, kc2, kf2, -⟩ := hk1.rd
 have HV := Lib.hid hv1
 have KK := Lib.hid hk1
 clear hb1 hv hv1 hk1 CO
 go_wp2_with fail
 obtain ⟨w9, e9, ⟨d0, d1, d2, d3, d4, d5⟩, ⟨f0, f1⟩, hb9, hv9⟩ := ans_end (w := w) (x0 := .int .i64 x.key) (x1 := .slice A' x.counts.length c') (x2 := .slice B' x.trusts.length d') (x3 := .slice C' x.cells.length e') (x4 := .slice (some ⟨b', o', none⟩) 2 s') (x5 := .int .i64 x.count) (a0 := .int .i64 1) (a1 := .int .i64 0) (KK.out.at_ (p := w.heap.size + 1) (t := 45) (cs := zV) (by simp)) (KK.out.at_ (p := w.heap.size + 1 + 1) (t := 80) (cs := zC) (by simp)) (by omega) KK.out.1 (by omega) (by omega)
 rw [e9]
 exact bodyPost_ret (v := .tuple #[.agg (vX x A' c' B' d' C' e' b' o' s'), .agg (cA 1 0)]) (by simp [results, Tryz.results63, go_sem, d0, d1, d2, d3, d4, d5, f0, f1]) rfl ⟨_, rfl, (hv9 _ _ _ (by omega) (by omega) HV.out).mono (by omega), hb9⟩
set_option maxRecDepth 20000 in
set_option maxHeartbeats 8000000 in
theorem l14Replay_yes0 (x : VolN) (v : Value) (w : World) (hx : x.Short) (hv : VolR w w.heap.size x v) (hfit : x.Fit) (a : Int) (ha : (0 ≤ a ∧ a < x.s0.cells.length)) : Calls Tryz.prog 63 #[v, .int .i64 a, .int .i64 0] w (VolAnsA w (bendVol x a (x.s0.cells.getD a.toNat default).1 (x.s0.cells.getD a.toNat default).2)) := by
 have BE := Lib.hid (fun (u : World) (c0 c1 : Int) (hb : Below w.heap.size w u) => l14Bend_calls x v u hx (hv.grow hb) hfit a c0 c1)
 obtain ⟨A, cap, B, tc, C, cc, b, off, sc, rfl, hA, hB, hC, hbb, h0, h1, hcap⟩ := hv
 have K0 := Lib.hid (show Kept w [(w.heap.size + 1 + 1, 80, zC), (w.heap.size + 1, 45, zV), (w.heap.size, 45, (vX x A cap B tc C cc b off sc))] _ from ((((Kept.refl w).put1 _ _ (vX x A cap B tc C cc b off sc) rfl).put1 _ _ zV (by simp)).put1 _ _ zC (by simp)))
 obtain ⟨Bs, ts, Ds, ds, y0, y1, y2, y3, hrw⟩ := h0
 have QQ := Lib.hid (show ∀ (u : World), Below w.heap.size w u → (u.cell? ⟨b, off, none⟩ = some (.int .i64 x.s0.count) ∧ u.cell? ⟨b, off + 1, none⟩ = some (.slice Bs x.s0.trusts.length ts) ∧ u.cell? ⟨b, off + 2, none⟩ = some (.int .i64 x.s0.mac) ∧ u.cell? ⟨b, off + 3, none⟩ = some (.slice Ds x.s0.cells.length ds)) from fun u hu => ⟨(hu.cell (p := ⟨b, _, none⟩) hbb).trans y0, (hu.cell (p := ⟨b, _, none⟩) hbb).trans y1, (hu.cell (p := ⟨b, _, none⟩) hbb).trans y2, (hu.cell (p := ⟨b, _, none⟩) hbb).trans y3⟩)
 clear y0 y1 y2 y3
 have I := Lib.hid (fun u => l1In_yes 0 0 1 u (by omega) (by omega))
 have hlen : x.s0.cells.length ≤ 1048576 := hx.2.2.2.2.1
 have hwl : IntKind.i64.wrap ((x.s0.cells.length : Int) - 1) = x.s0.cells.length - 1 := IntWalk.i64_in _ (by omega)
 obtain ⟨j, rfl⟩ : ∃ j : Nat, a = j := ⟨a.toNat, by omega⟩
 have hj : j < x.s0.cells.length := by omega
 obtain ⟨bC, oC, rfl, hbC, hcC⟩ := Cls.at_ hrw.2 hj
 have HC := Lib.hid (fun (u : World) (hb : Below w.heap.size w u) => hcC.below hb hbC)
 have J := Lib.hid (fun u => l1In_yes j 0 (x.s0.cells.length - 1) u (by omega) (by omega))
 have hlt2 : (j : Int) < x.s0.cells.length := by omega
 have hj0 : (0 : Int) ≤ j := by omega
 simp only [Int.toNat_natCast]
 generalize x.s0.cells.getD j default = c at HC ⊢
 have BF0 := fun (u : World) (hb : Below w.heap.size w u) => BE.out u c.1 c.2 hb
 generalize bendVol x j c.1 c.2 = Y at BF0 ⊢
 obtain ⟨y, p, q⟩ := Y
 have BF := Lib.hid BF0
 clear hcC hj ha BE BF0
 clear hrw hA hB hC h1
 have q_ := QQ.out _ K0.out.1
 obtain ⟨q0, q1, q2, q3⟩ := q_
 go_enter Tryz.func63, Tryz.ntmps63
 go_wp2_with fail
 refine (I.out _).mono ?_; rintro e w' ⟨rfl, rfl⟩
 obtain ⟨kc0, kf0, kc1, kf1, kc2, kf2, -⟩ := K0.out.rd
 go_wp2_with fail
 refine (J.out _).mono ?_; rintro e w' ⟨rfl, rfl⟩
 go_upto_region 3 with fail
 obtain ⟨qc0, qc1⟩ := HC.out _ K0.out.1
 go_region_with (go_at_call 62; refine (BF.out _ K0.out.1.drew).mono ?_; rintro e u1 ⟨cs, rfl, hv, hb1⟩; have hk1 := K0.out.drew.below hb1; obtain ⟨mc0, mf0, mc1, mf1, mc2, mf2, -⟩ := hk1.rd; obtain ⟨A', c', B', d', C', e', b', o', s', e1, -⟩ := hv.reads; injection e1 with e1; subst e1; have HV := Lib.hid (hv.mono (show w.heap.size + 1 + 1 + 1 ≤ _ by simp [World.drew])); have KK := Lib.hid hk1; clear hv hk1 hb1)
 all_goals
  go_wp2_with fail
  obtain ⟨w9, e9, ⟨d0, d1, d2, d3, d4, d5⟩, ⟨f0, f1⟩, hb9, hv9⟩ := ans_end (w := w) (x0 := .int .i64 y.key) (x1 := .slice A' y.counts.length c') (x2 := .slice B' y.trusts.length d') (x3 := .slice C' y.cells.length e') (x4 := .slice (some ⟨b', o', none⟩) 2 s') (x5 := .int .i64 y.count) (a0 := .int .i64 p) (a1 := .int .i64 q) (KK.out.at_ (p := w.heap.size + 1) (t := 45) (cs := zV) (by simp)) (KK.out.at_ (p := w.heap.size + 1 + 1) (t := 80) (cs := zC) (by simp)) (by omega) KK.out.1 (by omega) (by omega)
  rw [e9]
  exact bodyPost_ret (v := .tuple #[.agg (vX y A' c' B' d' C' e' b' o' s'), .agg (cA p q)]) (by simp [results, Tryz.results63, go_sem, d0, d1, d2, d3, d4, d5, f0, f1]) rfl ⟨_, rfl, (hv9 _ _ _ (by omega) (by omega) HV.out).mono (by omega), hb9⟩
set_option maxRecDepth 20000 in
set_option maxHeartbeats 8000000 in
theorem l14Replay_bad1 (x : VolN) (v : Value) (w : World) (hx : x.Short) (hv : VolR w w.heap.size x v) (hfit : x.Fit) (a : Int) (ha : ¬ (0 ≤ a ∧ a < x.s1.cells.length)) : Calls Tryz.prog 63 #[v, .int .i64 a, .int .i64 1] w (VolAnsA w (x, 1, 0)) := by
 have CO := Lib.hid (fun (u : World) (hb : Below w.heap.size w u) => l12Copy_r x v u hx (hv.grow hb))
 obtain ⟨A, cap, B, tc, C, cc, b, off, sc, rfl, hA, hB, hC, hbb, h0, h1, hcap⟩ := hv
 have K0 := Lib.hid (show Kept w [(w.heap.size + 1 + 1, 80, zC), (w.heap.size + 1, 45, zV), (w.heap.size, 45, (vX x A cap B tc C cc b off sc))] _ from ((((Kept.refl w).put1 _ _ (vX x A cap B tc C cc b off sc) rfl).put1 _ _ zV (by simp)).put1 _ _ zC (by simp)))
 obtain ⟨Bs, ts, Ds, ds, y0, y1, y2, y3, hrw⟩ := h1
 have QQ := Lib.hid (show ∀ (u : World), Below w.heap.size w u → (u.cell? ⟨b, off + 4, none⟩ = some (.int .i64 x.s1.count) ∧ u.cell? ⟨b, off + 4 + 1, none⟩ = some (.slice Bs x.s1.trusts.length ts) ∧ u.cell? ⟨b, off + 4 + 2, none⟩ = some (.int .i64 x.s1.mac) ∧ u.cell? ⟨b, off + 4 + 3, none⟩ = some (.slice Ds x.s1.cells.length ds)) from fun u hu => ⟨(hu.cell (p := ⟨b, _, none⟩) hbb).trans y0, (hu.cell (p := ⟨b, _, none⟩) hbb).trans y1, (hu.cell (p := ⟨b, _, none⟩) hbb).trans y2, (hu.cell (p := ⟨b, _, none⟩) hbb).trans y3⟩)
 clear y0 y1 y2 y3
 have I := Lib.hid (fun u => l1In_yes 1 0 1 u (by omega) (by omega))
 have hlen : x.s1.cells.length ≤ 1048576 := hx.2.2.2.2.2.2
 have hwl : IntKind.i64.wrap ((x.s1.cells.length : Int) - 1) = x.s1.cells.length - 1 := IntWalk.i64_in _ (by omega)
 have J := Lib.hid (fun u => l1In_no a 0 (x.s1.cells.length - 1) u (by omega))
 clear ha
 clear hrw hA hB hC h0
 have q_ := QQ.out _ K0.out.1
 obtain ⟨q0, q1, q2, q3⟩ := q_
 go_enter Tryz.func63, Tryz.ntmps63
 go_wp2_with fail
 refine (I.out _).mono ?_; rintro e w' ⟨rfl, rfl⟩
 obtain ⟨kc0, kf0, kc1, kf1, kc2, kf2, -⟩ := K0.out.rd
 go_wp2_with fail
 refine (J.out _).mono ?_; rintro e w' ⟨rfl, rfl⟩
 go_wp2_with fail
 clear q0 q1 q2 q3
 refine (CO.out _ K0.out.1).mono ?_; rintro e u1 ⟨vv, rfl, hv, hb1⟩
 obtain ⟨A', c', B', d', C', e', b', o', s', rfl, -⟩ := hv.reads
 have hk1 := K0.out.below hb1
 have hv1 := hv.mono (show w.heap.size + 1 + 1 + 1 ≤ _ by simp)
 have lo0 : w.heap.size + 1 + 1 < u1.heap.size := hk1.lt (x := (w.heap.size + 1 + 1, 80, zC)) (by simp)
 clear kc0 kf0 kc1 kf1 kc2 kf2
 obtain ⟨kc0, kf0, kc1, kf1, kc2, kf2, -⟩ := hk1.rd
 have HV := Lib.hid hv1
 have KK := Lib.hid hk1
 clear hb1 hv hv1 hk1 CO
 go_wp2_with fail
 obtain ⟨w9, e9, ⟨d0, d1, d2, d3, d4, d5⟩, ⟨f0, f1⟩, hb9, hv9⟩ := ans_end (w := w) (x0 := .int .i64 x.key) (x1 := .slice A' x.counts.length c') (x2 := .slice B' x.trusts.length d') (x3 := .slice C' x.cells.length e') (x4 := .slice (some ⟨b', o', none⟩) 2 s') (x5 := .int .i64 x.count) (a0 := .int .i64 1) (a1 := .int .i64 0) (KK.out.at_ (p := w.heap.size + 1) (t := 45) (cs := zV) (by simp)) (KK.out.at_ (p := w.heap.size + 1 + 1) (t := 80) (cs := zC) (by simp)) (by omega) KK.out.1 (by omega) (by omega)
 rw [e9]
 exact bodyPost_ret (v := .tuple #[.agg (vX x A' c' B' d' C' e' b' o' s'), .agg (cA 1 0)]) (by simp [results, Tryz.results63, go_sem, d0, d1, d2, d3, d4, d5, f0, f1]) rfl ⟨_, rfl, (hv9 _ _ _ (by omega) (by omega) HV.out).mono (by omega), hb9⟩
set_option maxRecDepth 20000 in
set_option maxHeartbeats 8000000 in
theorem l14Replay_yes1 (x : VolN) (v : Value) (w : World) (hx : x.Short) (hv : VolR w w.heap.size x v) (hfit : x.Fit) (a : Int) (ha : (0 ≤ a ∧ a < x.s1.cells.length)) : Calls Tryz.prog 63 #[v, .int .i64 a, .int .i64 1] w (VolAnsA w (bendVol x a (x.s1.cells.getD a.toNat default).1 (x.s1.cells.getD a.toNat default).2)) := by
 have BE := Lib.hid (fun (u : World) (c0 c1 : Int) (hb : Below w.heap.size w u) => l14Bend_calls x v u hx (hv.grow hb) hfit a c0 c1)
 obtain ⟨A, cap, B, tc, C, cc, b, off, sc, rfl, hA, hB, hC, hbb, h0, h1, hcap⟩ := hv
 have K0 := Lib.hid (show Kept w [(w.heap.size + 1 + 1, 80, zC), (w.heap.size + 1, 45, zV), (w.heap.size, 45, (vX x A cap B tc C cc b off sc))] _ from ((((Kept.refl w).put1 _ _ (vX x A cap B tc C cc b off sc) rfl).put1 _ _ zV (by simp)).put1 _ _ zC (by simp)))
 obtain ⟨Bs, ts, Ds, ds, y0, y1, y2, y3, hrw⟩ := h1
 have QQ := Lib.hid (show ∀ (u : World), Below w.heap.size w u → (u.cell? ⟨b, off + 4, none⟩ = some (.int .i64 x.s1.count) ∧ u.cell? ⟨b, off + 4 + 1, none⟩ = some (.slice Bs x.s1.trusts.length ts) ∧ u.cell? ⟨b, off + 4 + 2, none⟩ = some (.int .i64 x.s1.mac) ∧ u.cell? ⟨b, off + 4 + 3, none⟩ = some (.slice Ds x.s1.cells.length ds)) from fun u hu => ⟨(hu.cell (p := ⟨b, _, none⟩) hbb).trans y0, (hu.cell (p := ⟨b, _, none⟩) hbb).trans y1, (hu.cell (p := ⟨b, _, none⟩) hbb).trans y2, (hu.cell (p := ⟨b, _, none⟩) hbb).trans y3⟩)
 clear y0 y1 y2 y3
 have I := Lib.hid (fun u => l1In_yes 1 0 1 u (by omega) (by omega))
 have hlen : x.s1.cells.length ≤ 1048576 := hx.2.2.2.2.2.2
 have hwl : IntKind.i64.wrap ((x.s1.cells.length : Int) - 1) = x.s1.cells.length - 1 := IntWalk.i64_in _ (by omega)
 obtain ⟨j, rfl⟩ : ∃ j : Nat, a = j := ⟨a.toNat, by omega⟩
 have hj : j < x.s1.cells.length := by omega
 obtain ⟨bC, oC, rfl, hbC, hcC⟩ := Cls.at_ hrw.2 hj
 have HC := Lib.hid (fun (u : World) (hb : Below w.heap.size w u) => hcC.below hb hbC)
 have J := Lib.hid (fun u => l1In_yes j 0 (x.s1.cells.length - 1) u (by omega) (by omega))
 have hlt2 : (j : Int) < x.s1.cells.length := by omega
 have hj0 : (0 : Int) ≤ j := by omega
 simp only [Int.toNat_natCast]
 generalize x.s1.cells.getD j default = c at HC ⊢
 have BF0 := fun (u : World) (hb : Below w.heap.size w u) => BE.out u c.1 c.2 hb
 generalize bendVol x j c.1 c.2 = Y at BF0 ⊢
 obtain ⟨y, p, q⟩ := Y
 have BF := Lib.hid BF0
 clear hcC hj ha BE BF0
 clear hrw hA hB hC h0
 have q_ := QQ.out _ K0.out.1
 obtain ⟨q0, q1, q2, q3⟩ := q_
 go_enter Tryz.func63, Tryz.ntmps63
 go_wp2_with fail
 refine (I.out _).mono ?_; rintro e w' ⟨rfl, rfl⟩
 obtain ⟨kc0, kf0, kc1, kf1, kc2, kf2, -⟩ := K0.out.rd
 go_wp2_with fail
 refine (J.out _).mono ?_; rintro e w' ⟨rfl, rfl⟩
 go_upto_region 3 with fail
 obtain ⟨qc0, qc1⟩ := HC.out _ K0.out.1
 go_region_with (go_at_call 62; refine (BF.out _ K0.out.1.drew).mono ?_; rintro e u1 ⟨cs, rfl, hv, hb1⟩; have hk1 := K0.out.drew.below hb1; obtain ⟨mc0, mf0, mc1, mf1, mc2, mf2, -⟩ := hk1.rd; obtain ⟨A', c', B', d', C', e', b', o', s', e1, -⟩ := hv.reads; injection e1 with e1; subst e1; have HV := Lib.hid (hv.mono (show w.heap.size + 1 + 1 + 1 ≤ _ by simp [World.drew])); have KK := Lib.hid hk1; clear hv hk1 hb1)
 all_goals
  go_wp2_with fail
  obtain ⟨w9, e9, ⟨d0, d1, d2, d3, d4, d5⟩, ⟨f0, f1⟩, hb9, hv9⟩ := ans_end (w := w) (x0 := .int .i64 y.key) (x1 := .slice A' y.counts.length c') (x2 := .slice B' y.trusts.length d') (x3 := .slice C' y.cells.length e') (x4 := .slice (some ⟨b', o', none⟩) 2 s') (x5 := .int .i64 y.count) (a0 := .int .i64 p) (a1 := .int .i64 q) (KK.out.at_ (p := w.heap.size + 1) (t := 45) (cs := zV) (by simp)) (KK.out.at_ (p := w.heap.size + 1 + 1) (t := 80) (cs := zC) (by simp)) (by omega) KK.out.1 (by omega) (by omega)
  rw [e9]
  exact bodyPost_ret (v := .tuple #[.agg (vX y A' c' B' d' C' e' b' o' s'), .agg (cA p q)]) (by simp [results, Tryz.results63, go_sem, d0, d1, d2, d3, d4, d5, f0, f1]) rfl ⟨_, rfl, (hv9 _ _ _ (by omega) (by omega) HV.out).mono (by omega), hb9⟩
theorem l14Replay_calls (x : VolN) (v : Value) (w : World) (hx : x.Short) (hv : VolR w w.heap.size x v) (hfit : x.Fit) (a slot : Int) : Calls Tryz.prog 63 #[v, .int .i64 a, .int .i64 slot] w (VolAnsA w (replayVol x a slot)) := by
 unfold replayVol
 by_cases h0 : slot = 0
 ·subst h0
  rw [if_pos rfl]
  by_cases ha : 0 ≤ a ∧ a < x.s0.cells.length
  ·rw [if_pos ha]; exact l14Replay_yes0 x v w hx hv hfit a ha
  ·rw [if_neg ha]; exact l14Replay_bad0 x v w hx hv hfit a ha
 ·rw [if_neg h0]
  by_cases h1 : slot = 1
  ·subst h1
   rw [if_pos rfl]
   by_cases ha : 0 ≤ a ∧ a < x.s1.cells.length
   ·rw [if_pos ha]; exact l14Replay_yes1 x v w hx hv hfit a ha
   ·rw [if_neg ha]; exact l14Replay_bad1 x v w hx hv hfit a ha
  ·rw [if_neg h1]; exact l14Replay_no x v w hx hv a slot (by omega)
theorem wrap_i64 (n : Int) : I64 (IntKind.i64.wrap n) := by
 rw [IntKind.wrap_i64]
 unfold I64; omega
theorem roll_i64 (key : Int) (l : List Int) (h : 1 ≤ key) (h1 : key ≤ 1000000) : I64 (roll 131 2147483647 (7 + key) l * 2147483648 + roll 137 2147483629 (11 + 2 * key) l) := by
 have a := roll_bd 131 2147483647 (7 + key) l (by omega) (by omega) (by omega)
 have b := roll_bd 137 2147483629 (11 + 2 * key) l (by omega) (by omega) (by omega)
 unfold I64; omega
theorem mixOf_i64 (key : Int) (l : List Int) : I64 (mixOf key l) := by
 unfold mixOf
 split
 ·rename_i h; exact roll_i64 key l h.1.1 h.1.2
 ·unfold I64; omega
theorem macOf_i64 (key : Int) (l : List Int) (count : Int) (L : List Tru) : I64 (macOf key l count L) := by
 unfold macOf
 split
 ·exact mixOf_i64 _ _
 ·unfold I64; omega
theorem TrusI.nil : TrusI [] := fun i hi => by simp at hi
theorem sealN_fine (key : Int) (l : List Int) (cnt : Int) (L : List Tru) (hL : TrusI L) (h4 : L.length ≤ 4) : (sealN key l cnt L).2.1.length ≤ 4 ∧ TrusI (sealN key l cnt L).2.1 ∧ I64 (sealN key l cnt L).1 ∧ I64 (sealN key l cnt L).2.2 := by
 unfold sealN
 split
 ·rename_i h; exact ⟨h4, hL, by unfold I64; simp only []; omega, macOf_i64 _ _ _ _⟩
 ·exact ⟨by simp, TrusI.nil, by unfold I64; simp only []; omega, by unfold I64; simp only []; omega⟩
theorem VolN.Inv.slotN {x : VolN} (h : x.Inv) (stage : Int) : (slotN x stage).Inv x.key x.counts := by
 have hl := h.2.1.2.1
 have h4 := h.1.2.1.2
 obtain ⟨a, b, c, d⟩ := sealN_fine x.key x.counts (x.count + 1) x.trusts h.2.1.i64 (by omega)
 refine ⟨.inr h.2.2.1, a, b, c, ?_⟩
 unfold Mx.slotN
 simp only []
 split
 ·exact ⟨by decide, by decide⟩
 ·exact d
theorem saveVol_inv {x : VolN} (h : x.Inv) (stage : Int) : (saveVol x stage).1.Inv := by
 unfold saveVol
 split
 ·exact h
 ·split
  ·exact h
  ·split
   ·exact h
   ·rename_i h1 h2 h3
    have hs := h.slotN stage
    obtain ⟨a, b, c, d, e, f⟩ := h
    unfold savePut
    split
    ·exact ⟨a, b, c, by simp only []; split <;> omega, hs, f⟩
    ·exact ⟨a, b, c, by simp only []; split <;> omega, e, hs⟩
theorem trustsOk_fail {key : Int} {l : List Int} {L : List Tru} (h : trustsOk key l L) : trustsOk key l (L.map failT) := by
 refine ⟨h.1, by rw [List.length_map]; exact h.2.1, fun i hi => ?_⟩
 rw [List.length_map] at hi
 have e : (L.map failT).getD i default = failT (L.getD i default) := by
  rw [List.getD_eq_getElem?_getD, List.getD_eq_getElem?_getD, List.getElem?_map, List.getElem?_eq_getElem hi]; rfl
 rw [e]
 exact h.2.2 i hi
theorem chosenOf_right {key : Int} {l : List Int} {S : List SlN} {n : Int} {k : Nat} (h : chosenOf key l S n = k) : k < S.length ∧ choiceB key l n (S.getD k default) = true := by
 unfold chosenOf at h
 split at h
 ·rename_i hlt
  have e : S.findIdx (choiceB key l n) = k := by omega
  refine ⟨by omega, ?_⟩
  have := List.findIdx_getElem (w := hlt)
  rw [List.getD_eq_getElem?_getD, List.getElem?_eq_getElem (by omega)]
  simp only [Option.getD_some]
  simpa [e] using this
 ·omega
theorem choice_ok {key : Int} {l : List Int} {n : Int} {s : SlN} (h : choiceB key l n s = true) : trustsOk key l s.trusts ∧ cellsOk key l s.cells := by
 unfold choiceB slotB sealB trustsB cellsB at h
 simp only [Bool.and_eq_true, decide_eq_true_eq] at h
 exact ⟨h.1.1.1.1, h.1.2⟩
theorem fallVol_inv {x : VolN} (h : x.Inv) : (fallVol x).1.Inv := by
 have hch := chosenOf_two x.key x.counts x.s0 x.s1 x.count
 obtain ⟨a, b, c, d, e, f⟩ := h
 unfold fallVol
 split
 ·exact ⟨a, trustsOk_fail b, c, d, e, f⟩
 ·split
  ·rename_i h1 h0
   obtain ⟨-, hk⟩ := chosenOf_right (k := 0) (by rw [h0]; rfl)
   obtain ⟨p, q⟩ := choice_ok hk
   exact ⟨a, p, q, d, e, f⟩
  ·rename_i h1 h0
   obtain ⟨-, hk⟩ := chosenOf_right (key := x.key) (l := x.counts) (S := [x.s0, x.s1]) (n := x.count) (k := 1) (by rcases hch with hc | hc | hc <;> omega)
   obtain ⟨p, q⟩ := choice_ok hk
   exact ⟨a, p, q, d, e, f⟩
theorem spoilVol_inv {x : VolN} (h : x.Inv) (slot : Int) : (spoilVol x slot).1.Inv := by
 obtain ⟨a, b, c, d, e, f⟩ := h
 unfold spoilVol
 split
 ·exact ⟨a, b, c, d, ⟨e.1, e.2.1, e.2.2.1, e.2.2.2.1, wrap_i64 _⟩, f⟩
 ·split
  ·exact ⟨a, b, c, d, e, ⟨f.1, f.2.1, f.2.2.1, f.2.2.2.1, wrap_i64 _⟩⟩
  ·exact ⟨a, b, c, d, e, f⟩
theorem bendVol_inv {x : VolN} (h : x.Inv) (a c0 c1 : Int) : (bendVol x a c0 c1).1.Inv := by
 unfold bendVol
 split
 ·rename_i hc
  obtain ⟨p, q, r, s, t, u⟩ := h
  exact ⟨p, q, cellsOk_set r hc.2, s, t, u⟩
 ·exact h
theorem replayVol_inv {x : VolN} (h : x.Inv) (a slot : Int) : (replayVol x a slot).1.Inv := by
 unfold replayVol
 split
 ·split
  ·exact bendVol_inv h _ _ _
  ·exact h
 ·split
  ·split
   ·exact bendVol_inv h _ _ _
   ·exact h
  ·exact h
theorem VolN.Inv.pos {x : VolN} (h : x.Inv) : 0 < x.trusts.length := by
 have a := h.1.2.1.1
 have b := h.2.1.2.1
 omega
end Go.Proofs.YtjbnknccnhdapaaGreat.Mx

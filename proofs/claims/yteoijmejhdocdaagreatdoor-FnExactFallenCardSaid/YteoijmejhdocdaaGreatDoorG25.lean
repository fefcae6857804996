import Derived.Test.YteoijmejhdocdaaGreatDoorG15
namespace Go.Proofs.YteoijmejhdocdaaGreatDoor.Mx
open Go.ChangeShapes Go.WideShapes Go.ChangeAt Go.RowKit
set_option linter.unusedVariables false
noncomputable def slotN (x : VolN) (stage : Int) : SlN := ⟨(sealN x.key x.counts (x.count + 1) x.trusts).1, (sealN x.key x.counts (x.count + 1) x.trusts).2.1, if stage = 1 then 0 else (sealN x.key x.counts (x.count + 1) x.trusts).2.2, x.cells⟩
def savePut (x : VolN) (s : SlN) : VolN := if (x.count + 1) % 2 = 0 then { x with s0 := s } else { x with s1 := s }
noncomputable def saveVol (x : VolN) (stage : Int) : VolN × Int :=
  if ¬ (0 ≤ stage ∧ stage ≤ 3) then (x, 1) else if 10000 ≤ x.count then (x, 3) else if stage = 0 then (x, 0) else
  ({ savePut x (slotN x stage) with count := if stage = 3 then x.count + 1 else x.count }, 0)
set_option maxRecDepth 20000 in
set_option maxHeartbeats 4000000 in
theorem l13Save_bad (x : VolN) (v : Value) (w : World) (hx : x.Short) (hv : VolR w w.heap.size x v) (stage : Int) (hs : ¬ (0 ≤ stage ∧ stage ≤ 3)) : Calls Tryz.prog 88 #[v, .int .i64 stage] w (VolAns1 w (x, 1)) := by
  have CO := Lib.hid (fun (u : World) (hb : Below w.heap.size w u) => l12Copy_r x v u hx (hv.grow hb))
  obtain ⟨A, cap, B, tc, C, cc, b, off, sc, rfl, hA, hB, hC, hbb, h0, h1, hcap⟩ := hv
  have K0 := Lib.hid (show Kept w [(w.heap.size + 1, 31, zV), (w.heap.size, 31, (vX x A cap B tc C cc b off sc))] _ from (((Kept.refl w).put1 _ _ (vX x A cap B tc C cc b off sc) rfl).put1 _ _ zV (by simp)))
  clear hA hB hC h0 h1
  have I := Lib.hid (fun u => l1In_no stage 0 3 u (by omega))
  clear hs
  go_enter Tryz.func88, Tryz.ntmps88
  go_wp2_with fail
  refine (CO.out _ K0.out.1).mono ?_; rintro e u1 ⟨vv, rfl, hv, hb1⟩
  have hk1 := K0.out.below hb1
  obtain ⟨A', c', B', d', C', e', b', o', s', rfl, -⟩ := hv.reads
  have hv1 := hv.mono (show w.heap.size + 1 + 1 ≤ _ by simp)
  have hbl := hv.slotsGet.2.2.2.1
  have lo0 : w.heap.size + 1 < u1.heap.size := hk1.lt (x := (w.heap.size + 1, 31, zV)) (by simp)
  have lo1 : w.heap.size < u1.heap.size := hk1.lt (x := (w.heap.size, 31, (vX x A cap B tc C cc b off sc))) (by simp)
  have hk2 := hk1.put1 u1.heap.size 31 (vX x A' c' B' d' C' e' b' o' s') rfl
  have hv2 := hv1.below ((Below.refl _ _).alloc (Nat.le_refl _) (.cells (vX x A' c' B' d' C' e' b' o' s') 31))
  clear hb1 hk1 hv hv1 CO
  go_upto_region 2 with fail
  generalize World.alloc u1 _ = u2 at hk2 hv2 ⊢
  obtain ⟨kc0, kf0, kc1, kf1, kc2, kf2, -⟩ := hk2.rd
  have HV := Lib.hid hv2
  clear hv2
  have KK := Lib.hid hk2
  go_wp2_with fail
  refine (I.out _).mono ?_; rintro e w' ⟨rfl, rfl⟩
  go_wp2_with fail
  obtain ⟨w9, e9, ⟨d0, d1, d2, d3, d4, d5⟩, hb9, hg9⟩ := vol_end (w := w) (x0 := .int .i64 x.key) (x1 := .slice A' x.counts.length c') (x2 := .slice B' x.trusts.length d') (x3 := .slice C' x.cells.length e') (x4 := .slice (some ⟨b', o', none⟩) 2 s') (x5 := .int .i64 x.count) (KK.out.at_ (p := w.heap.size + 1) (t := 31) (cs := zV) (by simp)) KK.out.1 (by omega)
  rw [e9]
  exact bodyPost_ret (v := .tuple #[.agg (vX x A' c' B' d' C' e' b' o' s'), .int .i64 1]) (by simp [results, Tryz.results88, go_sem, d0, d1, d2, d3, d4, d5]) rfl ⟨_, rfl, (HV.out.out hg9 (by omega)).mono (by omega), hb9⟩
set_option maxRecDepth 20000 in
set_option maxHeartbeats 4000000 in
theorem l13Save_spent (x : VolN) (v : Value) (w : World) (hx : x.Short) (hv : VolR w w.heap.size x v) (stage : Int) (hs : 0 ≤ stage ∧ stage ≤ 3) (hc : 10000 ≤ x.count) : Calls Tryz.prog 88 #[v, .int .i64 stage] w (VolAns1 w (x, 3)) := by
  have CO := Lib.hid (fun (u : World) (hb : Below w.heap.size w u) => l12Copy_r x v u hx (hv.grow hb))
  obtain ⟨A, cap, B, tc, C, cc, b, off, sc, rfl, hA, hB, hC, hbb, h0, h1, hcap⟩ := hv
  have K0 := Lib.hid (show Kept w [(w.heap.size + 1, 31, zV), (w.heap.size, 31, (vX x A cap B tc C cc b off sc))] _ from (((Kept.refl w).put1 _ _ (vX x A cap B tc C cc b off sc) rfl).put1 _ _ zV (by simp)))
  clear hA hB hC h0 h1
  have I := Lib.hid (fun u => l1In_yes stage 0 3 u hs.1 hs.2)
  have hd : decide (10000 ≤ x.count) = true := decide_eq_true hc
  clear hs
  go_enter Tryz.func88, Tryz.ntmps88
  go_wp2_with fail
  refine (CO.out _ K0.out.1).mono ?_; rintro e u1 ⟨vv, rfl, hv, hb1⟩
  have hk1 := K0.out.below hb1
  obtain ⟨A', c', B', d', C', e', b', o', s', rfl, -⟩ := hv.reads
  have hv1 := hv.mono (show w.heap.size + 1 + 1 ≤ _ by simp)
  have hbl := hv.slotsGet.2.2.2.1
  have lo0 : w.heap.size + 1 < u1.heap.size := hk1.lt (x := (w.heap.size + 1, 31, zV)) (by simp)
  have lo1 : w.heap.size < u1.heap.size := hk1.lt (x := (w.heap.size, 31, (vX x A cap B tc C cc b off sc))) (by simp)
  have hk2 := hk1.put1 u1.heap.size 31 (vX x A' c' B' d' C' e' b' o' s') rfl
  have hv2 := hv1.below ((Below.refl _ _).alloc (Nat.le_refl _) (.cells (vX x A' c' B' d' C' e' b' o' s') 31))
  clear hb1 hk1 hv hv1 CO
  go_upto_region 2 with fail
  generalize World.alloc u1 _ = u2 at hk2 hv2 ⊢
  obtain ⟨kc0, kf0, kc1, kf1, kc2, kf2, -⟩ := hk2.rd
  have HV := Lib.hid hv2
  clear hv2
  have KK := Lib.hid hk2
  go_wp2_with fail
  refine (I.out _).mono ?_; rintro e w' ⟨rfl, rfl⟩
  go_wp2_with fail
  obtain ⟨w9, e9, ⟨d0, d1, d2, d3, d4, d5⟩, hb9, hg9⟩ := vol_end (w := w) (x0 := .int .i64 x.key) (x1 := .slice A' x.counts.length c') (x2 := .slice B' x.trusts.length d') (x3 := .slice C' x.cells.length e') (x4 := .slice (some ⟨b', o', none⟩) 2 s') (x5 := .int .i64 x.count) (KK.out.at_ (p := w.heap.size + 1) (t := 31) (cs := zV) (by simp)) KK.out.1 (by omega)
  rw [e9]
  exact bodyPost_ret (v := .tuple #[.agg (vX x A' c' B' d' C' e' b' o' s'), .int .i64 3]) (by simp [results, Tryz.results88, go_sem, d0, d1, d2, d3, d4, d5]) rfl ⟨_, rfl, (HV.out.out hg9 (by omega)).mono (by omega), hb9⟩
set_option maxRecDepth 20000 in
set_option maxHeartbeats 4000000 in
theorem l13Save_zero (x : VolN) (v : Value) (w : World) (hx : x.Short) (hv : VolR w w.heap.size x v) (hc : ¬ 10000 ≤ x.count) : Calls Tryz.prog 88 #[v, .int .i64 0] w (VolAns1 w (x, 0)) := by
  have CO := Lib.hid (fun (u : World) (hb : Below w.heap.size w u) => l12Copy_r x v u hx (hv.grow hb))
  obtain ⟨A, cap, B, tc, C, cc, b, off, sc, rfl, hA, hB, hC, hbb, h0, h1, hcap⟩ := hv
  have K0 := Lib.hid (show Kept w [(w.heap.size + 1, 31, zV), (w.heap.size, 31, (vX x A cap B tc C cc b off sc))] _ from (((Kept.refl w).put1 _ _ (vX x A cap B tc C cc b off sc) rfl).put1 _ _ zV (by simp)))
  clear hA hB hC h0 h1
  have I := Lib.hid (fun u => l1In_yes 0 0 3 u (by omega) (by omega))
  have hd : decide (10000 ≤ x.count) = false := decide_eq_false hc
  go_enter Tryz.func88, Tryz.ntmps88
  go_wp2_with fail
  refine (CO.out _ K0.out.1).mono ?_; rintro e u1 ⟨vv, rfl, hv, hb1⟩
  have hk1 := K0.out.below hb1
  obtain ⟨A', c', B', d', C', e', b', o', s', rfl, -⟩ := hv.reads
  have hv1 := hv.mono (show w.heap.size + 1 + 1 ≤ _ by simp)
  have hbl := hv.slotsGet.2.2.2.1
  have lo0 : w.heap.size + 1 < u1.heap.size := hk1.lt (x := (w.heap.size + 1, 31, zV)) (by simp)
  have lo1 : w.heap.size < u1.heap.size := hk1.lt (x := (w.heap.size, 31, (vX x A cap B tc C cc b off sc))) (by simp)
  have hk2 := hk1.put1 u1.heap.size 31 (vX x A' c' B' d' C' e' b' o' s') rfl
  have hv2 := hv1.below ((Below.refl _ _).alloc (Nat.le_refl _) (.cells (vX x A' c' B' d' C' e' b' o' s') 31))
  clear hb1 hk1 hv hv1 CO
  go_upto_region 2 with fail
  generalize World.alloc u1 _ = u2 at hk2 hv2 ⊢
  obtain ⟨kc0, kf0, kc1, kf1, kc2, kf2, -⟩ := hk2.rd
  have HV := Lib.hid hv2
  clear hv2
  have KK := Lib.hid hk2
  go_wp2_with fail
  refine (I.out _).mono ?_; rintro e w' ⟨rfl, rfl⟩
  go_wp2_with fail
  obtain ⟨w9, e9, ⟨d0, d1, d2, d3, d4, d5⟩, hb9, hg9⟩ := vol_end (w := w) (x0 := .int .i64 x.key) (x1 := .slice A' x.counts.length c') (x2 := .slice B' x.trusts.length d') (x3 := .slice C' x.cells.length e') (x4 := .slice (some ⟨b', o', none⟩) 2 s') (x5 := .int .i64 x.count) (KK.out.at_ (p := w.heap.size + 1) (t := 31) (cs := zV) (by simp)) KK.out.1 (by omega)
  rw [e9]
  exact bodyPost_ret (v := .tuple #[.agg (vX x A' c' B' d' C' e' b' o' s'), .int .i64 0]) (by simp [results, Tryz.results88, go_sem, d0, d1, d2, d3, d4, d5]) rfl ⟨_, rfl, (HV.out.out hg9 (by omega)).mono (by omega), hb9⟩
set_option maxRecDepth 20000 in
set_option maxHeartbeats 8000000 in
theorem l13Save_1_0 (x : VolN) (v : Value) (w : World) (hx : x.Short) (hv : VolR w w.heap.size x v) (hI : TrusI x.trusts) (hc0 : 0 ≤ x.count) (hc : ¬ 10000 ≤ x.count) (hpar : (x.count + 1) % 2 = 0) : Calls Tryz.prog 88 #[v, .int .i64 1] w (VolAns1 w ({ x with s0 := slotN x 1 }, 0)) := by
  have CO := Lib.hid (fun (u : World) (hb : Below w.heap.size w u) => l12Copy_r x v u hx (hv.grow hb))
  obtain ⟨A, cap, B, tc, C, cc, b, off, sc, rfl, hA, hB, hC, hbb, h0, h1, hcap⟩ := hv
  have K0 := Lib.hid (show Kept w [(w.heap.size + 1, 31, zV), (w.heap.size, 31, (vX x A cap B tc C cc b off sc))] _ from (((Kept.refl w).put1 _ _ (vX x A cap B tc C cc b off sc) rfl).put1 _ _ zV (by simp)))
  have I := Lib.hid (fun u => l1In_yes 1 0 3 u (by omega) (by omega))
  have hd : decide (10000 ≤ x.count) = false := decide_eq_false hc
  have S0 := fun (u : World) (hb : Below w.heap.size w u) => specSealOf_calls x.key A x.counts cap (x.count + 1) B x.trusts tc u (by have := hx.1; unfold maxLen; omega) ((hA.below hb (Nat.le_refl _)).more hb.size) hx.2.1 ((hB.below hb (Nat.le_refl _)).more hb.size) hI ⟨by omega, by omega⟩
  have NW := Lib.hid (fun (u : World) (hb : Below w.heap.size w u) => Sls.news ceV_len (by omega) (hC.below hb (Nat.le_refl _)))
  have hx3 := hx.2.2.1
  unfold slotN
  generalize sealN x.key x.counts (x.count + 1) x.trusts = sl at S0 ⊢
  obtain ⟨scn, sT, smc⟩ := sl
  simp only [] at S0 ⊢
  have SO := Lib.hid S0
  obtain ⟨n1, hn1⟩ : ∃ n1, n1 = x.count + 1 := ⟨_, rfl⟩
  have hw1 : IntKind.i64.wrap (x.count + 1) = n1 := by rw [hn1]; exact IntWalk.i64_in _ (by omega)
  have hn1p : 0 ≤ n1 ∧ n1 ≤ 10000 := by omega
  have hm1 : n1 % 2 = 0 := by rw [hn1]; exact hpar
  have ht1 : Int.tmod n1 2 = 0 := by rw [Int.tmod_eq_emod_of_nonneg hn1p.1]; exact hm1
  rw [← hn1] at SO
  have HN1 := Lib.hid hn1
  have HPAR := Lib.hid hpar
  clear hA hB hC h0 h1 S0 hpar hn1 hI
  go_enter Tryz.func88, Tryz.ntmps88
  go_wp2_with fail
  refine (CO.out _ K0.out.1).mono ?_; rintro e u1 ⟨vv, rfl, hv, hb1⟩
  have hk1 := K0.out.below hb1
  obtain ⟨A', c', B', d', C', e', b', o', s', rfl, -⟩ := hv.reads
  have hv1 := hv.mono (show w.heap.size + 1 + 1 ≤ _ by simp)
  have hbl := hv.slotsGet.2.2.2.1
  have lo0 : w.heap.size + 1 < u1.heap.size := hk1.lt (x := (w.heap.size + 1, 31, zV)) (by simp)
  have lo1 : w.heap.size < u1.heap.size := hk1.lt (x := (w.heap.size, 31, (vX x A cap B tc C cc b off sc))) (by simp)
  have hk2 := hk1.put1 u1.heap.size 31 (vX x A' c' B' d' C' e' b' o' s') rfl
  have hv2 := hv1.below ((Below.refl _ _).alloc (Nat.le_refl _) (.cells (vX x A' c' B' d' C' e' b' o' s') 31))
  have BU0 := Lib.hid ((Below.refl u1.heap.size u1).alloc (Nat.le_refl _) (.cells (vX x A' c' B' d' C' e' b' o' s') 31))
  have HU := Lib.hid hv1
  clear hb1 hk1 hv hv1 CO
  go_upto_region 2 with fail
  have bu := BU0.out
  clear BU0 hv2
  generalize World.alloc u1 _ = u2 at hk2 bu ⊢
  have BU := Lib.hid bu
  clear bu
  obtain ⟨kc0, kf0, kc1, kf1, kc2, kf2, -⟩ := hk2.rd
  have KK := Lib.hid hk2
  go_wp2_with fail
  refine (I.out _).mono ?_; rintro e w' ⟨rfl, rfl⟩
  go_wp2_with fail
  refine (SO.out _ KK.out.1).mono ?_; rintro e u3 ⟨A9, c9, rfl, hr3, b3⟩
  have hk3 := KK.out.below b3
  have bu3 := BU.out.trans (b3.mono BU.out.size)
  have lu2 : u1.heap.size < u2.heap.size := KK.out.lt (x := (u1.heap.size, 31, (vX x A' c' B' d' C' e' b' o' s'))) (by simp)
  clear b3 KK BU SO hk2 kc0 kf0 kc1 kf1 kc2 kf2
  have lp0 : u1.heap.size < u3.heap.size := hk3.lt (x := (u1.heap.size, 31, (vX x A' c' B' d' C' e' b' o' s'))) (by simp)
  have lp1 : w.heap.size + 1 < u3.heap.size := hk3.lt (x := (w.heap.size + 1, 31, zV)) (by simp)
  have lp2 : w.heap.size < u3.heap.size := hk3.lt (x := (w.heap.size, 31, (vX x A cap B tc C cc b off sc))) (by simp)
  have hk4 := hk3.put1 u3.heap.size 89 #[.int .i64 scn, .slice A9 sT.length c9, .int .i64 smc] rfl
  have bu4 := bu3.alloc (by omega) (.cells #[.int .i64 scn, .slice A9 sT.length c9, .int .i64 smc] 89)
  have hr4 := hr3.alloc (.cells #[.int .i64 scn, .slice A9 sT.length c9, .int .i64 smc] 89)
  have hq4 := (Below.refl u3.heap.size u3).alloc (Nat.le_refl _) (.cells #[.int .i64 scn, .slice A9 sT.length c9, .int .i64 smc] 89)
  have hra := fun y hy => (row_at hr3 y hy)
  clear hk3 bu3 hr3
  go_upto_region 8 with fail
  generalize World.alloc u3 _ = u4 at hk4 bu4 hr4 hq4 ⊢
  obtain ⟨kc0, kf0, kc1, kf1, kc2, kf2, kc3, kf3, -⟩ := hk4.rd
  go_upto_region 10 with fail
  have hg5 := gb_set (gb_refl u4 (some u3.heap.size)) 2 (.int .i64 0)
  have hk5 : Kept w [(u3.heap.size, 89, #[.int .i64 scn, .slice A9 sT.length c9, .int .i64 0]), (u1.heap.size, 31, (vX x A' c' B' d' C' e' b' o' s')), (w.heap.size + 1, 31, zV), (w.heap.size, 31, (vX x A cap B tc C cc b off sc))] _ := hk4.put (k := 0) rfl (by unfold Apart; simp; omega) hg5 ((hk4.at_ (p := u3.heap.size) (t := 89) (cs := #[.int .i64 scn, .slice A9 sT.length c9, .int .i64 smc]) (by simp)).set_ 2 _)
  have bu5 := bgb bu4 hg5 bu4.size (by omega)
  have hr5 := row_keep hr4 hg5 (fun hm => by have := (hra _ hm).2; omega)
  have hq5 := bgb hq4 hg5 hq4.size (Nat.le_refl _)
  clear hk4 bu4 hr4 hq4 hg5 kc0 kf0 kc1 kf1 kc2 kf2 kc3 kf3
  generalize World.setCell u4 _ _ = u5 at hk5 bu5 hr5 hq5 ⊢
  obtain ⟨kc0, kf0, kc1, kf1, kc2, kf2, kc3, kf3, -⟩ := hk5.rd
  obtain ⟨eo, es, hbb2, hbu, A0, c0, C0, d0, A1, c1, C1, d1, hsl, -⟩ := HU.out.slotsGet
  subst eo
  subst es
  have hsz : u3.heap.size < u5.heap.size := hk5.lt (x := (u3.heap.size, 89, #[.int .i64 scn, .slice A9 sT.length c9, .int .i64 0])) (by simp)
  have hsl5 : CellsAt u5 b' 91 #[.int .i64 x.s0.count, .slice A0 x.s0.trusts.length c0, .int .i64 x.s0.mac, .slice C0 x.s0.cells.length d0, .int .i64 x.s1.count, .slice A1 x.s1.trusts.length c1, .int .i64 x.s1.mac, .slice C1 x.s1.cells.length d1] := hsl.below bu5 hbu
  have lb5 : b' < u5.heap.size := by omega
  have hLlt : ∀ y ∈ ([(u3.heap.size, 89, #[.int .i64 scn, .slice A9 sT.length c9, .int .i64 0]), (u1.heap.size, 31, (vX x A' c' B' d' C' e' b' 0 2)), (w.heap.size + 1, 31, zV), (w.heap.size, 31, (vX x A cap B tc C cc b off sc))] : List Box), y.1 < u5.heap.size := fun y hy => hk5.lt hy
  have hLne : ∀ y ∈ ([(u3.heap.size, 89, #[.int .i64 scn, .slice A9 sT.length c9, .int .i64 0]), (u1.heap.size, 31, (vX x A' c' B' d' C' e' b' 0 2)), (w.heap.size + 1, 31, zV), (w.heap.size, 31, (vX x A cap B tc C cc b off sc))] : List Box), y.1 ≠ b' := by intro y hy; simp at hy; rcases hy with rfl | rfl | rfl | rfl <;> simp <;> omega
  clear kc0 kf0 kc1 kf1 kc2 kf2 kc3 kf3
  refine wp_region_free [false, false, false, false, false, false, false, true, false, false, true, false, false, true] (ShL [(7, fun v => ∃ g : Nat, v = .slice (some ⟨g, 0, none⟩) 0 0), (10, fun v => ∃ (A : Option Addr) (c : Nat), v = .slice A x.cells.length c)]) (fun D γ u => SaveC w u5 [(u3.heap.size, 89, #[.int .i64 scn, .slice A9 sT.length c9, .int .i64 0]), (u1.heap.size, 31, (vX x A' c' B' d' C' e' b' 0 2)), (w.heap.size + 1, 31, zV), (w.heap.size, 31, (vX x A cap B tc C cc b off sc))] x.cells b' 91 #[.int .i64 x.s0.count, .slice A0 x.s0.trusts.length c0, .int .i64 x.s0.mac, .slice C0 x.s0.cells.length d0, .int .i64 x.s1.count, .slice A1 x.s1.trusts.length c1, .int .i64 x.s1.mac, .slice C1 x.s1.cells.length d1] (fun v => #[.int .i64 scn, .slice A9 sT.length c9, .int .i64 0, v, .int .i64 x.s1.count, .slice A1 x.s1.trusts.length c1, .int .i64 x.s1.mac, .slice C1 x.s1.cells.length d1]) D γ u) (by kernel_rfl) (by kernel_rfl) (fun γ => by kernel_rfl) (fun D γ γ' w ha h => h.loc ha) (ShL.inh _ ?inh) (fun γ => SaveC.start hk5 hsl5) (fun γ hγ => ?_)
  case inh =>
    intro y hy
    simp only [List.mem_cons, List.not_mem_nil, or_false] at hy
    rcases hy with rfl | rfl
    · exact ⟨_, 0, rfl⟩
    · exact ⟨_, none, 0, rfl⟩
  obtain ⟨g7, e7⟩ : ∃ g : Nat, γ 7 = .slice (some ⟨g, 0, none⟩) 0 0 := hγ 7 rfl
  obtain ⟨C9, d9, e10⟩ : ∃ (A : Option Addr) (c : Nat), γ 10 = .slice A x.cells.length c := hγ 10 rfl
  have e13 : γ 13 = undef := hγ 13 rfl
  have HKS := Lib.hid hk5
  clear hk5
  apply Exists.intro
  refine ⟨fun D => ?_, ?_, ?_⟩
  · simp only [hushL, cond_true, cond_false, Nat.reduceAdd, e7, e10, e13]
    iterate 14 (first
      | go_big_quiet_skip
      | (go_big_quiet_want
         go_big_quiet_op
         first
           | go_big_quiet_on
           | (apply Exists.intro
              refine ⟨fun u hu => ?_, ?_⟩
              · first
                  | with_reducible rfl
                  | (obtain ⟨kc0, kf0, kc1, kf1, kc2, kf2, kc3, kf3, -⟩ := hu.1.rd; go_simp; first | done | with_reducible rfl)
              go_big_quiet_on)))
    exact wpQuiet_nil rfl
  · simp only [freeOk, Nat.reduceAdd]
    refine ⟨fun D u hD hd hu => ?_, fun D u hD hd hu => ?_, fun D u hD hd hu => ?_, trivial⟩
    · refine steps_buildNil 28 118 rfl Tryz.underlying28 (by kernel_rfl) ?_
      exact ⟨⟨_, rfl⟩, hu.build hD lb5⟩
    · have d7 := hd { on := 7, ground := Ground.data } (by simp) rfl rfl
      have hrow := hu.2.2.2.2.1 d7 hD
      rw [e7] at hrow
      refine steps_append _ _ 28 rfl u5.heap.size 118 2 16 0 (.agg zC) (.slice (some ⟨g7, 0, none⟩) 0 0) [] C x.cells.length cc (flatS ceV x.cells) Tryz.underlying28 info_cel rfl (by omega) rfl hrow rfl (flatS_length ceV_len) (NW.out u hu.1.1) (ceV_one x.cells) (by unfold maxLen; omega) (by omega) hu.2.1.size ?_
      intro v' w' hown hg hb2
      have hr9 : ClRow w' u5.heap.size v' x.cells := by have h := hown; simp only [Nat.zero_add, List.nil_append] at h; exact h
      obtain ⟨A6, c6, rfl, _, _⟩ := hr9.reads ceV_len
      exact ⟨⟨_, _, rfl⟩, hu.append d7 hD lb5 hLlt HKS.out.1.size e7 hr9 (by simpa [Value.ownBlock] using hg)⟩
    · have d10 := hd { on := 10, ground := Ground.phase } (by simp) rfl rfl
      exact steps_store4 (off := 0) (hu.2.2.1 hD) (by simp) rfl rfl rfl (by kernel_rfl) (by simp [Value.oneCell']) (fun w' hc hg => ⟨rfl, hu.store d10 lb5 (by omega) hLne hg (by simp only [e10]; simpa using hc)⟩)
  · intro D uf hD hu
    have hf := hu.1
    have hgf := hu.2.1
    have hcs := hu.2.2.2.1 (hD 13 (by simp) rfl)
    have hrc := hu.2.2.2.2.2.1 (hD 10 (by simp) rfl)
    simp only [e10] at hcs hrc
    clear hu hD HKS hγ e7 e10 e13
    have hg15 := gb_trans (below_gb bu5 (some b')) hgf
    have hrs := row_keep hr5 hgf (fun hm => by have := (hra _ hm).1; omega)
    have hlts : ∀ y ∈ blkOf (.slice A9 sT.length c9), y < u5.heap.size := fun y hy => by have := (hra y hy).2; omega
    have hsep := sep_new hlts (fun y hy => (row_at hrc y hy).1)
    have hvf := HU.out.slotPut0 (s := ⟨scn, sT, 0, x.cells⟩) hrs hrc (by omega) (by omega) hsep hsl hg15 (by simpa using hcs)
    clear hcs hrc hrs hsep hlts hg15 hgf hsl hsl5 bu5 hr5
    obtain ⟨kc0, kf0, kc1, kf1, kc2, kf2, kc3, kf3, -⟩ := hf.rd
    have HV := Lib.hid hvf
    have KK := Lib.hid hf
    clear hvf hf HU
    go_wp2_with fail
    obtain ⟨w9, e9, ⟨d0, d1, d2, d3, d4, d5⟩, hb9, hg9⟩ := vol_end (w := w) (x0 := .int .i64 x.key) (x1 := .slice A' x.counts.length c') (x2 := .slice B' x.trusts.length d') (x3 := .slice C' x.cells.length e') (x4 := .slice (some ⟨b', 0, none⟩) 2 2) (x5 := .int .i64 x.count) (KK.out.at_ (p := w.heap.size + 1) (t := 31) (cs := zV) (by simp)) KK.out.1 (by omega)
    rw [e9]
    exact bodyPost_ret (v := .tuple #[.agg (vX x A' c' B' d' C' e' b' 0 2), .int .i64 0]) (by simp [results, Tryz.results88, go_sem, d0, d1, d2, d3, d4, d5]) rfl ⟨_, rfl, (HV.out.out hg9 (by omega)).mono (by omega), hb9⟩
set_option maxRecDepth 20000 in
set_option maxHeartbeats 8000000 in
theorem l13Save_1_1 (x : VolN) (v : Value) (w : World) (hx : x.Short) (hv : VolR w w.heap.size x v) (hI : TrusI x.trusts) (hc0 : 0 ≤ x.count) (hc : ¬ 10000 ≤ x.count) (hpar : (x.count + 1) % 2 = 1) : Calls Tryz.prog 88 #[v, .int .i64 1] w (VolAns1 w ({ x with s1 := slotN x 1 }, 0)) := by
  have CO := Lib.hid (fun (u : World) (hb : Below w.heap.size w u) => l12Copy_r x v u hx (hv.grow hb))
  obtain ⟨A, cap, B, tc, C, cc, b, off, sc, rfl, hA, hB, hC, hbb, h0, h1, hcap⟩ := hv
  have K0 := Lib.hid (show Kept w [(w.heap.size + 1, 31, zV), (w.heap.size, 31, (vX x A cap B tc C cc b off sc))] _ from (((Kept.refl w).put1 _ _ (vX x A cap B tc C cc b off sc) rfl).put1 _ _ zV (by simp)))
  have I := Lib.hid (fun u => l1In_yes 1 0 3 u (by omega) (by omega))
  have hd : decide (10000 ≤ x.count) = false := decide_eq_false hc
  have S0 := fun (u : World) (hb : Below w.heap.size w u) => specSealOf_calls x.key A x.counts cap (x.count + 1) B x.trusts tc u (by have := hx.1; unfold maxLen; omega) ((hA.below hb (Nat.le_refl _)).more hb.size) hx.2.1 ((hB.below hb (Nat.le_refl _)).more hb.size) hI ⟨by omega, by omega⟩
  have NW := Lib.hid (fun (u : World) (hb : Below w.heap.size w u) => Sls.news ceV_len (by omega) (hC.below hb (Nat.le_refl _)))
  have hx3 := hx.2.2.1
  unfold slotN
  generalize sealN x.key x.counts (x.count + 1) x.trusts = sl at S0 ⊢
  obtain ⟨scn, sT, smc⟩ := sl
  simp only [] at S0 ⊢
  have SO := Lib.hid S0
  obtain ⟨n1, hn1⟩ : ∃ n1, n1 = x.count + 1 := ⟨_, rfl⟩
  have hw1 : IntKind.i64.wrap (x.count + 1) = n1 := by rw [hn1]; exact IntWalk.i64_in _ (by omega)
  have hn1p : 0 ≤ n1 ∧ n1 ≤ 10000 := by omega
  have hm1 : n1 % 2 = 1 := by rw [hn1]; exact hpar
  have ht1 : Int.tmod n1 2 = 1 := by rw [Int.tmod_eq_emod_of_nonneg hn1p.1]; exact hm1
  rw [← hn1] at SO
  have HN1 := Lib.hid hn1
  have HPAR := Lib.hid hpar
  clear hA hB hC h0 h1 S0 hpar hn1 hI
  go_enter Tryz.func88, Tryz.ntmps88
  go_wp2_with fail
  refine (CO.out _ K0.out.1).mono ?_; rintro e u1 ⟨vv, rfl, hv, hb1⟩
  have hk1 := K0.out.below hb1
  obtain ⟨A', c', B', d', C', e', b', o', s', rfl, -⟩ := hv.reads
  have hv1 := hv.mono (show w.heap.size + 1 + 1 ≤ _ by simp)
  have hbl := hv.slotsGet.2.2.2.1
  have lo0 : w.heap.size + 1 < u1.heap.size := hk1.lt (x := (w.heap.size + 1, 31, zV)) (by simp)
  have lo1 : w.heap.size < u1.heap.size := hk1.lt (x := (w.heap.size, 31, (vX x A cap B tc C cc b off sc))) (by simp)
  have hk2 := hk1.put1 u1.heap.size 31 (vX x A' c' B' d' C' e' b' o' s') rfl
  have hv2 := hv1.below ((Below.refl _ _).alloc (Nat.le_refl _) (.cells (vX x A' c' B' d' C' e' b' o' s') 31))
  have BU0 := Lib.hid ((Below.refl u1.heap.size u1).alloc (Nat.le_refl _) (.cells (vX x A' c' B' d' C' e' b' o' s') 31))
  have HU := Lib.hid hv1
  clear hb1 hk1 hv hv1 CO
  go_upto_region 2 with fail
  have bu := BU0.out
  clear BU0 hv2
  generalize World.alloc u1 _ = u2 at hk2 bu ⊢
  have BU := Lib.hid bu
  clear bu
  obtain ⟨kc0, kf0, kc1, kf1, kc2, kf2, -⟩ := hk2.rd
  have KK := Lib.hid hk2
  go_wp2_with fail
  refine (I.out _).mono ?_; rintro e w' ⟨rfl, rfl⟩
  go_wp2_with fail
  refine (SO.out _ KK.out.1).mono ?_; rintro e u3 ⟨A9, c9, rfl, hr3, b3⟩
  have hk3 := KK.out.below b3
  have bu3 := BU.out.trans (b3.mono BU.out.size)
  have lu2 : u1.heap.size < u2.heap.size := KK.out.lt (x := (u1.heap.size, 31, (vX x A' c' B' d' C' e' b' o' s'))) (by simp)
  clear b3 KK BU SO hk2 kc0 kf0 kc1 kf1 kc2 kf2
  have lp0 : u1.heap.size < u3.heap.size := hk3.lt (x := (u1.heap.size, 31, (vX x A' c' B' d' C' e' b' o' s'))) (by simp)
  have lp1 : w.heap.size + 1 < u3.heap.size := hk3.lt (x := (w.heap.size + 1, 31, zV)) (by simp)
  have lp2 : w.heap.size < u3.heap.size := hk3.lt (x := (w.heap.size, 31, (vX x A cap B tc C cc b off sc))) (by simp)
  have hk4 := hk3.put1 u3.heap.size 89 #[.int .i64 scn, .slice A9 sT.length c9, .int .i64 smc] rfl
  have bu4 := bu3.alloc (by omega) (.cells #[.int .i64 scn, .slice A9 sT.length c9, .int .i64 smc] 89)
  have hr4 := hr3.alloc (.cells #[.int .i64 scn, .slice A9 sT.length c9, .int .i64 smc] 89)
  have hq4 := (Below.refl u3.heap.size u3).alloc (Nat.le_refl _) (.cells #[.int .i64 scn, .slice A9 sT.length c9, .int .i64 smc] 89)
  have hra := fun y hy => (row_at hr3 y hy)
  clear hk3 bu3 hr3
  go_upto_region 8 with fail
  generalize World.alloc u3 _ = u4 at hk4 bu4 hr4 hq4 ⊢
  obtain ⟨kc0, kf0, kc1, kf1, kc2, kf2, kc3, kf3, -⟩ := hk4.rd
  go_upto_region 10 with fail
  have hg5 := gb_set (gb_refl u4 (some u3.heap.size)) 2 (.int .i64 0)
  have hk5 : Kept w [(u3.heap.size, 89, #[.int .i64 scn, .slice A9 sT.length c9, .int .i64 0]), (u1.heap.size, 31, (vX x A' c' B' d' C' e' b' o' s')), (w.heap.size + 1, 31, zV), (w.heap.size, 31, (vX x A cap B tc C cc b off sc))] _ := hk4.put (k := 0) rfl (by unfold Apart; simp; omega) hg5 ((hk4.at_ (p := u3.heap.size) (t := 89) (cs := #[.int .i64 scn, .slice A9 sT.length c9, .int .i64 smc]) (by simp)).set_ 2 _)
  have bu5 := bgb bu4 hg5 bu4.size (by omega)
  have hr5 := row_keep hr4 hg5 (fun hm => by have := (hra _ hm).2; omega)
  have hq5 := bgb hq4 hg5 hq4.size (Nat.le_refl _)
  clear hk4 bu4 hr4 hq4 hg5 kc0 kf0 kc1 kf1 kc2 kf2 kc3 kf3
  generalize World.setCell u4 _ _ = u5 at hk5 bu5 hr5 hq5 ⊢
  obtain ⟨kc0, kf0, kc1, kf1, kc2, kf2, kc3, kf3, -⟩ := hk5.rd
  obtain ⟨eo, es, hbb2, hbu, A0, c0, C0, d0, A1, c1, C1, d1, hsl, -⟩ := HU.out.slotsGet
  subst eo
  subst es
  have hsz : u3.heap.size < u5.heap.size := hk5.lt (x := (u3.heap.size, 89, #[.int .i64 scn, .slice A9 sT.length c9, .int .i64 0])) (by simp)
  have hsl5 : CellsAt u5 b' 91 #[.int .i64 x.s0.count, .slice A0 x.s0.trusts.length c0, .int .i64 x.s0.mac, .slice C0 x.s0.cells.length d0, .int .i64 x.s1.count, .slice A1 x.s1.trusts.length c1, .int .i64 x.s1.mac, .slice C1 x.s1.cells.length d1] := hsl.below bu5 hbu
  have lb5 : b' < u5.heap.size := by omega
  have hLlt : ∀ y ∈ ([(u3.heap.size, 89, #[.int .i64 scn, .slice A9 sT.length c9, .int .i64 0]), (u1.heap.size, 31, (vX x A' c' B' d' C' e' b' 0 2)), (w.heap.size + 1, 31, zV), (w.heap.size, 31, (vX x A cap B tc C cc b off sc))] : List Box), y.1 < u5.heap.size := fun y hy => hk5.lt hy
  have hLne : ∀ y ∈ ([(u3.heap.size, 89, #[.int .i64 scn, .slice A9 sT.length c9, .int .i64 0]), (u1.heap.size, 31, (vX x A' c' B' d' C' e' b' 0 2)), (w.heap.size + 1, 31, zV), (w.heap.size, 31, (vX x A cap B tc C cc b off sc))] : List Box), y.1 ≠ b' := by intro y hy; simp at hy; rcases hy with rfl | rfl | rfl | rfl <;> simp <;> omega
  clear kc0 kf0 kc1 kf1 kc2 kf2 kc3 kf3
  refine wp_region_free [false, false, false, false, false, false, false, true, false, false, true, false, false, true] (ShL [(7, fun v => ∃ g : Nat, v = .slice (some ⟨g, 0, none⟩) 0 0), (10, fun v => ∃ (A : Option Addr) (c : Nat), v = .slice A x.cells.length c)]) (fun D γ u => SaveC w u5 [(u3.heap.size, 89, #[.int .i64 scn, .slice A9 sT.length c9, .int .i64 0]), (u1.heap.size, 31, (vX x A' c' B' d' C' e' b' 0 2)), (w.heap.size + 1, 31, zV), (w.heap.size, 31, (vX x A cap B tc C cc b off sc))] x.cells b' 91 #[.int .i64 x.s0.count, .slice A0 x.s0.trusts.length c0, .int .i64 x.s0.mac, .slice C0 x.s0.cells.length d0, .int .i64 x.s1.count, .slice A1 x.s1.trusts.length c1, .int .i64 x.s1.mac, .slice C1 x.s1.cells.length d1] (fun v => #[.int .i64 x.s0.count, .slice A0 x.s0.trusts.length c0, .int .i64 x.s0.mac, .slice C0 x.s0.cells.length d0, .int .i64 scn, .slice A9 sT.length c9, .int .i64 0, v]) D γ u) (by kernel_rfl) (by kernel_rfl) (fun γ => by kernel_rfl) (fun D γ γ' w ha h => h.loc ha) (ShL.inh _ ?inh) (fun γ => SaveC.start hk5 hsl5) (fun γ hγ => ?_)
  case inh =>
    intro y hy
    simp only [List.mem_cons, List.not_mem_nil, or_false] at hy
    rcases hy with rfl | rfl
    · exact ⟨_, 0, rfl⟩
    · exact ⟨_, none, 0, rfl⟩
  obtain ⟨g7, e7⟩ : ∃ g : Nat, γ 7 = .slice (some ⟨g, 0, none⟩) 0 0 := hγ 7 rfl
  obtain ⟨C9, d9, e10⟩ : ∃ (A : Option Addr) (c : Nat), γ 10 = .slice A x.cells.length c := hγ 10 rfl
  have e13 : γ 13 = undef := hγ 13 rfl
  have HKS := Lib.hid hk5
  clear hk5
  apply Exists.intro
  refine ⟨fun D => ?_, ?_, ?_⟩
  · simp only [hushL, cond_true, cond_false, Nat.reduceAdd, e7, e10, e13]
    iterate 14 (first
      | go_big_quiet_skip
      | (go_big_quiet_want
         go_big_quiet_op
         first
           | go_big_quiet_on
           | (apply Exists.intro
              refine ⟨fun u hu => ?_, ?_⟩
              · first
                  | with_reducible rfl
                  | (obtain ⟨kc0, kf0, kc1, kf1, kc2, kf2, kc3, kf3, -⟩ := hu.1.rd; go_simp; first | done | with_reducible rfl)
              go_big_quiet_on)))
    exact wpQuiet_nil rfl
  · simp only [freeOk, Nat.reduceAdd]
    refine ⟨fun D u hD hd hu => ?_, fun D u hD hd hu => ?_, fun D u hD hd hu => ?_, trivial⟩
    · refine steps_buildNil 28 118 rfl Tryz.underlying28 (by kernel_rfl) ?_
      exact ⟨⟨_, rfl⟩, hu.build hD lb5⟩
    · have d7 := hd { on := 7, ground := Ground.data } (by simp) rfl rfl
      have hrow := hu.2.2.2.2.1 d7 hD
      rw [e7] at hrow
      refine steps_append _ _ 28 rfl u5.heap.size 118 2 16 0 (.agg zC) (.slice (some ⟨g7, 0, none⟩) 0 0) [] C x.cells.length cc (flatS ceV x.cells) Tryz.underlying28 info_cel rfl (by omega) rfl hrow rfl (flatS_length ceV_len) (NW.out u hu.1.1) (ceV_one x.cells) (by unfold maxLen; omega) (by omega) hu.2.1.size ?_
      intro v' w' hown hg hb2
      have hr9 : ClRow w' u5.heap.size v' x.cells := by have h := hown; simp only [Nat.zero_add, List.nil_append] at h; exact h
      obtain ⟨A6, c6, rfl, _, _⟩ := hr9.reads ceV_len
      exact ⟨⟨_, _, rfl⟩, hu.append d7 hD lb5 hLlt HKS.out.1.size e7 hr9 (by simpa [Value.ownBlock] using hg)⟩
    · have d10 := hd { on := 10, ground := Ground.phase } (by simp) rfl rfl
      exact steps_store4 (off := 4) (hu.2.2.1 hD) (by simp) rfl rfl rfl (by kernel_rfl) (by simp [Value.oneCell']) (fun w' hc hg => ⟨rfl, hu.store d10 lb5 (by omega) hLne hg (by simp only [e10]; simpa using hc)⟩)
  · intro D uf hD hu
    have hf := hu.1
    have hgf := hu.2.1
    have hcs := hu.2.2.2.1 (hD 13 (by simp) rfl)
    have hrc := hu.2.2.2.2.2.1 (hD 10 (by simp) rfl)
    simp only [e10] at hcs hrc
    clear hu hD HKS hγ e7 e10 e13
    have hg15 := gb_trans (below_gb bu5 (some b')) hgf
    have hrs := row_keep hr5 hgf (fun hm => by have := (hra _ hm).1; omega)
    have hlts : ∀ y ∈ blkOf (.slice A9 sT.length c9), y < u5.heap.size := fun y hy => by have := (hra y hy).2; omega
    have hsep := sep_new hlts (fun y hy => (row_at hrc y hy).1)
    have hvf := HU.out.slotPut1 (s := ⟨scn, sT, 0, x.cells⟩) hrs hrc (by omega) (by omega) hsep hsl hg15 (by simpa using hcs)
    clear hcs hrc hrs hsep hlts hg15 hgf hsl hsl5 bu5 hr5
    obtain ⟨kc0, kf0, kc1, kf1, kc2, kf2, kc3, kf3, -⟩ := hf.rd
    have HV := Lib.hid hvf
    have KK := Lib.hid hf
    clear hvf hf HU
    go_wp2_with fail
    obtain ⟨w9, e9, ⟨d0, d1, d2, d3, d4, d5⟩, hb9, hg9⟩ := vol_end (w := w) (x0 := .int .i64 x.key) (x1 := .slice A' x.counts.length c') (x2 := .slice B' x.trusts.length d') (x3 := .slice C' x.cells.length e') (x4 := .slice (some ⟨b', 0, none⟩) 2 2) (x5 := .int .i64 x.count) (KK.out.at_ (p := w.heap.size + 1) (t := 31) (cs := zV) (by simp)) KK.out.1 (by omega)
    rw [e9]
    exact bodyPost_ret (v := .tuple #[.agg (vX x A' c' B' d' C' e' b' 0 2), .int .i64 0]) (by simp [results, Tryz.results88, go_sem, d0, d1, d2, d3, d4, d5]) rfl ⟨_, rfl, (HV.out.out hg9 (by omega)).mono (by omega), hb9⟩
set_option maxRecDepth 20000 in
set_option maxHeartbeats 8000000 in
theorem l13Save_2_0 (x : VolN) (v : Value) (w : World) (hx : x.Short) (hv : VolR w w.heap.size x v) (hI : TrusI x.trusts) (hc0 : 0 ≤ x.count) (hc : ¬ 10000 ≤ x.count) (hpar : (x.count + 1) % 2 = 0) : Calls Tryz.prog 88 #[v, .int .i64 2] w (VolAns1 w ({ x with s0 := slotN x 2 }, 0)) := by
  have CO := Lib.hid (fun (u : World) (hb : Below w.heap.size w u) => l12Copy_r x v u hx (hv.grow hb))
  obtain ⟨A, cap, B, tc, C, cc, b, off, sc, rfl, hA, hB, hC, hbb, h0, h1, hcap⟩ := hv
  have K0 := Lib.hid (show Kept w [(w.heap.size + 1, 31, zV), (w.heap.size, 31, (vX x A cap B tc C cc b off sc))] _ from (((Kept.refl w).put1 _ _ (vX x A cap B tc C cc b off sc) rfl).put1 _ _ zV (by simp)))
  have I := Lib.hid (fun u => l1In_yes 2 0 3 u (by omega) (by omega))
  have hd : decide (10000 ≤ x.count) = false := decide_eq_false hc
  have S0 := fun (u : World) (hb : Below w.heap.size w u) => specSealOf_calls x.key A x.counts cap (x.count + 1) B x.trusts tc u (by have := hx.1; unfold maxLen; omega) ((hA.below hb (Nat.le_refl _)).more hb.size) hx.2.1 ((hB.below hb (Nat.le_refl _)).more hb.size) hI ⟨by omega, by omega⟩
  have NW := Lib.hid (fun (u : World) (hb : Below w.heap.size w u) => Sls.news ceV_len (by omega) (hC.below hb (Nat.le_refl _)))
  have hx3 := hx.2.2.1
  unfold slotN
  generalize sealN x.key x.counts (x.count + 1) x.trusts = sl at S0 ⊢
  obtain ⟨scn, sT, smc⟩ := sl
  simp only [] at S0 ⊢
  have SO := Lib.hid S0
  obtain ⟨n1, hn1⟩ : ∃ n1, n1 = x.count + 1 := ⟨_, rfl⟩
  have hw1 : IntKind.i64.wrap (x.count + 1) = n1 := by rw [hn1]; exact IntWalk.i64_in _ (by omega)
  have hn1p : 0 ≤ n1 ∧ n1 ≤ 10000 := by omega
  have hm1 : n1 % 2 = 0 := by rw [hn1]; exact hpar
  have ht1 : Int.tmod n1 2 = 0 := by rw [Int.tmod_eq_emod_of_nonneg hn1p.1]; exact hm1
  rw [← hn1] at SO
  have HN1 := Lib.hid hn1
  have HPAR := Lib.hid hpar
  clear hA hB hC h0 h1 S0 hpar hn1 hI
  go_enter Tryz.func88, Tryz.ntmps88
  go_wp2_with fail
  refine (CO.out _ K0.out.1).mono ?_; rintro e u1 ⟨vv, rfl, hv, hb1⟩
  have hk1 := K0.out.below hb1
  obtain ⟨A', c', B', d', C', e', b', o', s', rfl, -⟩ := hv.reads
  have hv1 := hv.mono (show w.heap.size + 1 + 1 ≤ _ by simp)
  have hbl := hv.slotsGet.2.2.2.1
  have lo0 : w.heap.size + 1 < u1.heap.size := hk1.lt (x := (w.heap.size + 1, 31, zV)) (by simp)
  have lo1 : w.heap.size < u1.heap.size := hk1.lt (x := (w.heap.size, 31, (vX x A cap B tc C cc b off sc))) (by simp)
  have hk2 := hk1.put1 u1.heap.size 31 (vX x A' c' B' d' C' e' b' o' s') rfl
  have hv2 := hv1.below ((Below.refl _ _).alloc (Nat.le_refl _) (.cells (vX x A' c' B' d' C' e' b' o' s') 31))
  have BU0 := Lib.hid ((Below.refl u1.heap.size u1).alloc (Nat.le_refl _) (.cells (vX x A' c' B' d' C' e' b' o' s') 31))
  have HU := Lib.hid hv1
  clear hb1 hk1 hv hv1 CO
  go_upto_region 2 with fail
  have bu := BU0.out
  clear BU0 hv2
  generalize World.alloc u1 _ = u2 at hk2 bu ⊢
  have BU := Lib.hid bu
  clear bu
  obtain ⟨kc0, kf0, kc1, kf1, kc2, kf2, -⟩ := hk2.rd
  have KK := Lib.hid hk2
  go_wp2_with fail
  refine (I.out _).mono ?_; rintro e w' ⟨rfl, rfl⟩
  go_wp2_with fail
  refine (SO.out _ KK.out.1).mono ?_; rintro e u3 ⟨A9, c9, rfl, hr3, b3⟩
  have hk3 := KK.out.below b3
  have bu3 := BU.out.trans (b3.mono BU.out.size)
  have lu2 : u1.heap.size < u2.heap.size := KK.out.lt (x := (u1.heap.size, 31, (vX x A' c' B' d' C' e' b' o' s'))) (by simp)
  clear b3 KK BU SO hk2 kc0 kf0 kc1 kf1 kc2 kf2
  have lp0 : u1.heap.size < u3.heap.size := hk3.lt (x := (u1.heap.size, 31, (vX x A' c' B' d' C' e' b' o' s'))) (by simp)
  have lp1 : w.heap.size + 1 < u3.heap.size := hk3.lt (x := (w.heap.size + 1, 31, zV)) (by simp)
  have lp2 : w.heap.size < u3.heap.size := hk3.lt (x := (w.heap.size, 31, (vX x A cap B tc C cc b off sc))) (by simp)
  have hk4 := hk3.put1 u3.heap.size 89 #[.int .i64 scn, .slice A9 sT.length c9, .int .i64 smc] rfl
  have bu4 := bu3.alloc (by omega) (.cells #[.int .i64 scn, .slice A9 sT.length c9, .int .i64 smc] 89)
  have hr4 := hr3.alloc (.cells #[.int .i64 scn, .slice A9 sT.length c9, .int .i64 smc] 89)
  have hq4 := (Below.refl u3.heap.size u3).alloc (Nat.le_refl _) (.cells #[.int .i64 scn, .slice A9 sT.length c9, .int .i64 smc] 89)
  have hra := fun y hy => (row_at hr3 y hy)
  clear hk3 bu3 hr3
  go_upto_region 8 with fail
  generalize World.alloc u3 _ = u4 at hk4 bu4 hr4 hq4 ⊢
  obtain ⟨kc0, kf0, kc1, kf1, kc2, kf2, kc3, kf3, -⟩ := hk4.rd
  go_upto_region 10 with fail
  obtain ⟨eo, es, hbb2, hbu, A0, c0, C0, d0, A1, c1, C1, d1, hsl, -⟩ := HU.out.slotsGet
  subst eo
  subst es
  have hsz : u3.heap.size < u4.heap.size := hk4.lt (x := (u3.heap.size, 89, #[.int .i64 scn, .slice A9 sT.length c9, .int .i64 smc])) (by simp)
  have hsl5 : CellsAt u4 b' 91 #[.int .i64 x.s0.count, .slice A0 x.s0.trusts.length c0, .int .i64 x.s0.mac, .slice C0 x.s0.cells.length d0, .int .i64 x.s1.count, .slice A1 x.s1.trusts.length c1, .int .i64 x.s1.mac, .slice C1 x.s1.cells.length d1] := hsl.below bu4 hbu
  have lb5 : b' < u4.heap.size := by omega
  have hLlt : ∀ y ∈ ([(u3.heap.size, 89, #[.int .i64 scn, .slice A9 sT.length c9, .int .i64 smc]), (u1.heap.size, 31, (vX x A' c' B' d' C' e' b' 0 2)), (w.heap.size + 1, 31, zV), (w.heap.size, 31, (vX x A cap B tc C cc b off sc))] : List Box), y.1 < u4.heap.size := fun y hy => hk4.lt hy
  have hLne : ∀ y ∈ ([(u3.heap.size, 89, #[.int .i64 scn, .slice A9 sT.length c9, .int .i64 smc]), (u1.heap.size, 31, (vX x A' c' B' d' C' e' b' 0 2)), (w.heap.size + 1, 31, zV), (w.heap.size, 31, (vX x A cap B tc C cc b off sc))] : List Box), y.1 ≠ b' := by intro y hy; simp at hy; rcases hy with rfl | rfl | rfl | rfl <;> simp <;> omega
  clear kc0 kf0 kc1 kf1 kc2 kf2 kc3 kf3
  refine wp_region_free [false, false, false, false, false, false, false, true, false, false, true, false, false, true] (ShL [(7, fun v => ∃ g : Nat, v = .slice (some ⟨g, 0, none⟩) 0 0), (10, fun v => ∃ (A : Option Addr) (c : Nat), v = .slice A x.cells.length c)]) (fun D γ u => SaveC w u4 [(u3.heap.size, 89, #[.int .i64 scn, .slice A9 sT.length c9, .int .i64 smc]), (u1.heap.size, 31, (vX x A' c' B' d' C' e' b' 0 2)), (w.heap.size + 1, 31, zV), (w.heap.size, 31, (vX x A cap B tc C cc b off sc))] x.cells b' 91 #[.int .i64 x.s0.count, .slice A0 x.s0.trusts.length c0, .int .i64 x.s0.mac, .slice C0 x.s0.cells.length d0, .int .i64 x.s1.count, .slice A1 x.s1.trusts.length c1, .int .i64 x.s1.mac, .slice C1 x.s1.cells.length d1] (fun v => #[.int .i64 scn, .slice A9 sT.length c9, .int .i64 smc, v, .int .i64 x.s1.count, .slice A1 x.s1.trusts.length c1, .int .i64 x.s1.mac, .slice C1 x.s1.cells.length d1]) D γ u) (by kernel_rfl) (by kernel_rfl) (fun γ => by kernel_rfl) (fun D γ γ' w ha h => h.loc ha) (ShL.inh _ ?inh) (fun γ => SaveC.start hk4 hsl5) (fun γ hγ => ?_)
  case inh =>
    intro y hy
    simp only [List.mem_cons, List.not_mem_nil, or_false] at hy
    rcases hy with rfl | rfl
    · exact ⟨_, 0, rfl⟩
    · exact ⟨_, none, 0, rfl⟩
  obtain ⟨g7, e7⟩ : ∃ g : Nat, γ 7 = .slice (some ⟨g, 0, none⟩) 0 0 := hγ 7 rfl
  obtain ⟨C9, d9, e10⟩ : ∃ (A : Option Addr) (c : Nat), γ 10 = .slice A x.cells.length c := hγ 10 rfl
  have e13 : γ 13 = undef := hγ 13 rfl
  have HKS := Lib.hid hk4
  clear hk4
  apply Exists.intro
  refine ⟨fun D => ?_, ?_, ?_⟩
  · simp only [hushL, cond_true, cond_false, Nat.reduceAdd, e7, e10, e13]
    iterate 14 (first
      | go_big_quiet_skip
      | (go_big_quiet_want
         go_big_quiet_op
         first
           | go_big_quiet_on
           | (apply Exists.intro
              refine ⟨fun u hu => ?_, ?_⟩
              · first
                  | with_reducible rfl
                  | (obtain ⟨kc0, kf0, kc1, kf1, kc2, kf2, kc3, kf3, -⟩ := hu.1.rd; go_simp; first | done | with_reducible rfl)
              go_big_quiet_on)))
    exact wpQuiet_nil rfl
  · simp only [freeOk, Nat.reduceAdd]
    refine ⟨fun D u hD hd hu => ?_, fun D u hD hd hu => ?_, fun D u hD hd hu => ?_, trivial⟩
    · refine steps_buildNil 28 118 rfl Tryz.underlying28 (by kernel_rfl) ?_
      exact ⟨⟨_, rfl⟩, hu.build hD lb5⟩
    · have d7 := hd { on := 7, ground := Ground.data } (by simp) rfl rfl
      have hrow := hu.2.2.2.2.1 d7 hD
      rw [e7] at hrow
      refine steps_append _ _ 28 rfl u4.heap.size 118 2 16 0 (.agg zC) (.slice (some ⟨g7, 0, none⟩) 0 0) [] C x.cells.length cc (flatS ceV x.cells) Tryz.underlying28 info_cel rfl (by omega) rfl hrow rfl (flatS_length ceV_len) (NW.out u hu.1.1) (ceV_one x.cells) (by unfold maxLen; omega) (by omega) hu.2.1.size ?_
      intro v' w' hown hg hb2
      have hr9 : ClRow w' u4.heap.size v' x.cells := by have h := hown; simp only [Nat.zero_add, List.nil_append] at h; exact h
      obtain ⟨A6, c6, rfl, _, _⟩ := hr9.reads ceV_len
      exact ⟨⟨_, _, rfl⟩, hu.append d7 hD lb5 hLlt HKS.out.1.size e7 hr9 (by simpa [Value.ownBlock] using hg)⟩
    · have d10 := hd { on := 10, ground := Ground.phase } (by simp) rfl rfl
      exact steps_store4 (off := 0) (hu.2.2.1 hD) (by simp) rfl rfl rfl (by kernel_rfl) (by simp [Value.oneCell']) (fun w' hc hg => ⟨rfl, hu.store d10 lb5 (by omega) hLne hg (by simp only [e10]; simpa using hc)⟩)
  · intro D uf hD hu
    have hf := hu.1
    have hgf := hu.2.1
    have hcs := hu.2.2.2.1 (hD 13 (by simp) rfl)
    have hrc := hu.2.2.2.2.2.1 (hD 10 (by simp) rfl)
    simp only [e10] at hcs hrc
    clear hu hD HKS hγ e7 e10 e13
    have hg15 := gb_trans (below_gb bu4 (some b')) hgf
    have hrs := row_keep hr4 hgf (fun hm => by have := (hra _ hm).1; omega)
    have hlts : ∀ y ∈ blkOf (.slice A9 sT.length c9), y < u4.heap.size := fun y hy => by have := (hra y hy).2; omega
    have hsep := sep_new hlts (fun y hy => (row_at hrc y hy).1)
    have hvf := HU.out.slotPut0 (s := ⟨scn, sT, smc, x.cells⟩) hrs hrc (by omega) (by omega) hsep hsl hg15 (by simpa using hcs)
    clear hcs hrc hrs hsep hlts hg15 hgf hsl hsl5 bu4 hr4
    obtain ⟨kc0, kf0, kc1, kf1, kc2, kf2, kc3, kf3, -⟩ := hf.rd
    have HV := Lib.hid hvf
    have KK := Lib.hid hf
    clear hvf hf HU
    go_wp2_with fail
    obtain ⟨w9, e9, ⟨d0, d1, d2, d3, d4, d5⟩, hb9, hg9⟩ := vol_end (w := w) (x0 := .int .i64 x.key) (x1 := .slice A' x.counts.length c') (x2 := .slice B' x.trusts.length d') (x3 := .slice C' x.cells.length e') (x4 := .slice (some ⟨b', 0, none⟩) 2 2) (x5 := .int .i64 x.count) (KK.out.at_ (p := w.heap.size + 1) (t := 31) (cs := zV) (by simp)) KK.out.1 (by omega)
    rw [e9]
    exact bodyPost_ret (v := .tuple #[.agg (vX x A' c' B' d' C' e' b' 0 2), .int .i64 0]) (by simp [results, Tryz.results88, go_sem, d0, d1, d2, d3, d4, d5]) rfl ⟨_, rfl, (HV.out.out hg9 (by omega)).mono (by omega), hb9⟩
set_option maxRecDepth 20000 in
set_option maxHeartbeats 8000000 in
theorem l13Save_2_1 (x : VolN) (v : Value) (w : World) (hx : x.Short) (hv : VolR w w.heap.size x v) (hI : TrusI x.trusts) (hc0 : 0 ≤ x.count) (hc : ¬ 10000 ≤ x.count) (hpar : (x.count + 1) % 2 = 1) : Calls Tryz.prog 88 #[v, .int .i64 2] w (VolAns1 w ({ x with s1 := slotN x 2 }, 0)) := by
  have CO := Lib.hid (fun (u : World) (hb : Below w.heap.size w u) => l12Copy_r x v u hx (hv.grow hb))
  obtain ⟨A, cap, B, tc, C, cc, b, off, sc, rfl, hA, hB, hC, hbb, h0, h1, hcap⟩ := hv
  have K0 := Lib.hid (show Kept w [(w.heap.size + 1, 31, zV), (w.heap.size, 31, (vX x A cap B tc C cc b off sc))] _ from (((Kept.refl w).put1 _ _ (vX x A cap B tc C cc b off sc) rfl).put1 _ _ zV (by simp)))
  have I := Lib.hid (fun u => l1In_yes 2 0 3 u (by omega) (by omega))
  have hd : decide (10000 ≤ x.count) = false := decide_eq_false hc
  have S0 := fun (u : World) (hb : Below w.heap.size w u) => specSealOf_calls x.key A x.counts cap (x.count + 1) B x.trusts tc u (by have := hx.1; unfold maxLen; omega) ((hA.below hb (Nat.le_refl _)).more hb.size) hx.2.1 ((hB.below hb (Nat.le_refl _)).more hb.size) hI ⟨by omega, by omega⟩
  have NW := Lib.hid (fun (u : World) (hb : Below w.heap.size w u) => Sls.news ceV_len (by omega) (hC.below hb (Nat.le_refl _)))
  have hx3 := hx.2.2.1
  unfold slotN
  generalize sealN x.key x.counts (x.count + 1) x.trusts = sl at S0 ⊢
  obtain ⟨scn, sT, smc⟩ := sl
  simp only [] at S0 ⊢
  have SO := Lib.hid S0
  obtain ⟨n1, hn1⟩ : ∃ n1, n1 = x.count + 1 := ⟨_, rfl⟩
  have hw1 : IntKind.i64.wrap (x.count + 1) = n1 := by rw [hn1]; exact IntWalk.i64_in _ (by omega)
  have hn1p : 0 ≤ n1 ∧ n1 ≤ 10000 := by omega
  have hm1 : n1 % 2 = 1 := by rw [hn1]; exact hpar
  have ht1 : Int.tmod n1 2 = 1 := by rw [Int.tmod_eq_emod_of_nonneg hn1p.1]; exact hm1
  rw [← hn1] at SO
  have HN1 := Lib.hid hn1
  have HPAR := Lib.hid hpar
  clear hA hB hC h0 h1 S0 hpar hn1 hI
  go_enter Tryz.func88, Tryz.ntmps88
  go_wp2_with fail
  refine (CO.out _ K0.out.1).mono ?_; rintro e u1 ⟨vv, rfl, hv, hb1⟩
  have hk1 := K0.out.below hb1
  obtain ⟨A', c', B', d', C', e', b', o', s', rfl, -⟩ := hv.reads
  have hv1 := hv.mono (show w.heap.size + 1 + 1 ≤ _ by simp)
  have hbl := hv.slotsGet.2.2.2.1
  have lo0 : w.heap.size + 1 < u1.heap.size := hk1.lt (x := (w.heap.size + 1, 31, zV)) (by simp)
  have lo1 : w.heap.size < u1.heap.size := hk1.lt (x := (w.heap.size, 31, (vX x A cap B tc C cc b off sc))) (by simp)
  have hk2 := hk1.put1 u1.heap.size 31 (vX x A' c' B' d' C' e' b' o' s') rfl
  have hv2 := hv1.below ((Below.refl _ _).alloc (Nat.le_refl _) (.cells (vX x A' c' B' d' C' e' b' o' s') 31))
  have BU0 := Lib.hid ((Below.refl u1.heap.size u1).alloc (Nat.le_refl _) (.cells (vX x A' c' B' d' C' e' b' o' s') 31))
  have HU := Lib.hid hv1
  clear hb1 hk1 hv hv1 CO
  go_upto_region 2 with fail
  have bu := BU0.out
  clear BU0 hv2
  generalize World.alloc u1 _ = u2 at hk2 bu ⊢
  have BU := Lib.hid bu
  clear bu
  obtain ⟨kc0, kf0, kc1, kf1, kc2, kf2, -⟩ := hk2.rd
  have KK := Lib.hid hk2
  go_wp2_with fail
  refine (I.out _).mono ?_; rintro e w' ⟨rfl, rfl⟩
  go_wp2_with fail
  refine (SO.out _ KK.out.1).mono ?_; rintro e u3 ⟨A9, c9, rfl, hr3, b3⟩
  have hk3 := KK.out.below b3
  have bu3 := BU.out.trans (b3.mono BU.out.size)
  have lu2 : u1.heap.size < u2.heap.size := KK.out.lt (x := (u1.heap.size, 31, (vX x A' c' B' d' C' e' b' o' s'))) (by simp)
  clear b3 KK BU SO hk2 kc0 kf0 kc1 kf1 kc2 kf2
  have lp0 : u1.heap.size < u3.heap.size := hk3.lt (x := (u1.heap.size, 31, (vX x A' c' B' d' C' e' b' o' s'))) (by simp)
  have lp1 : w.heap.size + 1 < u3.heap.size := hk3.lt (x := (w.heap.size + 1, 31, zV)) (by simp)
  have lp2 : w.heap.size < u3.heap.size := hk3.lt (x := (w.heap.size, 31, (vX x A cap B tc C cc b off sc))) (by simp)
  have hk4 := hk3.put1 u3.heap.size 89 #[.int .i64 scn, .slice A9 sT.length c9, .int .i64 smc] rfl
  have bu4 := bu3.alloc (by omega) (.cells #[.int .i64 scn, .slice A9 sT.length c9, .int .i64 smc] 89)
  have hr4 := hr3.alloc (.cells #[.int .i64 scn, .slice A9 sT.length c9, .int .i64 smc] 89)
  have hq4 := (Below.refl u3.heap.size u3).alloc (Nat.le_refl _) (.cells #[.int .i64 scn, .slice A9 sT.length c9, .int .i64 smc] 89)
  have hra := fun y hy => (row_at hr3 y hy)
  clear hk3 bu3 hr3
  go_upto_region 8 with fail
  generalize World.alloc u3 _ = u4 at hk4 bu4 hr4 hq4 ⊢
  obtain ⟨kc0, kf0, kc1, kf1, kc2, kf2, kc3, kf3, -⟩ := hk4.rd
  go_upto_region 10 with fail
  obtain ⟨eo, es, hbb2, hbu, A0, c0, C0, d0, A1, c1, C1, d1, hsl, -⟩ := HU.out.slotsGet
  subst eo
  subst es
  have hsz : u3.heap.size < u4.heap.size := hk4.lt (x := (u3.heap.size, 89, #[.int .i64 scn, .slice A9 sT.length c9, .int .i64 smc])) (by simp)
  have hsl5 : CellsAt u4 b' 91 #[.int .i64 x.s0.count, .slice A0 x.s0.trusts.length c0, .int .i64 x.s0.mac, .slice C0 x.s0.cells.length d0, .int .i64 x.s1.count, .slice A1 x.s1.trusts.length c1, .int .i64 x.s1.mac, .slice C1 x.s1.cells.length d1] := hsl.below bu4 hbu
  have lb5 : b' < u4.heap.size := by omega
  have hLlt : ∀ y ∈ ([(u3.heap.size, 89, #[.int .i64 scn, .slice A9 sT.length c9, .int .i64 smc]), (u1.heap.size, 31, (vX x A' c' B' d' C' e' b' 0 2)), (w.heap.size + 1, 31, zV), (w.heap.size, 31, (vX x A cap B tc C cc b off sc))] : List Box), y.1 < u4.heap.size := fun y hy => hk4.lt hy
  have hLne : ∀ y ∈ ([(u3.heap.size, 89, #[.int .i64 scn, .slice A9 sT.length c9, .int .i64 smc]), (u1.heap.size, 31, (vX x A' c' B' d' C' e' b' 0 2)), (w.heap.size + 1, 31, zV), (w.heap.size, 31, (vX x A cap B tc C cc b off sc))] : List Box), y.1 ≠ b' := by intro y hy; simp at hy; rcases hy with rfl | rfl | rfl | rfl <;> simp <;> omega
  clear kc0 kf0 kc1 kf1 kc2 kf2 kc3 kf3
  refine wp_region_free [false, false, false, false, false, false, false, true, false, false, true, false, false, true] (ShL [(7, fun v => ∃ g : Nat, v = .slice (some ⟨g, 0, none⟩) 0 0), (10, fun v => ∃ (A : Option Addr) (c : Nat), v = .slice A x.cells.length c)]) (fun D γ u => SaveC w u4 [(u3.heap.size, 89, #[.int .i64 scn, .slice A9 sT.length c9, .int .i64 smc]), (u1.heap.size, 31, (vX x A' c' B' d' C' e' b' 0 2)), (w.heap.size + 1, 31, zV), (w.heap.size, 31, (vX x A cap B tc C cc b off sc))] x.cells b' 91 #[.int .i64 x.s0.count, .slice A0 x.s0.trusts.length c0, .int .i64 x.s0.mac, .slice C0 x.s0.cells.length d0, .int .i64 x.s1.count, .slice A1 x.s1.trusts.length c1, .int .i64 x.s1.mac, .slice C1 x.s1.cells.length d1] (fun v => #[.int .i64 x.s0.count, .slice A0 x.s0.trusts.length c0, .int .i64 x.s0.mac, .slice C0 x.s0.cells.length d0, .int .i64 scn, .slice A9 sT.length c9, .int .i64 smc, v]) D γ u) (by kernel_rfl) (by kernel_rfl) (fun γ => by kernel_rfl) (fun D γ γ' w ha h => h.loc ha) (ShL.inh _ ?inh) (fun γ => SaveC.start hk4 hsl5) (fun γ hγ => ?_)
  case inh =>
    intro y hy
    simp only [List.mem_cons, List.not_mem_nil, or_false] at hy
    rcases hy with rfl | rfl
    · exact ⟨_, 0, rfl⟩
    · exact ⟨_, none, 0, rfl⟩
  obtain ⟨g7, e7⟩ : ∃ g : Nat, γ 7 = .slice (some ⟨g, 0, none⟩) 0 0 := hγ 7 rfl
  obtain ⟨C9, d9, e10⟩ : ∃ (A : Option Addr) (c : Nat), γ 10 = .slice A x.cells.length c := hγ 10 rfl
  have e13 : γ 13 = undef := hγ 13 rfl
  have HKS := Lib.hid hk4
  clear hk4
  apply Exists.intro
  refine ⟨fun D => ?_, ?_, ?_⟩
  · simp only [hushL, cond_true, cond_false, Nat.reduceAdd, e7, e10, e13]
    iterate 14 (first
      | go_big_quiet_skip
      | (go_big_quiet_want
         go_big_quiet_op
         first
           | go_big_quiet_on
           | (apply Exists.intro
              refine ⟨fun u hu => ?_, ?_⟩
              · first
                  | with_reducible rfl
                  | (obtain ⟨kc0, kf0, kc1, kf1, kc2, kf2, kc3, kf3, -⟩ := hu.1.rd; go_simp; first | done | with_reducible rfl)
              go_big_quiet_on)))
    exact wpQuiet_nil rfl
  · simp only [freeOk, Nat.reduceAdd]
    refine ⟨fun D u hD hd hu => ?_, fun D u hD hd hu => ?_, fun D u hD hd hu => ?_, trivial⟩
    · refine steps_buildNil 28 118 rfl Tryz.underlying28 (by kernel_rfl) ?_
      exact ⟨⟨_, rfl⟩, hu.build hD lb5⟩
    · have d7 := hd { on := 7, ground := Ground.data } (by simp) rfl rfl
      have hrow := hu.2.2.2.2.1 d7 hD
      rw [e7] at hrow
      refine steps_append _ _ 28 rfl u4.heap.size 118 2 16 0 (.agg zC) (.slice (some ⟨g7, 0, none⟩) 0 0) [] C x.cells.length cc (flatS ceV x.cells) Tryz.underlying28 info_cel rfl (by omega) rfl hrow rfl (flatS_length ceV_len) (NW.out u hu.1.1) (ceV_one x.cells) (by unfold maxLen; omega) (by omega) hu.2.1.size ?_
      intro v' w' hown hg hb2
      have hr9 : ClRow w' u4.heap.size v' x.cells := by have h := hown; simp only [Nat.zero_add, List.nil_append] at h; exact h
      obtain ⟨A6, c6, rfl, _, _⟩ := hr9.reads ceV_len
      exact ⟨⟨_, _, rfl⟩, hu.append d7 hD lb5 hLlt HKS.out.1.size e7 hr9 (by simpa [Value.ownBlock] using hg)⟩
    · have d10 := hd { on := 10, ground := Ground.phase } (by simp) rfl rfl
      exact steps_store4 (off := 4) (hu.2.2.1 hD) (by simp) rfl rfl rfl (by kernel_rfl) (by simp [Value.oneCell']) (fun w' hc hg => ⟨rfl, hu.store d10 lb5 (by omega) hLne hg (by simp only [e10]; simpa using hc)⟩)
  · intro D uf hD hu
    have hf := hu.1
    have hgf := hu.2.1
    have hcs := hu.2.2.2.1 (hD 13 (by simp) rfl)
    have hrc := hu.2.2.2.2.2.1 (hD 10 (by simp) rfl)
    simp only [e10] at hcs hrc
    clear hu hD HKS hγ e7 e10 e13
    have hg15 := gb_trans (below_gb bu4 (some b')) hgf
    have hrs := row_keep hr4 hgf (fun hm => by have := (hra _ hm).1; omega)
    have hlts : ∀ y ∈ blkOf (.slice A9 sT.length c9), y < u4.heap.size := fun y hy => by have := (hra y hy).2; omega
    have hsep := sep_new hlts (fun y hy => (row_at hrc y hy).1)
    have hvf := HU.out.slotPut1 (s := ⟨scn, sT, smc, x.cells⟩) hrs hrc (by omega) (by omega) hsep hsl hg15 (by simpa using hcs)
    clear hcs hrc hrs hsep hlts hg15 hgf hsl hsl5 bu4 hr4
    obtain ⟨kc0, kf0, kc1, kf1, kc2, kf2, kc3, kf3, -⟩ := hf.rd
    have HV := Lib.hid hvf
    have KK := Lib.hid hf
    clear hvf hf HU
    go_wp2_with fail
    obtain ⟨w9, e9, ⟨d0, d1, d2, d3, d4, d5⟩, hb9, hg9⟩ := vol_end (w := w) (x0 := .int .i64 x.key) (x1 := .slice A' x.counts.length c') (x2 := .slice B' x.trusts.length d') (x3 := .slice C' x.cells.length e') (x4 := .slice (some ⟨b', 0, none⟩) 2 2) (x5 := .int .i64 x.count) (KK.out.at_ (p := w.heap.size + 1) (t := 31) (cs := zV) (by simp)) KK.out.1 (by omega)
    rw [e9]
    exact bodyPost_ret (v := .tuple #[.agg (vX x A' c' B' d' C' e' b' 0 2), .int .i64 0]) (by simp [results, Tryz.results88, go_sem, d0, d1, d2, d3, d4, d5]) rfl ⟨_, rfl, (HV.out.out hg9 (by omega)).mono (by omega), hb9⟩
set_option maxRecDepth 20000 in
set_option maxHeartbeats 8000000 in
theorem l13Save_3_0 (x : VolN) (v : Value) (w : World) (hx : x.Short) (hv : VolR w w.heap.size x v) (hI : TrusI x.trusts) (hc0 : 0 ≤ x.count) (hc : ¬ 10000 ≤ x.count) (hpar : (x.count + 1) % 2 = 0) : Calls Tryz.prog 88 #[v, .int .i64 3] w (VolAns1 w ({ x with s0 := slotN x 3, count := x.count + 1 }, 0)) := by
  have CO := Lib.hid (fun (u : World) (hb : Below w.heap.size w u) => l12Copy_r x v u hx (hv.grow hb))
  obtain ⟨A, cap, B, tc, C, cc, b, off, sc, rfl, hA, hB, hC, hbb, h0, h1, hcap⟩ := hv
  have K0 := Lib.hid (show Kept w [(w.heap.size + 1, 31, zV), (w.heap.size, 31, (vX x A cap B tc C cc b off sc))] _ from (((Kept.refl w).put1 _ _ (vX x A cap B tc C cc b off sc) rfl).put1 _ _ zV (by simp)))
  have I := Lib.hid (fun u => l1In_yes 3 0 3 u (by omega) (by omega))
  have hd : decide (10000 ≤ x.count) = false := decide_eq_false hc
  have S0 := fun (u : World) (hb : Below w.heap.size w u) => specSealOf_calls x.key A x.counts cap (x.count + 1) B x.trusts tc u (by have := hx.1; unfold maxLen; omega) ((hA.below hb (Nat.le_refl _)).more hb.size) hx.2.1 ((hB.below hb (Nat.le_refl _)).more hb.size) hI ⟨by omega, by omega⟩
  have NW := Lib.hid (fun (u : World) (hb : Below w.heap.size w u) => Sls.news ceV_len (by omega) (hC.below hb (Nat.le_refl _)))
  have hx3 := hx.2.2.1
  unfold slotN
  generalize sealN x.key x.counts (x.count + 1) x.trusts = sl at S0 ⊢
  obtain ⟨scn, sT, smc⟩ := sl
  simp only [] at S0 ⊢
  have SO := Lib.hid S0
  obtain ⟨n1, hn1⟩ : ∃ n1, n1 = x.count + 1 := ⟨_, rfl⟩
  have hw1 : IntKind.i64.wrap (x.count + 1) = n1 := by rw [hn1]; exact IntWalk.i64_in _ (by omega)
  have hn1p : 0 ≤ n1 ∧ n1 ≤ 10000 := by omega
  have hm1 : n1 % 2 = 0 := by rw [hn1]; exact hpar
  have ht1 : Int.tmod n1 2 = 0 := by rw [Int.tmod_eq_emod_of_nonneg hn1p.1]; exact hm1
  rw [← hn1] at SO ⊢
  have HN1 := Lib.hid hn1
  have HPAR := Lib.hid hpar
  clear hA hB hC h0 h1 S0 hpar hn1 hI
  go_enter Tryz.func88, Tryz.ntmps88
  go_wp2_with fail
  refine (CO.out _ K0.out.1).mono ?_; rintro e u1 ⟨vv, rfl, hv, hb1⟩
  have hk1 := K0.out.below hb1
  obtain ⟨A', c', B', d', C', e', b', o', s', rfl, -⟩ := hv.reads
  have hv1 := hv.mono (show w.heap.size + 1 + 1 ≤ _ by simp)
  have hbl := hv.slotsGet.2.2.2.1
  have lo0 : w.heap.size + 1 < u1.heap.size := hk1.lt (x := (w.heap.size + 1, 31, zV)) (by simp)
  have lo1 : w.heap.size < u1.heap.size := hk1.lt (x := (w.heap.size, 31, (vX x A cap B tc C cc b off sc))) (by simp)
  have hk2 := hk1.put1 u1.heap.size 31 (vX x A' c' B' d' C' e' b' o' s') rfl
  have hv2 := hv1.below ((Below.refl _ _).alloc (Nat.le_refl _) (.cells (vX x A' c' B' d' C' e' b' o' s') 31))
  have BU0 := Lib.hid ((Below.refl u1.heap.size u1).alloc (Nat.le_refl _) (.cells (vX x A' c' B' d' C' e' b' o' s') 31))
  have HU := Lib.hid hv1
  clear hb1 hk1 hv hv1 CO
  go_upto_region 2 with fail
  have bu := BU0.out
  clear BU0 hv2
  generalize World.alloc u1 _ = u2 at hk2 bu ⊢
  have BU := Lib.hid bu
  clear bu
  obtain ⟨kc0, kf0, kc1, kf1, kc2, kf2, -⟩ := hk2.rd
  have KK := Lib.hid hk2
  go_wp2_with fail
  refine (I.out _).mono ?_; rintro e w' ⟨rfl, rfl⟩
  go_wp2_with fail
  refine (SO.out _ KK.out.1).mono ?_; rintro e u3 ⟨A9, c9, rfl, hr3, b3⟩
  have hk3 := KK.out.below b3
  have bu3 := BU.out.trans (b3.mono BU.out.size)
  have lu2 : u1.heap.size < u2.heap.size := KK.out.lt (x := (u1.heap.size, 31, (vX x A' c' B' d' C' e' b' o' s'))) (by simp)
  clear b3 KK BU SO hk2 kc0 kf0 kc1 kf1 kc2 kf2
  have lp0 : u1.heap.size < u3.heap.size := hk3.lt (x := (u1.heap.size, 31, (vX x A' c' B' d' C' e' b' o' s'))) (by simp)
  have lp1 : w.heap.size + 1 < u3.heap.size := hk3.lt (x := (w.heap.size + 1, 31, zV)) (by simp)
  have lp2 : w.heap.size < u3.heap.size := hk3.lt (x := (w.heap.size, 31, (vX x A cap B tc C cc b off sc))) (by simp)
  have hk4 := hk3.put1 u3.heap.size 89 #[.int .i64 scn, .slice A9 sT.length c9, .int .i64 smc] rfl
  have bu4 := bu3.alloc (by omega) (.cells #[.int .i64 scn, .slice A9 sT.length c9, .int .i64 smc] 89)
  have hr4 := hr3.alloc (.cells #[.int .i64 scn, .slice A9 sT.length c9, .int .i64 smc] 89)
  have hq4 := (Below.refl u3.heap.size u3).alloc (Nat.le_refl _) (.cells #[.int .i64 scn, .slice A9 sT.length c9, .int .i64 smc] 89)
  have hra := fun y hy => (row_at hr3 y hy)
  clear hk3 bu3 hr3
  go_upto_region 8 with fail
  generalize World.alloc u3 _ = u4 at hk4 bu4 hr4 hq4 ⊢
  obtain ⟨kc0, kf0, kc1, kf1, kc2, kf2, kc3, kf3, -⟩ := hk4.rd
  go_upto_region 10 with fail
  obtain ⟨eo, es, hbb2, hbu, A0, c0, C0, d0, A1, c1, C1, d1, hsl, -⟩ := HU.out.slotsGet
  subst eo
  subst es
  have hsz : u3.heap.size < u4.heap.size := hk4.lt (x := (u3.heap.size, 89, #[.int .i64 scn, .slice A9 sT.length c9, .int .i64 smc])) (by simp)
  have hsl5 : CellsAt u4 b' 91 #[.int .i64 x.s0.count, .slice A0 x.s0.trusts.length c0, .int .i64 x.s0.mac, .slice C0 x.s0.cells.length d0, .int .i64 x.s1.count, .slice A1 x.s1.trusts.length c1, .int .i64 x.s1.mac, .slice C1 x.s1.cells.length d1] := hsl.below bu4 hbu
  have lb5 : b' < u4.heap.size := by omega
  have hLlt : ∀ y ∈ ([(u3.heap.size, 89, #[.int .i64 scn, .slice A9 sT.length c9, .int .i64 smc]), (u1.heap.size, 31, (vX x A' c' B' d' C' e' b' 0 2)), (w.heap.size + 1, 31, zV), (w.heap.size, 31, (vX x A cap B tc C cc b off sc))] : List Box), y.1 < u4.heap.size := fun y hy => hk4.lt hy
  have hLne : ∀ y ∈ ([(u3.heap.size, 89, #[.int .i64 scn, .slice A9 sT.length c9, .int .i64 smc]), (u1.heap.size, 31, (vX x A' c' B' d' C' e' b' 0 2)), (w.heap.size + 1, 31, zV), (w.heap.size, 31, (vX x A cap B tc C cc b off sc))] : List Box), y.1 ≠ b' := by intro y hy; simp at hy; rcases hy with rfl | rfl | rfl | rfl <;> simp <;> omega
  clear kc0 kf0 kc1 kf1 kc2 kf2 kc3 kf3
  refine wp_region_free [false, false, false, false, false, false, false, true, false, false, true, false, false, true] (ShL [(7, fun v => ∃ g : Nat, v = .slice (some ⟨g, 0, none⟩) 0 0), (10, fun v => ∃ (A : Option Addr) (c : Nat), v = .slice A x.cells.length c)]) (fun D γ u => SaveC w u4 [(u3.heap.size, 89, #[.int .i64 scn, .slice A9 sT.length c9, .int .i64 smc]), (u1.heap.size, 31, (vX x A' c' B' d' C' e' b' 0 2)), (w.heap.size + 1, 31, zV), (w.heap.size, 31, (vX x A cap B tc C cc b off sc))] x.cells b' 91 #[.int .i64 x.s0.count, .slice A0 x.s0.trusts.length c0, .int .i64 x.s0.mac, .slice C0 x.s0.cells.length d0, .int .i64 x.s1.count, .slice A1 x.s1.trusts.length c1, .int .i64 x.s1.mac, .slice C1 x.s1.cells.length d1] (fun v => #[.int .i64 scn, .slice A9 sT.length c9, .int .i64 smc, v, .int .i64 x.s1.count, .slice A1 x.s1.trusts.length c1, .int .i64 x.s1.mac, .slice C1 x.s1.cells.length d1]) D γ u) (by kernel_rfl) (by kernel_rfl) (fun γ => by kernel_rfl) (fun D γ γ' w ha h => h.loc ha) (ShL.inh _ ?inh) (fun γ => SaveC.start hk4 hsl5) (fun γ hγ => ?_)
  case inh =>
    intro y hy
    simp only [List.mem_cons, List.not_mem_nil, or_false] at hy
    rcases hy with rfl | rfl
    · exact ⟨_, 0, rfl⟩
    · exact ⟨_, none, 0, rfl⟩
  obtain ⟨g7, e7⟩ : ∃ g : Nat, γ 7 = .slice (some ⟨g, 0, none⟩) 0 0 := hγ 7 rfl
  obtain ⟨C9, d9, e10⟩ : ∃ (A : Option Addr) (c : Nat), γ 10 = .slice A x.cells.length c := hγ 10 rfl
  have e13 : γ 13 = undef := hγ 13 rfl
  have HKS := Lib.hid hk4
  clear hk4
  apply Exists.intro
  refine ⟨fun D => ?_, ?_, ?_⟩
  · simp only [hushL, cond_true, cond_false, Nat.reduceAdd, e7, e10, e13]
    iterate 14 (first
      | go_big_quiet_skip
      | (go_big_quiet_want
         go_big_quiet_op
         first
           | go_big_quiet_on
           | (apply Exists.intro
              refine ⟨fun u hu => ?_, ?_⟩
              · first
                  | with_reducible rfl
                  | (obtain ⟨kc0, kf0, kc1, kf1, kc2, kf2, kc3, kf3, -⟩ := hu.1.rd; go_simp; first | done | with_reducible rfl)
              go_big_quiet_on)))
    exact wpQuiet_nil rfl
  · simp only [freeOk, Nat.reduceAdd]
    refine ⟨fun D u hD hd hu => ?_, fun D u hD hd hu => ?_, fun D u hD hd hu => ?_, trivial⟩
    · refine steps_buildNil 28 118 rfl Tryz.underlying28 (by kernel_rfl) ?_
      exact ⟨⟨_, rfl⟩, hu.build hD lb5⟩
    · have d7 := hd { on := 7, ground := Ground.data } (by simp) rfl rfl
      have hrow := hu.2.2.2.2.1 d7 hD
      rw [e7] at hrow
      refine steps_append _ _ 28 rfl u4.heap.size 118 2 16 0 (.agg zC) (.slice (some ⟨g7, 0, none⟩) 0 0) [] C x.cells.length cc (flatS ceV x.cells) Tryz.underlying28 info_cel rfl (by omega) rfl hrow rfl (flatS_length ceV_len) (NW.out u hu.1.1) (ceV_one x.cells) (by unfold maxLen; omega) (by omega) hu.2.1.size ?_
      intro v' w' hown hg hb2
      have hr9 : ClRow w' u4.heap.size v' x.cells := by have h := hown; simp only [Nat.zero_add, List.nil_append] at h; exact h
      obtain ⟨A6, c6, rfl, _, _⟩ := hr9.reads ceV_len
      exact ⟨⟨_, _, rfl⟩, hu.append d7 hD lb5 hLlt HKS.out.1.size e7 hr9 (by simpa [Value.ownBlock] using hg)⟩
    · have d10 := hd { on := 10, ground := Ground.phase } (by simp) rfl rfl
      exact steps_store4 (off := 0) (hu.2.2.1 hD) (by simp) rfl rfl rfl (by kernel_rfl) (by simp [Value.oneCell']) (fun w' hc hg => ⟨rfl, hu.store d10 lb5 (by omega) hLne hg (by simp only [e10]; simpa using hc)⟩)
  · intro D uf hD hu
    have hf := hu.1
    have hgf := hu.2.1
    have hcs := hu.2.2.2.1 (hD 13 (by simp) rfl)
    have hrc := hu.2.2.2.2.2.1 (hD 10 (by simp) rfl)
    simp only [e10] at hcs hrc
    clear hu hD HKS hγ e7 e10 e13
    have hg15 := gb_trans (below_gb bu4 (some b')) hgf
    have hrs := row_keep hr4 hgf (fun hm => by have := (hra _ hm).1; omega)
    have hlts : ∀ y ∈ blkOf (.slice A9 sT.length c9), y < u4.heap.size := fun y hy => by have := (hra y hy).2; omega
    have hsep := sep_new hlts (fun y hy => (row_at hrc y hy).1)
    obtain ⟨kc0, kf0, kc1, kf1, kc2, kf2, kc3, kf3, -⟩ := hf.rd
    go_upto_region 13 with fail
    have hg8 := gb_set (gb_refl uf (some u1.heap.size)) 5 (.int .i64 n1)
    have hk8 : Kept w [(u3.heap.size, 89, #[.int .i64 scn, .slice A9 sT.length c9, .int .i64 smc]), (u1.heap.size, 31, #[.int .i64 x.key, .slice A' x.counts.length c', .slice B' x.trusts.length d', .slice C' x.cells.length e', .slice (some ⟨b', 0, none⟩) 2 2, .int .i64 n1]), (w.heap.size + 1, 31, zV), (w.heap.size, 31, (vX x A cap B tc C cc b off sc))] _ := hf.put (k := 1) rfl (by unfold Apart; simp; omega) hg8 ((hf.at_ (p := u1.heap.size) (t := 31) (cs := (vX x A' c' B' d' C' e' b' 0 2)) (by simp)).set_ 5 _)
    have hv8 := (HU.out.slotPut0 (s := ⟨scn, sT, smc, x.cells⟩) (row_keep hrs hg8 (fun hm => by have := (hra _ hm).1; omega)) (row_keep hrc hg8 (fun hm => by have := (row_at hrc _ hm).1; omega)) (by omega) (by omega) hsep hsl (gb_newer hg15 hg8 (Nat.le_refl _)) (show CellsAt _ _ _ #[.int .i64 scn, .slice A9 sT.length c9, .int .i64 smc, .slice C9 x.cells.length d9, .int .i64 x.s1.count, .slice A1 x.s1.trusts.length c1, .int .i64 x.s1.mac, .slice C1 x.s1.cells.length d1] from (show CellsAt _ _ _ _ from hcs).grown hg8 (by intro e; injection e; omega))).cnt n1
    clear hcs hrc hrs hsep hlts hg15 hgf hsl hsl5 hg8 bu4 hr4
    clear hf
    clear kc0 kf0 kc1 kf1 kc2 kf2 kc3 kf3
    generalize World.setCell uf _ _ = u8 at hk8 hv8 ⊢
    obtain ⟨kc0, kf0, kc1, kf1, kc2, kf2, kc3, kf3, -⟩ := hk8.rd
    have HV := Lib.hid hv8
    have KK := Lib.hid hk8
    clear hv8 hk8 HU
    go_wp2_with fail
    obtain ⟨w9, e9, ⟨d0, d1, d2, d3, d4, d5⟩, hb9, hg9⟩ := vol_end (w := w) (x0 := .int .i64 x.key) (x1 := .slice A' x.counts.length c') (x2 := .slice B' x.trusts.length d') (x3 := .slice C' x.cells.length e') (x4 := .slice (some ⟨b', 0, none⟩) 2 2) (x5 := .int .i64 n1) (KK.out.at_ (p := w.heap.size + 1) (t := 31) (cs := zV) (by simp)) KK.out.1 (by omega)
    rw [e9]
    exact bodyPost_ret (v := .tuple #[.agg #[.int .i64 x.key, .slice A' x.counts.length c', .slice B' x.trusts.length d', .slice C' x.cells.length e', .slice (some ⟨b', 0, none⟩) 2 2, .int .i64 n1], .int .i64 0]) (by simp [results, Tryz.results88, go_sem, d0, d1, d2, d3, d4, d5]) rfl ⟨_, rfl, (HV.out.out hg9 (by omega)).mono (by omega), hb9⟩
set_option maxRecDepth 20000 in
set_option maxHeartbeats 8000000 in
theorem l13Save_3_1 (x : VolN) (v : Value) (w : World) (hx : x.Short) (hv : VolR w w.heap.size x v) (hI : TrusI x.trusts) (hc0 : 0 ≤ x.count) (hc : ¬ 10000 ≤ x.count) (hpar : (x.count + 1) % 2 = 1) : Calls Tryz.prog 88 #[v, .int .i64 3] w (VolAns1 w ({ x with s1 := slotN x 3, count := x.count + 1 }, 0)) := by
  have CO := Lib.hid (fun (u : World) (hb : Below w.heap.size w u) => l12Copy_r x v u hx (hv.grow hb))
  obtain ⟨A, cap, B, tc, C, cc, b, off, sc, rfl, hA, hB, hC, hbb, h0, h1, hcap⟩ := hv
  have K0 := Lib.hid (show Kept w [(w.heap.size + 1, 31, zV), (w.heap.size, 31, (vX x A cap B tc C cc b off sc))] _ from (((Kept.refl w).put1 _ _ (vX x A cap B tc C cc b off sc) rfl).put1 _ _ zV (by simp)))
  have I := Lib.hid (fun u => l1In_yes 3 0 3 u (by omega) (by omega))
  have hd : decide (10000 ≤ x.count) = false := decide_eq_false hc
  have S0 := fun (u : World) (hb : Below w.heap.size w u) => specSealOf_calls x.key A x.counts cap (x.count + 1) B x.trusts tc u (by have := hx.1; unfold maxLen; omega) ((hA.below hb (Nat.le_refl _)).more hb.size) hx.2.1 ((hB.below hb (Nat.le_refl _)).more hb.size) hI ⟨by omega, by omega⟩
  have NW := Lib.hid (fun (u : World) (hb : Below w.heap.size w u) => Sls.news ceV_len (by omega) (hC.below hb (Nat.le_refl _)))
  have hx3 := hx.2.2.1
  unfold slotN
  generalize sealN x.key x.counts (x.count + 1) x.trusts = sl at S0 ⊢
  obtain ⟨scn, sT, smc⟩ := sl
  simp only [] at S0 ⊢
  have SO := Lib.hid S0
  obtain ⟨n1, hn1⟩ : ∃ n1, n1 = x.count + 1 := ⟨_, rfl⟩
  have hw1 : IntKind.i64.wrap (x.count + 1) = n1 := by rw [hn1]; exact IntWalk.i64_in _ (by omega)
  have hn1p : 0 ≤ n1 ∧ n1 ≤ 10000 := by omega
  have hm1 : n1 % 2 = 1 := by rw [hn1]; exact hpar
  have ht1 : Int.tmod n1 2 = 1 := by rw [Int.tmod_eq_emod_of_nonneg hn1p.1]; exact hm1
  rw [← hn1] at SO ⊢
  have HN1 := Lib.hid hn1
  have HPAR := Lib.hid hpar
  clear hA hB hC h0 h1 S0 hpar hn1 hI
  go_enter Tryz.func88, Tryz.ntmps88
  go_wp2_with fail
  refine (CO.out _ K0.out.1).mono ?_; rintro e u1 ⟨vv, rfl, hv, hb1⟩
  have hk1 := K0.out.below hb1
  obtain ⟨A', c', B', d', C', e', b', o', s', rfl, -⟩ := hv.reads
  have hv1 := hv.mono (show w.heap.size + 1 + 1 ≤ _ by simp)
  have hbl := hv.slotsGet.2.2.2.1
  have lo0 : w.heap.size + 1 < u1.heap.size := hk1.lt (x := (w.heap.size + 1, 31, zV)) (by simp)
  have lo1 : w.heap.size < u1.heap.size := hk1.lt (x := (w.heap.size, 31, (vX x A cap B tc C cc b off sc))) (by simp)
  have hk2 := hk1.put1 u1.heap.size 31 (vX x A' c' B' d' C' e' b' o' s') rfl
  have hv2 := hv1.below ((Below.refl _ _).alloc (Nat.le_refl _) (.cells (vX x A' c' B' d' C' e' b' o' s') 31))
  have BU0 := Lib.hid ((Below.refl u1.heap.size u1).alloc (Nat.le_refl _) (.cells (vX x A' c' B' d' C' e' b' o' s') 31))
  have HU := Lib.hid hv1
  clear hb1 hk1 hv hv1 CO
  go_upto_region 2 with fail
  have bu := BU0.out
  clear BU0 hv2
  generalize World.alloc u1 _ = u2 at hk2 bu ⊢
  have BU := Lib.hid bu
  clear bu
  obtain ⟨kc0, kf0, kc1, kf1, kc2, kf2, -⟩ := hk2.rd
  have KK := Lib.hid hk2
  go_wp2_with fail
  refine (I.out _).mono ?_; rintro e w' ⟨rfl, rfl⟩
  go_wp2_with fail
  refine (SO.out _ KK.out.1).mono ?_; rintro e u3 ⟨A9, c9, rfl, hr3, b3⟩
  have hk3 := KK.out.below b3
  have bu3 := BU.out.trans (b3.mono BU.out.size)
  have lu2 : u1.heap.size < u2.heap.size := KK.out.lt (x := (u1.heap.size, 31, (vX x A' c' B' d' C' e' b' o' s'))) (by simp)
  clear b3 KK BU SO hk2 kc0 kf0 kc1 kf1 kc2 kf2
  have lp0 : u1.heap.size < u3.heap.size := hk3.lt (x := (u1.heap.size, 31, (vX x A' c' B' d' C' e' b' o' s'))) (by simp)
  have lp1 : w.heap.size + 1 < u3.heap.size := hk3.lt (x := (w.heap.size + 1, 31, zV)) (by simp)
  have lp2 : w.heap.size < u3.heap.size := hk3.lt (x := (w.heap.size, 31, (vX x A cap B tc C cc b off sc))) (by simp)
  have hk4 := hk3.put1 u3.heap.size 89 #[.int .i64 scn, .slice A9 sT.length c9, .int .i64 smc] rfl
  have bu4 := bu3.alloc (by omega) (.cells #[.int .i64 scn, .slice A9 sT.length c9, .int .i64 smc] 89)
  have hr4 := hr3.alloc (.cells #[.int .i64 scn, .slice A9 sT.length c9, .int .i64 smc] 89)
  have hq4 := (Below.refl u3.heap.size u3).alloc (Nat.le_refl _) (.cells #[.int .i64 scn, .slice A9 sT.length c9, .int .i64 smc] 89)
  have hra := fun y hy => (row_at hr3 y hy)
  clear hk3 bu3 hr3
  go_upto_region 8 with fail
  generalize World.alloc u3 _ = u4 at hk4 bu4 hr4 hq4 ⊢
  obtain ⟨kc0, kf0, kc1, kf1, kc2, kf2, kc3, kf3, -⟩ := hk4.rd
  go_upto_region 10 with fail
  obtain ⟨eo, es, hbb2, hbu, A0, c0, C0, d0, A1, c1, C1, d1, hsl, -⟩ := HU.out.slotsGet
  subst eo
  subst es
  have hsz : u3.heap.size < u4.heap.size := hk4.lt (x := (u3.heap.size, 89, #[.int .i64 scn, .slice A9 sT.length c9, .int .i64 smc])) (by simp)
  have hsl5 : CellsAt u4 b' 91 #[.int .i64 x.s0.count, .slice A0 x.s0.trusts.length c0, .int .i64 x.s0.mac, .slice C0 x.s0.cells.length d0, .int .i64 x.s1.count, .slice A1 x.s1.trusts.length c1, .int .i64 x.s1.mac, .slice C1 x.s1.cells.length d1] := hsl.below bu4 hbu
  have lb5 : b' < u4.heap.size := by omega
  have hLlt : ∀ y ∈ ([(u3.heap.size, 89, #[.int .i64 scn, .slice A9 sT.length c9, .int .i64 smc]), (u1.heap.size, 31, (vX x A' c' B' d' C' e' b' 0 2)), (w.heap.size + 1, 31, zV), (w.heap.size, 31, (vX x A cap B tc C cc b off sc))] : List Box), y.1 < u4.heap.size := fun y hy => hk4.lt hy
  have hLne : ∀ y ∈ ([(u3.heap.size, 89, #[.int .i64 scn, .slice A9 sT.length c9, .int .i64 smc]), (u1.heap.size, 31, (vX x A' c' B' d' C' e' b' 0 2)), (w.heap.size + 1, 31, zV), (w.heap.size, 31, (vX x A cap B tc C cc b off sc))] : List Box), y.1 ≠ b' := by intro y hy; simp at hy; rcases hy with rfl | rfl | rfl | rfl <;> simp <;> omega
  clear kc0 kf0 kc1 kf1 kc2 kf2 kc3 kf3
  refine wp_region_free [false, false, false, false, false, false, false, true, false, false, true, false, false, true] (ShL [(7, fun v => ∃ g : Nat, v = .slice (some ⟨g, 0, none⟩) 0 0), (10, fun v => ∃ (A : Option Addr) (c : Nat), v = .slice A x.cells.length c)]) (fun D γ u => SaveC w u4 [(u3.heap.size, 89, #[.int .i64 scn, .slice A9 sT.length c9, .int .i64 smc]), (u1.heap.size, 31, (vX x A' c' B' d' C' e' b' 0 2)), (w.heap.size + 1, 31, zV), (w.heap.size, 31, (vX x A cap B tc C cc b off sc))] x.cells b' 91 #[.int .i64 x.s0.count, .slice A0 x.s0.trusts.length c0, .int .i64 x.s0.mac, .slice C0 x.s0.cells.length d0, .int .i64 x.s1.count, .slice A1 x.s1.trusts.length c1, .int .i64 x.s1.mac, .slice C1 x.s1.cells.length d1] (fun v => #[.int .i64 x.s0.count, .slice A0 x.s0.trusts.length c0, .int .i64 x.s0.mac, .slice C0 x.s0.cells.length d0, .int .i64 scn, .slice A9 sT.length c9, .int .i64 smc, v]) D γ u) (by kernel_rfl) (by kernel_rfl) (fun γ => by kernel_rfl) (fun D γ γ' w ha h => h.loc ha) (ShL.inh _ ?inh) (fun γ => SaveC.start hk4 hsl5) (fun γ hγ => ?_)
  case inh =>
    intro y hy
    simp only [List.mem_cons, List.not_mem_nil, or_false] at hy
    rcases hy with rfl | rfl
    · exact ⟨_, 0, rfl⟩
    · exact ⟨_, none, 0, rfl⟩
  obtain ⟨g7, e7⟩ : ∃ g : Nat, γ 7 = .slice (some ⟨g, 0, none⟩) 0 0 := hγ 7 rfl
  obtain ⟨C9, d9, e10⟩ : ∃ (A : Option Addr) (c : Nat), γ 10 = .slice A x.cells.length c := hγ 10 rfl
  have e13 : γ 13 = undef := hγ 13 rfl
  have HKS := Lib.hid hk4
  clear hk4
  apply Exists.intro
  refine ⟨fun D => ?_, ?_, ?_⟩
  · simp only [hushL, cond_true, cond_false, Nat.reduceAdd, e7, e10, e13]
    iterate 14 (first
      | go_big_quiet_skip
      | (go_big_quiet_want
         go_big_quiet_op
         first
           | go_big_quiet_on
           | (apply Exists.intro
              refine ⟨fun u hu => ?_, ?_⟩
              · first
                  | with_reducible rfl
                  | (obtain ⟨kc0, kf0, kc1, kf1, kc2, kf2, kc3, kf3, -⟩ := hu.1.rd; go_simp; first | done | with_reducible rfl)
              go_big_quiet_on)))
    exact wpQuiet_nil rfl
  · simp only [freeOk, Nat.reduceAdd]
    refine ⟨fun D u hD hd hu => ?_, fun D u hD hd hu => ?_, fun D u hD hd hu => ?_, trivial⟩
    · refine steps_buildNil 28 118 rfl Tryz.underlying28 (by kernel_rfl) ?_
      exact ⟨⟨_, rfl⟩, hu.build hD lb5⟩
    · have d7 := hd { on := 7, ground := Ground.data } (by simp) rfl rfl
      have hrow := hu.2.2.2.2.1 d7 hD
      rw [e7] at hrow
      refine steps_append _ _ 28 rfl u4.heap.size 118 2 16 0 (.agg zC) (.slice (some ⟨g7, 0, none⟩) 0 0) [] C x.cells.length cc (flatS ceV x.cells) Tryz.underlying28 info_cel rfl (by omega) rfl hrow rfl (flatS_length ceV_len) (NW.out u hu.1.1) (ceV_one x.cells) (by unfold maxLen; omega) (by omega) hu.2.1.size ?_
      intro v' w' hown hg hb2
      have hr9 : ClRow w' u4.heap.size v' x.cells := by have h := hown; simp only [Nat.zero_add, List.nil_append] at h; exact h
      obtain ⟨A6, c6, rfl, _, _⟩ := hr9.reads ceV_len
      exact ⟨⟨_, _, rfl⟩, hu.append d7 hD lb5 hLlt HKS.out.1.size e7 hr9 (by simpa [Value.ownBlock] using hg)⟩
    · have d10 := hd { on := 10, ground := Ground.phase } (by simp) rfl rfl
      exact steps_store4 (off := 4) (hu.2.2.1 hD) (by simp) rfl rfl rfl (by kernel_rfl) (by simp [Value.oneCell']) (fun w' hc hg => ⟨rfl, hu.store d10 lb5 (by omega) hLne hg (by simp only [e10]; simpa using hc)⟩)
  · intro D uf hD hu
    have hf := hu.1
    have hgf := hu.2.1
    have hcs := hu.2.2.2.1 (hD 13 (by simp) rfl)
    have hrc := hu.2.2.2.2.2.1 (hD 10 (by simp) rfl)
    simp only [e10] at hcs hrc
    clear hu hD HKS hγ e7 e10 e13
    have hg15 := gb_trans (below_gb bu4 (some b')) hgf
    have hrs := row_keep hr4 hgf (fun hm => by have := (hra _ hm).1; omega)
    have hlts : ∀ y ∈ blkOf (.slice A9 sT.length c9), y < u4.heap.size := fun y hy => by have := (hra y hy).2; omega
    have hsep := sep_new hlts (fun y hy => (row_at hrc y hy).1)
    obtain ⟨kc0, kf0, kc1, kf1, kc2, kf2, kc3, kf3, -⟩ := hf.rd
    go_upto_region 13 with fail
    have hg8 := gb_set (gb_refl uf (some u1.heap.size)) 5 (.int .i64 n1)
    have hk8 : Kept w [(u3.heap.size, 89, #[.int .i64 scn, .slice A9 sT.length c9, .int .i64 smc]), (u1.heap.size, 31, #[.int .i64 x.key, .slice A' x.counts.length c', .slice B' x.trusts.length d', .slice C' x.cells.length e', .slice (some ⟨b', 0, none⟩) 2 2, .int .i64 n1]), (w.heap.size + 1, 31, zV), (w.heap.size, 31, (vX x A cap B tc C cc b off sc))] _ := hf.put (k := 1) rfl (by unfold Apart; simp; omega) hg8 ((hf.at_ (p := u1.heap.size) (t := 31) (cs := (vX x A' c' B' d' C' e' b' 0 2)) (by simp)).set_ 5 _)
    have hv8 := (HU.out.slotPut1 (s := ⟨scn, sT, smc, x.cells⟩) (row_keep hrs hg8 (fun hm => by have := (hra _ hm).1; omega)) (row_keep hrc hg8 (fun hm => by have := (row_at hrc _ hm).1; omega)) (by omega) (by omega) hsep hsl (gb_newer hg15 hg8 (Nat.le_refl _)) (show CellsAt _ _ _ #[.int .i64 x.s0.count, .slice A0 x.s0.trusts.length c0, .int .i64 x.s0.mac, .slice C0 x.s0.cells.length d0, .int .i64 scn, .slice A9 sT.length c9, .int .i64 smc, .slice C9 x.cells.length d9] from (show CellsAt _ _ _ _ from hcs).grown hg8 (by intro e; injection e; omega))).cnt n1
    clear hcs hrc hrs hsep hlts hg15 hgf hsl hsl5 hg8 bu4 hr4
    clear hf
    clear kc0 kf0 kc1 kf1 kc2 kf2 kc3 kf3
    generalize World.setCell uf _ _ = u8 at hk8 hv8 ⊢
    obtain ⟨kc0, kf0, kc1, kf1, kc2, kf2, kc3, kf3, -⟩ := hk8.rd
    have HV := Lib.hid hv8
    have KK := Lib.hid hk8
    clear hv8 hk8 HU
    go_wp2_with fail
    obtain ⟨w9, e9, ⟨d0, d1, d2, d3, d4, d5⟩, hb9, hg9⟩ := vol_end (w := w) (x0 := .int .i64 x.key) (x1 := .slice A' x.counts.length c') (x2 := .slice B' x.trusts.length d') (x3 := .slice C' x.cells.length e') (x4 := .slice (some ⟨b', 0, none⟩) 2 2) (x5 := .int .i64 n1) (KK.out.at_ (p := w.heap.size + 1) (t := 31) (cs := zV) (by simp)) KK.out.1 (by omega)
    rw [e9]
    exact bodyPost_ret (v := .tuple #[.agg #[.int .i64 x.key, .slice A' x.counts.length c', .slice B' x.trusts.length d', .slice C' x.cells.length e', .slice (some ⟨b', 0, none⟩) 2 2, .int .i64 n1], .int .i64 0]) (by simp [results, Tryz.results88, go_sem, d0, d1, d2, d3, d4, d5]) rfl ⟨_, rfl, (HV.out.out hg9 (by omega)).mono (by omega), hb9⟩
theorem l13Save_calls (x : VolN) (v : Value) (w : World) (hx : x.Short) (hv : VolR w w.heap.size x v) (hI : TrusI x.trusts) (hc0 : 0 ≤ x.count) (stage : Int) : Calls Tryz.prog 88 #[v, .int .i64 stage] w (VolAns1 w (saveVol x stage)) := by
  unfold saveVol
  by_cases hs : 0 ≤ stage ∧ stage ≤ 3
  · rw [if_neg (not_not_intro hs)]
    by_cases hc : 10000 ≤ x.count
    · rw [if_pos hc]; exact l13Save_spent x v w hx hv stage hs hc
    · rw [if_neg hc]
      by_cases h0 : stage = 0
      · rw [if_pos h0]; subst h0; exact l13Save_zero x v w hx hv hc
      · rw [if_neg h0]
        unfold savePut
        have h3 : stage = 1 ∨ stage = 2 ∨ stage = 3 := by omega
        rcases Int.emod_two_eq (x.count + 1) with hp | hp
        · rw [if_pos hp]
          rcases h3 with rfl | rfl | rfl
          · exact l13Save_1_0 x v w hx hv hI hc0 hc hp
          · exact l13Save_2_0 x v w hx hv hI hc0 hc hp
          · exact l13Save_3_0 x v w hx hv hI hc0 hc hp
        · rw [if_neg (by omega)]
          rcases h3 with rfl | rfl | rfl
          · exact l13Save_1_1 x v w hx hv hI hc0 hc hp
          · exact l13Save_2_1 x v w hx hv hI hc0 hc hp
          · exact l13Save_3_1 x v w hx hv hI hc0 hc hp
  · rw [if_pos hs]; exact l13Save_bad x v w hx hv stage hs
end Go.Proofs.YteoijmejhdocdaaGreatDoor.Mx

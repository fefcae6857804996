import Derived.Test.YtjbnknccnhdapaaGreatG25
import Derived.Test.YtjbnknccnhdapaaGreatG27
namespace Go.Proofs.YtjbnknccnhdapaaGreat.Mx
open Go.ChangeShapes Go.WideShapes Go.ChangeAt Go.RowKit
set_option linter.unusedVariables false
theorem sumAll_sum {key : Int} : ∀ (L : List Tri) (s : Int), isSumP s → (∀ x ∈ L, isSumP (tagOf key x.1 x.2.1 x.2.2)) → isSumP (sumAll key s L) := by
 intro L
 induction L with
 | nil => intro s h _; exact h
 | cons a L ih =>
   intro s h hL
   exact ih _ (addOf_sum h (hL a (List.mem_cons_self ..))) (fun x hx => hL x (List.mem_cons_of_mem _ hx))
theorem cellsNew_ok {key f : Int} {n : Nat} (hk : isKey key) (h0 : 0 ≤ f) (h1 : f + n ≤ 24) (hn : n ≤ 8) : (∀ c ∈ cellsNew key f n, isCell c.1 c.2) ∧ ∀ x ∈ trisNew key f n, isSumP (tagOf key x.1 x.2.1 x.2.2) := by
 have key1 : ∀ i : Nat, i < n → isAt (f + i) ∧ isCell (cellOf key (f + i) (i + 1) 0).1 (cellOf key (f + i) (i + 1) 0).2 := by
  intro i hi
  have ha : isAt (f + i) := ⟨by omega, by omega⟩
  exact ⟨ha, cellOf_cell hk ha ⟨by omega, by omega⟩ ⟨by decide, by decide⟩⟩
 constructor
 ·intro c hc
  unfold cellsNew at hc
  obtain ⟨i, hi, rfl⟩ := List.mem_map.1 hc
  exact (key1 i (List.mem_range.1 hi)).2
 ·intro x hx
  unfold trisNew at hx
  obtain ⟨i, hi, rfl⟩ := List.mem_map.1 hx
  obtain ⟨ha, hc⟩ := key1 i (List.mem_range.1 hi)
  exact tripleIn_tag hk ha hc
theorem region_bd {key : Int} {l : List Int} (hp : planOk key l) {r : Nat} (hr : r < l.length) : 0 ≤ upTo l r ∧ upTo l r + (l.getD r 0).toNat ≤ 24 ∧ (l.getD r 0).toNat ≤ 8 ∧ 1 ≤ l.getD r 0 := by
 have a := upTo_bd hp.2.2.1 (k := r) (by omega)
 have b := upTo_succ l hr
 have c := upTo_mono hp.2.2.1 (i := r + 1) (j := l.length) (by omega) (Nat.le_refl _)
 have d := hp.2.2.2
 have e := hp.2.2.1 r hr
 omega
theorem newTru_ok {key : Int} {l : List Int} (hp : planOk key l) {r : Nat} (hr : r < l.length) : trustOk key l r (newTru key l r) := by
 obtain ⟨a, b, c, d⟩ := region_bd hp hr
 have z : isSumP 0 := by unfold isSumP; omega
 refine ⟨hp, ⟨by omega, by omega⟩, ?_, ⟨?_, ?_⟩, ⟨?_, ?_⟩, fun _ => ⟨rfl, rfl⟩, z, ?_, z, z⟩
 ·unfold isTm newTru; simp only []; omega
 ·exact Int.le_refl _
 ·show (0 : Int) ≤ 1000; decide
 ·exact Int.le_refl _
 ·show (0 : Int) ≤ l.getD ((r : Int)).toNat 0 - 1
  rw [Int.toNat_natCast]; omega
 ·show isSumP (sumOf key (trisNew key (upTo l r) (l.getD r 0).toNat))
  unfold sumOf
  rw [if_pos (show 1 ≤ key ∧ key ≤ 1000000 from hp.1)]
  exact sumAll_sum _ 0 z (cellsNew_ok hp.1 a (by omega) c).2
theorem getD_memd {α : Type} [Inhabited α] {L : List α} {i : Nat} (h : i < L.length) : L.getD i default ∈ L := by
 rw [List.getD_eq_getElem?_getD, List.getElem?_eq_getElem h]; exact List.getElem_mem h
theorem newCels_ok {key : Int} {l : List Int} (hp : planOk key l) : cellsOk key l (newCels key l l.length) := by
 refine ⟨fun i hi => ?_, ?_⟩
 ·have hm := getD_memd hi
  unfold newCels at hm
  obtain ⟨r, hr, hc⟩ := List.mem_flatMap.1 hm
  have hr' := List.mem_range.1 hr
  obtain ⟨a, b, c, d⟩ := region_bd hp hr'
  exact (cellsNew_ok hp.1 a (by omega) c).1 _ hc
 ·rw [newCels_len hp.2.2.1 _ (Nat.le_refl _)]
  unfold sectorsOf
  rw [if_pos hp]
theorem newTrus_ok {key : Int} {l : List Int} (hp : planOk key l) : trustsOk key l (newTrus key l l.length) := by
 refine ⟨hp, newTrus_len _ _ _, fun i hi => ?_⟩
 rw [newTrus_len] at hi
 rw [newTrus_get key l hi]
 exact newTru_ok hp hi
theorem formatVol_inv {key : Int} {l : List Int} (hp : planOk key l) : (formatVol key l).Inv := by
 have hT := newTrus_ok hp
 have hC := newCels_ok hp
 have h4 := hp.2.1.2
 obtain ⟨a, b, c, d⟩ := sealN_fine key l 1 (newTrus key l l.length) hT.i64 (by rw [newTrus_len]; exact h4)
 exact ⟨hp, hT, hC, (show (0 : Int) ≤ 1 ∧ (1 : Int) ≤ 10000 by decide), ⟨.inl rfl, by simp [formatVol], TrusI.nil, (show I64 0 from ⟨by decide, by decide⟩), (show I64 0 from ⟨by decide, by decide⟩)⟩, ⟨.inr hC, a, b, c, d⟩⟩
noncomputable def fall14 (x : VolN) (stage : Int) : VolN × Int × Int :=
 if (saveVol x stage).2 = 0 then ((fallVol (saveVol x stage).1).1, (fallVol (saveVol x stage).1).2, 0) else ((saveVol x stage).1, (saveVol x stage).2, 0)
theorem fall14_inv {x : VolN} (h : x.Inv) (stage : Int) : (fall14 x stage).1.Inv := by
 unfold fall14
 split
 ·exact fallVol_inv (saveVol_inv h stage)
 ·exact saveVol_inv h stage
theorem l13Save_r (x : VolN) (v : Value) (w : World) (h : x.Inv) (hv : VolR w w.heap.size x v) (stage : Int) : Calls Tryz.prog 60 #[v, .int .i64 stage] w (VolAns1 w (saveVol x stage)) := l13Save_calls x v w h.short hv h.2.1.i64 h.2.2.2.1.1 stage
theorem l13Fall_r (x : VolN) (v : Value) (w : World) (h : x.Inv) (hv : VolR w w.heap.size x v) : Calls Tryz.prog 85 #[v] w (VolAns1 w (fallVol x)) := l13Fall_calls x v w h.short (h.2.2.2.2.1.fits h.1) (h.2.2.2.2.2.fits h.1) h.pos hv
theorem l13Spoil_r (x : VolN) (v : Value) (w : World) (h : x.Inv) (hv : VolR w w.heap.size x v) (slot : Int) : Calls Tryz.prog 64 #[v, .int .i64 slot] w (VolAns1 w (spoilVol x slot)) := l13Spoil_calls x v slot w h.short hv
theorem l14Bend_r (x : VolN) (v : Value) (w : World) (h : x.Inv) (hv : VolR w w.heap.size x v) (a c0 c1 : Int) : Calls Tryz.prog 62 #[v, .int .i64 a, .agg (cA c0 c1)] w (VolAnsA w (bendVol x a c0 c1)) := l14Bend_calls x v w h.short hv h.fit a c0 c1
theorem l14Replay_r (x : VolN) (v : Value) (w : World) (h : x.Inv) (hv : VolR w w.heap.size x v) (a slot : Int) : Calls Tryz.prog 63 #[v, .int .i64 a, .int .i64 slot] w (VolAnsA w (replayVol x a slot)) := l14Replay_calls x v w h.short hv h.fit a slot
theorem l12Touch_r (x : VolN) (v : Value) (w : World) (h : x.Inv) (hv : VolR w w.heap.size x v) (a value : Int) (ha : I64 a) : Calls Tryz.prog 56 #[v, .int .i64 a, .int .i64 value] w (VolAns w (touchVol x a value)) := by
 obtain ⟨A, cap, B, tc, C, cc, b, off, sc, rfl, hA, hB, hC, hbb, h0, h1, hcap⟩ := hv
 exact l12Touch_calls x A cap B tc C cc b off sc w h.short hcap hA hB hC hbb h0 h1 h.fit a value ha
theorem l12Write_r (x : VolN) (v : Value) (w : World) (h : x.Inv) (hv : VolR w w.heap.size x v) (a value : Int) (ha : I64 a) : Calls Tryz.prog 57 #[v, .int .i64 a, .int .i64 value] w (VolAns w (writeVol x a value)) := by
 obtain ⟨A, cap, B, tc, C, cc, b, off, sc, rfl, hA, hB, hC, hbb, h0, h1, hcap⟩ := hv
 exact l12Write_calls x A cap B tc C cc b off sc w h.short hcap hA hB hC hbb h0 h1 h.fit a value ha
theorem l12Step_r (x : VolN) (v : Value) (w : World) (h : x.Inv) (hv : VolR w w.heap.size x v) (r : Int) : Calls Tryz.prog 58 #[v, .int .i64 r] w (VolAns1 w (stepVol x r)) := by
 obtain ⟨A, cap, B, tc, C, cc, b, off, sc, rfl, hA, hB, hC, hbb, h0, h1, hcap⟩ := hv
 exact l12Step_calls x A cap B tc C cc b off sc w h.short hcap hA hB hC hbb h0 h1 h.fit h.cur r
theorem l12Close_r (x : VolN) (v : Value) (w : World) (h : x.Inv) (hv : VolR w w.heap.size x v) (r : Int) (hr0 : 0 ≤ r) (hr : r < x.counts.length) : Calls Tryz.prog 59 #[v, .int .i64 r] w (VolAns1 w (closeVol x r)) := by
 obtain ⟨A, cap, B, tc, C, cc, b, off, sc, rfl, hA, hB, hC, hbb, h0, h1, hcap⟩ := hv
 exact l12Close_calls x A cap B tc C cc b off sc w h.short hcap hA hB hC hbb h0 h1 h.fit h.cur r hr0 hr
set_option maxRecDepth 20000 in
set_option maxHeartbeats 4000000 in
theorem l14Fall_r (x : VolN) (v : Value) (w : World) (h : x.Inv) (hv : VolR w w.heap.size x v) (stage : Int) : Calls Tryz.prog 61 #[v, .int .i64 stage] w (VolAnsA w (fall14 x stage)) := by
 have S0 := fun (u : World) (hb : Below w.heap.size w u) => l13Save_r x v u h (hv.grow hb) stage
 obtain ⟨A, cap, B, tc, C, cc, b, off, sc, rfl, hA, hB, hC, hbb, h0, h1, hcap⟩ := hv
 have K0 := Lib.hid (show Kept w [(w.heap.size + 1 + 1, 80, zC), (w.heap.size + 1, 45, zV), (w.heap.size, 45, (vX x A cap B tc C cc b off sc))] _ from ((((Kept.refl w).put1 _ _ (vX x A cap B tc C cc b off sc) rfl).put1 _ _ zV (by simp)).put1 _ _ zC (by simp)))
 have hyI := saveVol_inv h stage
 unfold fall14
 generalize saveVol x stage = Y at S0 hyI ⊢
 obtain ⟨y, k⟩ := Y
 simp only [] at S0 hyI ⊢
 have SO := Lib.hid S0
 have HI := Lib.hid hyI
 clear hA hB hC h0 h1 S0 hyI h
 by_cases hk0 : k = 0
 ·subst hk0; rw [if_pos rfl]
  have F0 := fun (v : Value) (u : World) (hv : VolR u u.heap.size y v) => l13Fall_r y v u HI.out hv
  generalize fallVol y = Z at F0 ⊢
  obtain ⟨z, k3⟩ := Z
  have FO := Lib.hid F0
  clear F0
  go_enter Tryz.func61, Tryz.ntmps61
  go_wp2_with fail
  refine (SO.out _ K0.out.1).mono ?_; rintro e u1 ⟨cs, rfl, hv, hb1⟩
  obtain ⟨A', c', B', d', C', e', b', o', s', e1, -⟩ := hv.reads
  injection e1 with e1; subst e1
  have hk1 := K0.out.below hb1
  have hv1 := hv.mono (show w.heap.size + 1 + 1 + 1 ≤ _ by simp)
  have lo0 : w.heap.size + 1 + 1 < u1.heap.size := hk1.lt (x := (w.heap.size + 1 + 1, 80, zC)) (by simp)
  have lo1 : w.heap.size + 1 < u1.heap.size := hk1.lt (x := (w.heap.size + 1, 45, zV)) (by simp)
  have lo2 : w.heap.size < u1.heap.size := hk1.lt (x := (w.heap.size, 45, (vX x A cap B tc C cc b off sc))) (by simp)
  have hk2 := hk1.put1 u1.heap.size 45 (vX y A' c' B' d' C' e' b' o' s') rfl
  have hv2 := hv1.below ((Below.refl _ _).alloc (Nat.le_refl _) (.cells (vX y A' c' B' d' C' e' b' o' s') 45))
  clear hb1 hk1 hv hv1 SO
  go_upto_region 2 with fail
  generalize World.alloc u1 _ = u2 at hk2 hv2 ⊢
  obtain ⟨kc0, kf0, kc1, kf1, kc2, kf2, kc3, kf3, -⟩ := hk2.rd
  have HV := Lib.hid hv2
  have KK := Lib.hid hk2
  clear hv2
  clear hk2
  go_wp2_with fail
  refine (FO.out _ _ HV.out.reads).mono ?_; rintro e u3 ⟨cs3, rfl, hv3, hb3⟩
  obtain ⟨A6, c6, B6, n6, C6, e6, b6, o6, s6, e1, -⟩ := hv3.reads
  injection e1 with e1; subst e1
  have hk3 := KK.out.below hb3
  have lu2 := KK.out.1.size
  have lp0 : w.heap.size + 1 + 1 < u2.heap.size := KK.out.lt (x := (w.heap.size + 1 + 1, 80, zC)) (by simp)
  have lp1 : w.heap.size + 1 < u2.heap.size := KK.out.lt (x := (w.heap.size + 1, 45, zV)) (by simp)
  have lp2 : w.heap.size < u2.heap.size := KK.out.lt (x := (w.heap.size, 45, (vX x A cap B tc C cc b off sc))) (by simp)
  have hk4 := hk3.put1 u3.heap.size 45 (vX z A6 c6 B6 n6 C6 e6 b6 o6 s6) rfl
  have hv4 := hv3.below ((Below.refl _ _).alloc (Nat.le_refl _) (.cells (vX z A6 c6 B6 n6 C6 e6 b6 o6 s6) 45))
  clear hb3 hk3 hv3 HV KK kc0 kf0 kc1 kf1 kc2 kf2 kc3 kf3
  go_upto_region 5 with fail
  generalize World.alloc u3 _ = u4 at hk4 hv4 ⊢
  obtain ⟨kc0, kf0, kc1, kf1, kc2, kf2, kc3, kf3, kc4, kf4, -⟩ := hk4.rd
  have HV := Lib.hid hv4
  have KK := Lib.hid hk4
  clear hv4 hk4
  go_wp2_with fail
  obtain ⟨w9, e9, ⟨d0, d1, d2, d3, d4, d5⟩, ⟨f0, f1⟩, hb9, hv9⟩ := ans_end (w := w) (x0 := .int .i64 z.key) (x1 := .slice A6 z.counts.length c6) (x2 := .slice B6 z.trusts.length n6) (x3 := .slice C6 z.cells.length e6) (x4 := .slice (some ⟨b6, o6, none⟩) 2 s6) (x5 := .int .i64 z.count) (a0 := .int .i64 k3) (a1 := .int .i64 0) (KK.out.at_ (p := w.heap.size + 1) (t := 45) (cs := zV) (by simp)) (KK.out.at_ (p := w.heap.size + 1 + 1) (t := 80) (cs := zC) (by simp)) (by omega) KK.out.1 (by omega) (by omega)
  rw [e9]
  exact bodyPost_ret (v := .tuple #[.agg (vX z A6 c6 B6 n6 C6 e6 b6 o6 s6), .agg (cA k3 0)]) (by simp [results, Tryz.results61, go_sem, d0, d1, d2, d3, d4, d5, f0, f1]) rfl ⟨_, rfl, (hv9 _ _ _ (by omega) (by omega) HV.out).mono (by omega), hb9⟩
 ·rw [if_neg hk0]; have hkb : (k != 0) = true := by simpa using hk0
  clear hk0
  go_enter Tryz.func61, Tryz.ntmps61
  go_wp2_with fail
  refine (SO.out _ K0.out.1).mono ?_; rintro e u1 ⟨cs, rfl, hv, hb1⟩
  obtain ⟨A', c', B', d', C', e', b', o', s', e1, -⟩ := hv.reads
  injection e1 with e1; subst e1
  have hk1 := K0.out.below hb1
  have hv1 := hv.mono (show w.heap.size + 1 + 1 + 1 ≤ _ by simp)
  have lo0 : w.heap.size + 1 + 1 < u1.heap.size := hk1.lt (x := (w.heap.size + 1 + 1, 80, zC)) (by simp)
  have lo1 : w.heap.size + 1 < u1.heap.size := hk1.lt (x := (w.heap.size + 1, 45, zV)) (by simp)
  have lo2 : w.heap.size < u1.heap.size := hk1.lt (x := (w.heap.size, 45, (vX x A cap B tc C cc b off sc))) (by simp)
  have hk2 := hk1.put1 u1.heap.size 45 (vX y A' c' B' d' C' e' b' o' s') rfl
  have hv2 := hv1.below ((Below.refl _ _).alloc (Nat.le_refl _) (.cells (vX y A' c' B' d' C' e' b' o' s') 45))
  clear hb1 hk1 hv hv1 SO
  go_upto_region 2 with fail
  generalize World.alloc u1 _ = u2 at hk2 hv2 ⊢
  obtain ⟨kc0, kf0, kc1, kf1, kc2, kf2, kc3, kf3, -⟩ := hk2.rd
  have HV := Lib.hid hv2
  have KK := Lib.hid hk2
  clear hv2
  clear hk2
  go_wp2_with fail
  obtain ⟨w9, e9, ⟨d0, d1, d2, d3, d4, d5⟩, ⟨f0, f1⟩, hb9, hv9⟩ := ans_end (w := w) (x0 := .int .i64 y.key) (x1 := .slice A' y.counts.length c') (x2 := .slice B' y.trusts.length d') (x3 := .slice C' y.cells.length e') (x4 := .slice (some ⟨b', o', none⟩) 2 s') (x5 := .int .i64 y.count) (a0 := .int .i64 k) (a1 := .int .i64 0) (KK.out.at_ (p := w.heap.size + 1) (t := 45) (cs := zV) (by simp)) (KK.out.at_ (p := w.heap.size + 1 + 1) (t := 80) (cs := zC) (by simp)) (by omega) KK.out.1 (by omega) (by omega)
  rw [e9]
  exact bodyPost_ret (v := .tuple #[.agg (vX y A' c' B' d' C' e' b' o' s'), .agg (cA k 0)]) (by simp [results, Tryz.results61, go_sem, d0, d1, d2, d3, d4, d5, f0, f1]) rfl ⟨_, rfl, (hv9 _ _ _ (by omega) (by omega) HV.out).mono (by omega), hb9⟩
end Go.Proofs.YtjbnknccnhdapaaGreat.Mx

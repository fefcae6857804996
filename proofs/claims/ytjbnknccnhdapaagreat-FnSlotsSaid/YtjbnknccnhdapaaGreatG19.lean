import Derived.Test.YtjbnknccnhdapaaGreatG18
namespace Go.Proofs.YtjbnknccnhdapaaGreat.Mx
open Go.ChangeShapes Go.WideShapes Go.ChangeAt Go.RowKit
set_option linter.unusedVariables false
theorem row_frozen {w : World} {base e size n c g : Nat} {xs : List Value} (h : w.ownsRow base e size (.slice (some ⟨g, 0, none⟩) n c) n xs) : ∀ k, w.frozen? ⟨g, k, none⟩ = false := by
 rcases h.2 with ⟨h0, _⟩ | ⟨g', cap, cur, e1, hb, hg, _⟩
 ·cases h0
 ·simp only [Value.slice.injEq, Option.some.injEq, Addr.mk.injEq, and_true, true_and] at e1
  obtain ⟨rfl, rfl⟩ := e1
  intro k
  exact (show CellsAt w g e cur from hg).frozen k
theorem TrRow.here {w : World} {base c g k : Nat} {L : List Tru} (h : TrRow w base (.slice (some ⟨g, 0, none⟩) L.length c) L) (hk : k < L.length) : TruAt w g (k * 8) (L.getD k default) := by
 obtain ⟨B, d, e, hT, _⟩ := h.reads truV_len
 obtain ⟨b, off, e2, _, h2⟩ := Trs.at_ hT hk
 simp only [Value.slice.injEq, true_and] at e
 rw [← e.1] at e2
 simp only [Option.some.injEq, Addr.mk.injEq, and_true] at e2
 obtain ⟨rfl, rfl⟩ := e2
 rwa [Nat.zero_add] at h2
theorem ClRow.here {w : World} {base c g k : Nat} {L : List Ce} (h : ClRow w base (.slice (some ⟨g, 0, none⟩) L.length c) L) (hk : k < L.length) : CelAt w g (k * 2) (L.getD k default) := by
 obtain ⟨B, d, e, hT, _⟩ := h.reads ceV_len
 obtain ⟨b, off, e2, _, h2⟩ := Cls.at_ hT hk
 simp only [Value.slice.injEq, true_and] at e
 rw [← e.1] at e2
 simp only [Option.some.injEq, Addr.mk.injEq, and_true] at e2
 obtain ⟨rfl, rfl⟩ := e2
 rwa [Nat.zero_add] at h2
theorem VolO.trustsGet {u : World} {base : Nat} {x : VolN} {A B C : Option Addr} {c d e b o sc n0 n1 n2 : Nat} (h : VolO u base x (.agg #[.int .i64 x.key, .slice A n0 c, .slice B n1 d, .slice C n2 e, .slice (some ⟨b, o, none⟩) 2 sc, .int .i64 x.count])) (hk : 0 < x.trusts.length) :
    ∃ g, B = some ⟨g, 0, none⟩ ∧ base ≤ g ∧ g < u.heap.size ∧ TrRow u base (.slice (some ⟨g, 0, none⟩) x.trusts.length d) x.trusts ∧
      ∀ (u' : World) (L' : List Tru), L'.length = x.trusts.length → u.grownBy u' (some g) → TrRow u' base (.slice (some ⟨g, 0, none⟩) L'.length d) L' → VolO u' base { x with trusts := L' } (.agg #[.int .i64 x.key, .slice A n0 c, .slice B n1 d, .slice C n2 e, .slice (some ⟨b, o, none⟩) 2 sc, .int .i64 x.count]) := by
 obtain ⟨A2, c2, B2, d2, C2, e2, b2, sc2, g, hv, hB, h1, h2, h3, h4⟩ := h.trustsAt hk
 have hd : d = d2 := by injection hv with hv; injection hv with hv; injection hv with _ hv; injection hv with _ hv; injection hv with hv1 hv; injection hv1
 have hB2 : B = B2 := by injection hv with hv; injection hv with hv; injection hv with _ hv; injection hv with _ hv; injection hv with hv1 hv; injection hv1
 subst hd
 exact ⟨g, hB2.trans hB, h1, h2, h3, h4⟩
theorem VolO.cellsGet {u : World} {base : Nat} {x : VolN} {A B C : Option Addr} {c d e b o sc n0 n1 n2 : Nat} (h : VolO u base x (.agg #[.int .i64 x.key, .slice A n0 c, .slice B n1 d, .slice C n2 e, .slice (some ⟨b, o, none⟩) 2 sc, .int .i64 x.count])) (hk : 0 < x.cells.length) :
    ∃ g, C = some ⟨g, 0, none⟩ ∧ base ≤ g ∧ g < u.heap.size ∧ ClRow u base (.slice (some ⟨g, 0, none⟩) x.cells.length e) x.cells ∧
      ∀ (u' : World) (L' : List Ce), L'.length = x.cells.length → u.grownBy u' (some g) → ClRow u' base (.slice (some ⟨g, 0, none⟩) L'.length e) L' → VolO u' base { x with cells := L' } (.agg #[.int .i64 x.key, .slice A n0 c, .slice B n1 d, .slice C n2 e, .slice (some ⟨b, o, none⟩) 2 sc, .int .i64 x.count]) := by
 obtain ⟨A2, c2, B2, d2, C2, e2, b2, sc2, g, hv, hB, h1, h2, h3, h4⟩ := h.cellsAt hk
 have hd : e = e2 := by injection hv with hv; injection hv with hv; injection hv with _ hv; injection hv with _ hv; injection hv with _ hv; injection hv with hv1 hv; injection hv1
 have hB2 : C = C2 := by injection hv with hv; injection hv with hv; injection hv with _ hv; injection hv with _ hv; injection hv with _ hv; injection hv with hv1 hv; injection hv1
 subst hd
 exact ⟨g, hB2.trans hB, h1, h2, h3, h4⟩
set_option maxRecDepth 20000 in
set_option maxHeartbeats 8000000 in
theorem l12Touch_some (x : VolN) (A : Option Addr) (cap : Nat) (B : Option Addr) (tc : Nat) (C : Option Addr) (cc : Nat) (b off sc : Nat) (w : World) (hx : x.Short) (hcap : x.counts.length ≤ cap) (hA : Ints w .i64 w.heap.size A x.counts) (hB : Trs w w.heap.size B x.trusts) (hC : Cls w w.heap.size C x.cells) (hbb : b < w.heap.size) (h0 : SlotAt w w.heap.size b off x.s0) (h1 : SlotAt w w.heap.size b (off + 4) x.s1) (hfit : x.Fit) (a value : Int) (hr : 0 ≤ regionOf x.key x.counts a) (ha : I64 a) :
    Calls Tryz.prog 56 #[.agg (vX x A cap B tc C cc b off sc), .int .i64 a, .int .i64 value] w (VolAns w (touchVol x a value)) := by
 obtain ⟨i, er, hi, hp, hq0, hq1, hq2⟩ := regionOf_up hr
 have hi' : i < x.trusts.length := by rw [hfit.1]; exact hi
 have hup := upTo_mono hp.2.2.1 (i := i + 1) (j := x.counts.length) (by omega) (Nat.le_refl _)
 obtain ⟨j, rfl⟩ : ∃ j : Nat, a = j := ⟨a.toNat, by omega⟩
 have hj : j < x.cells.length := by have := hfit.2; omega
 obtain ⟨bT, oT, rfl, hbT, hcT⟩ := hB.at_ hi'
 obtain ⟨bC, oC, rfl, hbC, hcC⟩ := hC.at_ hj
 unfold touchVol
 rw [if_pos hr]
 simp only [er, Int.toNat_natCast]
 clear hq0 hq1 hq2 hup hp hfit hr
 have K0 := Lib.hid (show Kept w [(w.heap.size + 1, 45, zV), (w.heap.size, 45, (vX x A cap (some ⟨bT, oT, none⟩) tc (some ⟨bC, oC, none⟩) cc b off sc))] _ from (((Kept.refl w).put1 _ _ (vX x A cap (some ⟨bT, oT, none⟩) tc (some ⟨bC, oC, none⟩) cc b off sc) rfl).put1 _ _ zV (by simp)))
 have CO := Lib.hid (fun (u : World) (hb : Below w.heap.size w u) => l12Copy_calls x A cap _ tc _ cc b off sc u hx ((hA.below hb (Nat.le_refl _)).more hb.size) ((hB.below hb (Nat.le_refl _)).more hb.size) ((hC.below hb (Nat.le_refl _)).more hb.size) (Nat.lt_of_lt_of_le hbb hb.size) ((h0.below hb (Nat.le_refl _) hbb).more hb.size) ((h1.below hb (Nat.le_refl _) hbb).more hb.size))
 have hn : x.counts.length ≤ maxLen := by have := hx.1; unfold maxLen; omega
 have R0 := fun (u : World) (hb : Below w.heap.size w u) => specRegion_calls x.key (j : Int) A x.counts cap u hn hcap ((hA.below hb (Nat.le_refl _)).more hb.size)
 rw [er] at R0
 have R := Lib.hid R0
 have hd : decide ((i : Int) < 0) = false := decide_eq_false (by omega)
 have T0 := fun (u : World) (hb : Below w.heap.size w u) => specTouched_calls x.key (j : Int) (x.cells.getD j default).1 (x.cells.getD j default).2 value A x.counts cap (x.trusts.getD i default).clock (x.trusts.getD i default).epoch (x.trusts.getD i default).cursor (x.trusts.getD i default).read (x.trusts.getD i default).written (x.trusts.getD i default).nread (x.trusts.getD i default).nwritten (x.trusts.getD i default).failed u hn hcap ((hA.below hb (Nat.le_refl _)).more hb.size) ha
 rw [show (⟨(x.trusts.getD i default).clock, (x.trusts.getD i default).epoch, (x.trusts.getD i default).cursor, (x.trusts.getD i default).read, (x.trusts.getD i default).written, (x.trusts.getD i default).nread, (x.trusts.getD i default).nwritten, (x.trusts.getD i default).failed⟩ : Tru) = (x.trusts.getD i default) from rfl] at T0
 generalize touched x.key x.counts (x.trusts.getD i default) (j : Int) (x.cells.getD j default).1 (x.cells.getD j default).2 value = P at T0 ⊢
 obtain ⟨nt, nc, nr, ns⟩ := P
 simp only [] at T0 ⊢
 generalize (x.trusts.getD i default) = tt at hcT T0
 generalize (x.cells.getD j default) = ct at hcC T0
 have T := Lib.hid T0
 generalize hRR : (if ns = 1 then _ else _ : VolN × Int × Int) = RR
 have HRR := Lib.hid hRR
 clear hRR
 have hlt1 : (i : Int) < x.trusts.length := by omega
 have hlt2 : (j : Int) < x.cells.length := by omega
 have hi0 : (0 : Int) ≤ i := by omega
 have hj0 : (0 : Int) ≤ j := by omega
 have hsx := hx.2.1
 have hsy := hx.2.2.1
 clear hA hB hC h0 h1 hn R0 T0 er hi
 have HcT := Lib.hid hcT
 have HcC := Lib.hid hcC
 clear hcT hcC
 go_enter Tryz.func56, Tryz.ntmps56
 go_wp2_with fail
 refine (CO.out _ K0.out.1).mono ?_; rintro e u1 ⟨vv, rfl, hv, hb1⟩
 have hk1 := K0.out.below hb1
 obtain ⟨A', c', B', d', C', e', b', o', s', rfl, -⟩ := hv.reads
 obtain ⟨gt, rfl, hgt0, hgt1, -⟩ := hv.trustsGet (by omega)
 obtain ⟨gc, rfl, hgc0, hgc1, -⟩ := hv.cellsGet (by omega)
 have hsz : w.heap.size + 1 + 1 ≤ ((w.alloc (.cells (vX x A cap (some ⟨bT, oT, none⟩) tc (some ⟨bC, oC, none⟩) cc b off sc) 45)).alloc (.cells zV 45)).heap.size := by simp
 have hv1 := hv.mono hsz
 have hgt2 : w.heap.size + 1 + 1 ≤ gt := Nat.le_trans hsz hgt0
 have hgc2 : w.heap.size + 1 + 1 ≤ gc := Nat.le_trans hsz hgc0
 clear hgt0 hgc0 hsz
 have lo0 : w.heap.size + 1 < u1.heap.size := hk1.lt (x := (w.heap.size + 1, 45, zV)) (by simp)
 have lo1 : w.heap.size < u1.heap.size := hk1.lt (x := (w.heap.size, 45, (vX x A cap (some ⟨bT, oT, none⟩) tc (some ⟨bC, oC, none⟩) cc b off sc))) (by simp)
 have hk2 := hk1.put1 u1.heap.size 45 (vX x A' c' (some ⟨gt, 0, none⟩) d' (some ⟨gc, 0, none⟩) e' b' o' s') rfl
 have hv2 := hv1.below ((Below.refl _ _).alloc (Nat.le_refl _) (.cells (vX x A' c' (some ⟨gt, 0, none⟩) d' (some ⟨gc, 0, none⟩) e' b' o' s') 45))
 clear hb1 hk1 hv hv1 CO
 go_upto_region 2 with fail
 obtain ⟨kc0, kf0, kc1, kf1, kc2, kf2, -⟩ := hk2.rd
 have HV := Lib.hid hv2
 clear hv2
 go_wp2_with fail
 refine (R.out _ hk2.1).mono ?_; rintro e u2 ⟨rfl, hb2⟩
 have hk3 := hk2.below hb2
 have hv3 := HV.out.below hb2
 have lu2 : u1.heap.size < u2.heap.size := hk3.lt (x := (u1.heap.size, 45, (vX x A' c' (some ⟨gt, 0, none⟩) d' (some ⟨gc, 0, none⟩) e' b' o' s'))) (by simp)
 clear kc0 kf0 kc1 kf1 kc2 kf2 hb2 hk2 HV R
 obtain ⟨kc0, kf0, kc1, kf1, kc2, kf2, -⟩ := hk3.rd
 have HV := Lib.hid hv3
 clear hv3
 go_upto_region 5 with fail
 clear kc0 kf0 kc1 kf1 kc2 kf2
 refine wp_region_free [false, false, false, false, false, false, false, false, false, false, false, false, false, false, true, false, false, false, false, false, true, true, true, true, false, false] (ShM [(14, .tuple #[.agg (tR nt), .agg (cA nc.1 nc.2), .int .i64 nr, .int .i64 ns])] [20, 21]) (fun D γ u => MadeC u2 (u2.heap.size) [] [] [(20, 22, 67, (tR nt)), (21, 23, 55, (cA nc.1 nc.2))] D γ u) (by kernel_rfl) (by kernel_rfl) (fun γ => by kernel_rfl) (fun D γ γ' w ha h => h.loc ha) (ShM.inh _ _) (fun γ => MadeC.start (ResC.start (Kept.refl _) (fun x hx => by cases hx)) (Nat.le_refl _) (Nat.le_refl _) (fun x hx => by cases hx) (fun x hx => by cases hx)) (fun γ hγ => ?_)
 have g14 : γ 14 = .tuple #[.agg (tR nt), .agg (cA nc.1 nc.2), .int .i64 nr, .int .i64 ns] := hγ 14 rfl
 have g22 : γ 22 = undef := hγ 22 rfl
 obtain ⟨gT, g20⟩ : ∃ g : Nat, γ 20 = .pointer (some ⟨g, 0, none⟩) := hγ 20 rfl
 have g23 : γ 23 = undef := hγ 23 rfl
 obtain ⟨gC, g21⟩ : ∃ g : Nat, γ 21 = .pointer (some ⟨g, 0, none⟩) := hγ 21 rfl
 apply Exists.intro
 refine ⟨fun D => ?_, ?_, ?_⟩
 ·simp only [hushL, cond_true, cond_false, Nat.reduceAdd, g14, g22, g20, g23, g21]
  iterate 26 (first
   | go_big_quiet_skip
   | (go_big_quiet_want
      go_big_quiet_op
      first
       | go_big_quiet_on
       | (apply Exists.intro
          refine ⟨fun u hu => ?_, ?_⟩
          ·first
             | with_reducible rfl
             | (have hk9 := hk3.below hu.1.1.1; obtain ⟨kc0, kf0, kc1, kf1, kc2, kf2, -⟩ := hk9.rd; obtain ⟨tc0, tc1, tc2, tc3, tc4, tc5, tc6, tc7⟩ := HcT.out.below hk9.1 hbT; obtain ⟨cc0, cc1⟩ := HcC.out.below hk9.1 hbC; go_simp; first | done | with_reducible rfl)
          go_big_quiet_on)))
  exact wpQuiet_nil rfl
 ·simp only [freeOk, Nat.reduceAdd]
  refine ⟨fun D u hD hd hu => ?_, fun D u hD hd hu => ?_, fun D u hD hd hu => ?_, fun D u hD hd hu => ?_, fun D u hD hd hu => ?_, trivial⟩
  ·have hb := hu.1.1.1
   exact steps_call ((T.out u (hk3.below hb).1).mono fun e w' ⟨he, hb⟩ => ⟨_, he, rfl, hu.below hb 14 _ (by simp)⟩) rfl rfl rfl rfl (by kernel_rfl)
  ·exact steps_alloc (cs := zT) rfl (by kernel_rfl) ⟨⟨_, rfl⟩, hu.made (j := 22) (t := 67) (V := (tR nt)) (by simp) (by simp) (by simp) hD (by decide) rfl⟩
  ·exact steps_alloc (cs := zC) rfl (by kernel_rfl) ⟨⟨_, rfl⟩, hu.made (j := 23) (t := 55) (V := (cA nc.1 nc.2)) (by simp) (by simp) (by simp) hD (by decide) rfl⟩
  ·have dk := hd { on := 20, ground := Ground.data } (by simp) rfl rfl
   obtain ⟨g0, e1, z, hz, hzs⟩ := hu.box (k := 20) (j := 22) (t := 67) (V := (tR nt)) (by simp) dk
   obtain rfl : gT = g0 := by rw [g20] at e1; simpa using e1
   exact steps_store hz rfl rfl rfl (by kernel_rfl) hzs (by simp [Value.oneCell']) (fun w' hc hg => ⟨rfl, hu.filled (k := 20) (t := 67) (V := (tR nt)) (by simp) dk (by simp) (by simp) (by decide) e1 hg hc _⟩)
  ·have dk := hd { on := 21, ground := Ground.data } (by simp) rfl rfl
   obtain ⟨g0, e1, z, hz, hzs⟩ := hu.box (k := 21) (j := 23) (t := 55) (V := (cA nc.1 nc.2)) (by simp) dk
   obtain rfl : gC = g0 := by rw [g21] at e1; simpa using e1
   exact steps_store hz rfl rfl rfl (by kernel_rfl) hzs (by simp [Value.oneCell']) (fun w' hc hg => ⟨rfl, hu.filled (k := 21) (t := 55) (V := (cA nc.1 nc.2)) (by simp) dk (by simp) (by simp) (by decide) e1 hg hc _⟩)
 ·intro D uf hD hu
  have hb3 := hu.1.1.1
  have hf := hk3.below hb3
  obtain ⟨g0, e1, hge20, hgc20⟩ := hu.doneM (k := 20) (j := 22) (t := 67) (V := (tR nt)) (by simp) (hD 20 (by simp) rfl) (hD 22 (by simp) rfl)
  obtain rfl : gT = g0 := by rw [g20] at e1; simpa using e1
  clear e1
  have hfz1 := hf.more (Nat.le_trans hk3.1.size hge20) hgc20
  obtain ⟨g0, e1, hge21, hgc21⟩ := hu.doneM (k := 21) (j := 23) (t := 55) (V := (cA nc.1 nc.2)) (by simp) (hD 21 (by simp) rfl) (hD 23 (by simp) rfl)
  obtain rfl : gC = g0 := by rw [g21] at e1; simpa using e1
  clear e1
  have hfz2 := hfz1.more (Nat.le_trans hk3.1.size hge21) hgc21
  have hne20_21 : gT ≠ gC := fun e => hu.2.2.2.2.2.2.1 _ (show (20, 22, 67, (tR nt)) ∈ ([(20, 22, 67, (tR nt)), (21, 23, 55, (cA nc.1 nc.2))] : List Made) by simp) _ (show (21, 23, 55, (cA nc.1 nc.2)) ∈ ([(20, 22, 67, (tR nt)), (21, 23, 55, (cA nc.1 nc.2))] : List Made) by simp) (Nat.ne_of_beq_eq_false rfl) (hD 20 (by simp) rfl) (hD 21 (by simp) rfl) (by rw [g20, g21, e])
  clear hu hD
  obtain ⟨kc0, kf0, kc1, kf1, kc2, kf2, kc3, kf3, kc4, kf4, -⟩ := hfz2.rd
  have hvf := HV.out.below hb3
  clear HV
  by_cases hs : ns = 1
  ·subst hs
   have hRR := HRR.out
   rw [if_pos rfl] at hRR
   subst hRR
   have HV := Lib.hid hvf
   clear hvf
   go_wp2_with fail
   obtain ⟨w9, e9, ⟨d0, d1, d2, d3, d4, d5⟩, hb9, hg9⟩ := vol_end (w := w) (x0 := .int .i64 x.key) (x1 := .slice A' x.counts.length c') (x2 := .slice (some ⟨gt, 0, none⟩) x.trusts.length d') (x3 := .slice (some ⟨gc, 0, none⟩) x.cells.length e') (x4 := .slice (some ⟨b', o', none⟩) 2 s') (x5 := .int .i64 x.count) (hfz2.at_ (p := w.heap.size + 1) (t := 45) (cs := zV) (by simp)) hfz2.1 (by omega)
   rw [e9]
   exact bodyPost_ret (v := .tuple #[.agg (vX x A' c' (some ⟨gt, 0, none⟩) d' (some ⟨gc, 0, none⟩) e' b' o' s'), .int .i64 0, .int .i64 1]) (by simp [results, Tryz.results56, go_sem, d0, d1, d2, d3, d4, d5]) rfl ⟨_, rfl, (HV.out.out hg9 (by omega)).mono (by omega), hb9⟩
  ·have hRR := HRR.out
   rw [if_neg hs] at hRR
   subst hRR
   have hsb : (ns == (1 : Int)) = false := beq_eq_false_iff_ne.2 hs
   obtain ⟨g1, e1, -, -, hrow, hset⟩ := hvf.trustsGet (by omega)
   injection e1 with e1; injection e1 with e1; subst e1
   have hfz := row_frozen hrow
   obtain ⟨p0, p1, p2, p3, p4, p5, p6, p7⟩ := hrow.here hi'
   have HR := Lib.hid hrow
   have HS := Lib.hid hset
   clear hrow hset hvf
   go_upto_region 9 with fail
   have hr5 := HR.out.set_ hi' nt
   have hg5 := gb_set (gb_set (gb_set (gb_set (gb_set (gb_set (gb_set (gb_set (gb_refl uf (some gt)) (i * 8) (.int .i64 nt.clock)) (i * 8 + 1) (.int .i64 nt.epoch)) (i * 8 + 2) (.int .i64 nt.cursor)) (i * 8 + 3) (.int .i64 nt.read)) (i * 8 + 4) (.int .i64 nt.written)) (i * 8 + 5) (.int .i64 nt.nread)) (i * 8 + 6) (.int .i64 nt.nwritten)) (i * 8 + 7) (.bool nt.failed)
   generalize World.setCell _ _ _ = w5 at hr5 hg5 ⊢
   have hk5 := hfz2.grownO hg5 (fun k e => ⟨by injection e; omega, fun y hy => by simp at hy; injection e; rcases hy with rfl | rfl | rfl | rfl | rfl <;> (simp only []; omega)⟩)
   have hv5 := HS.out w5 (x.trusts.set i nt) (by simp) hg5 (by rw [List.length_set]; exact hr5)
   clear hr5 hg5 HR HS hfz p0 p1 p2 p3 p4 p5 p6 p7 hfz2 kc0 kf0 kc1 kf1 kc2 kf2 kc3 kf3 kc4 kf4
   obtain ⟨kc0, kf0, kc1, kf1, kc2, kf2, kc3, kf3, kc4, kf4, -⟩ := hk5.rd
   obtain ⟨g1, e1, -, -, hrow, hset⟩ := hv5.cellsGet (by simp only []; omega)
   injection e1 with e1; injection e1 with e1; subst e1
   have hfz := row_frozen hrow
   obtain ⟨p0, p1⟩ := hrow.here hj
   have HR := Lib.hid hrow
   have HS := Lib.hid hset
   clear hrow hset hv5
   go_upto_region 10 with fail
   have hr6 := HR.out.set_ hj nc
   have hg6 := gb_set (gb_set (gb_refl w5 (some gc)) (j * 2) (.int .i64 nc.1)) (j * 2 + 1) (.int .i64 nc.2)
   generalize World.setCell _ _ _ = w6 at hr6 hg6 ⊢
   have hk6 := hk5.grownO hg6 (fun k e => ⟨by injection e; omega, fun y hy => by simp at hy; injection e; rcases hy with rfl | rfl | rfl | rfl | rfl <;> (simp only []; omega)⟩)
   have hv6 := HS.out w6 (x.cells.set j nc) (by simp) hg6 (by rw [List.length_set]; exact hr6)
   clear hr6 hg6 HR HS hfz p0 p1 hk5 kc0 kf0 kc1 kf1 kc2 kf2 kc3 kf3 kc4 kf4
   obtain ⟨kc0, kf0, kc1, kf1, kc2, kf2, kc3, kf3, kc4, kf4, -⟩ := hk6.rd
   have HV := Lib.hid hv6
   clear hv6
   go_wp2_with fail
   obtain ⟨w9, e9, ⟨d0, d1, d2, d3, d4, d5⟩, hb9, hg9⟩ := vol_end (w := w) (x0 := .int .i64 x.key) (x1 := .slice A' x.counts.length c') (x2 := .slice (some ⟨gt, 0, none⟩) x.trusts.length d') (x3 := .slice (some ⟨gc, 0, none⟩) x.cells.length e') (x4 := .slice (some ⟨b', o', none⟩) 2 s') (x5 := .int .i64 x.count) (hk6.at_ (p := w.heap.size + 1) (t := 45) (cs := zV) (by simp)) hk6.1 (by omega)
   rw [e9]
   exact bodyPost_ret (v := .tuple #[.agg (vX x A' c' (some ⟨gt, 0, none⟩) d' (some ⟨gc, 0, none⟩) e' b' o' s'), .int .i64 nr, .int .i64 ns]) (by simp [results, Tryz.results56, go_sem, d0, d1, d2, d3, d4, d5]) rfl ⟨_, rfl, (HV.out.out hg9 (by omega)).mono (by omega), hb9⟩
theorem l12Touch_calls (x : VolN) (A : Option Addr) (cap : Nat) (B : Option Addr) (tc : Nat) (C : Option Addr) (cc : Nat) (b off sc : Nat) (w : World) (hx : x.Short) (hcap : x.counts.length ≤ cap) (hA : Ints w .i64 w.heap.size A x.counts) (hB : Trs w w.heap.size B x.trusts) (hC : Cls w w.heap.size C x.cells) (hbb : b < w.heap.size) (h0 : SlotAt w w.heap.size b off x.s0) (h1 : SlotAt w w.heap.size b (off + 4) x.s1) (hfit : x.Fit) (a value : Int) (ha : I64 a) :
    Calls Tryz.prog 56 #[.agg (vX x A cap B tc C cc b off sc), .int .i64 a, .int .i64 value] w (VolAns w (touchVol x a value)) := by
 by_cases hr : 0 ≤ regionOf x.key x.counts a
 ·exact l12Touch_some x A cap B tc C cc b off sc w hx hcap hA hB hC hbb h0 h1 hfit a value hr ha
 ·have e : touchVol x a value = (x, 0, 1) := by unfold touchVol; rw [if_neg hr]
  rw [e]
  exact l12Touch_none x A cap B tc C cc b off sc w hx hcap hA hB hC hbb h0 h1 a value hr
end Go.Proofs.YtjbnknccnhdapaaGreat.Mx

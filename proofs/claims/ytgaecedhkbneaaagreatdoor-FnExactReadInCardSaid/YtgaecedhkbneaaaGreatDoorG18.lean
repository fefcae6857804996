import Derived.Test.YtgaecedhkbneaaaGreatDoorG17
import Derived.Test.YtgaecedhkbneaaaGreatDoorG13
import Derived.Deep.MidRow
import Derived.Test.YtgaecedhkbneaaaGreatDoorG11
import Derived.Test.YtgaecedhkbneaaaGreatDoorG04
import Derived.Test.YtgaecedhkbneaaaGreatDoorG07
import Derived.Deep.AppendLies
import Derived.Deep.RegionHeld3
import Derived.Test.YtgaecedhkbneaaaGreatDoorG03
import Derived.Test.YtgaecedhkbneaaaGreatDoorG10
namespace Go.Proofs.YtgaecedhkbneaaaGreatDoor.Mx
open Go.ChangeShapes Go.WideShapes Go.ChangeAt Go.RowKit
set_option linter.unusedVariables false
theorem row_frozen {w : World} {base e size n c g : Nat} {xs : List Value} (h : w.ownsRow base e size (.slice (some ⟨g, 0, none⟩) n c) n xs) : ∀ k, w.frozen? ⟨g, k, none⟩ = false := by
  rcases h.2 with ⟨h0, _⟩ | ⟨g', cap, cur, e1, hb, hg, _⟩
  · cases h0
  · simp only [Value.slice.injEq, Option.some.injEq, Addr.mk.injEq, and_true, true_and] at e1
    obtain ⟨rfl, rfl⟩ := e1
    intro k
    exact (show CellsAt w g e cur from hg).frozen k
theorem TrRow.here {w : World} {base c g k : Nat} {L : List Tru} (h : TrRow w base (.slice (some ⟨g, 0, none⟩) L.length c) L) (hk : k < L.length) : TruAt w g (k * 8) (L.getD k default) := by
  obtain ⟨B, d, e, hT, _⟩ := h.reads truV_len
  obtain ⟨b, off, e2, _, h2⟩ := Trs.at_ hT hk
  simp only [Value.slice.injEq, true_and] at e
  rw [← e.1] at e2
  simp only [Option.some.injEq, Addr.mk.injEq, and_true] at e2
  obtain ⟨rfl, rfl⟩ := e2
  rwa [Nat.zero_add] at h2
theorem ClRow.here {w : World} {base c g k : Nat} {L : List Ce} (h : ClRow w base (.slice (some ⟨g, 0, none⟩) L.length c) L) (hk : k < L.length) : CelAt w g (k * 2) (L.getD k default) := by
  obtain ⟨B, d, e, hT, _⟩ := h.reads ceV_len
  obtain ⟨b, off, e2, _, h2⟩ := Cls.at_ hT hk
  simp only [Value.slice.injEq, true_and] at e
  rw [← e.1] at e2
  simp only [Option.some.injEq, Addr.mk.injEq, and_true] at e2
  obtain ⟨rfl, rfl⟩ := e2
  rwa [Nat.zero_add] at h2
theorem VolO.trustsGet {u : World} {base : Nat} {x : VolN} {A B C : Option Addr} {c d e b o sc n0 n1 n2 : Nat} (h : VolO u base x (.agg #[.int .i64 x.key, .slice A n0 c, .slice B n1 d, .slice C n2 e, .slice (some ⟨b, o, none⟩) 2 sc, .int .i64 x.count])) (hk : 0 < x.trusts.length) :
    ∃ g, B = some ⟨g, 0, none⟩ ∧ base ≤ g ∧ g < u.heap.size ∧ TrRow u base (.slice (some ⟨g, 0, none⟩) x.trusts.length d) x.trusts ∧
      ∀ (u' : World) (L' : List Tru), L'.length = x.trusts.length → u.grownBy u' (some g) → TrRow u' base (.slice (some ⟨g, 0, none⟩) L'.length d) L' → VolO u' base { x with trusts := L' } (.agg #[.int .i64 x.key, .slice A n0 c, .slice B n1 d, .slice C n2 e, .slice (some ⟨b, o, none⟩) 2 sc, .int .i64 x.count]) := by
  obtain ⟨A2, c2, B2, d2, C2, e2, b2, sc2, g, hv, hB, h1, h2, h3, h4⟩ := h.trustsAt hk
  have hd : d = d2 := by injection hv with hv; injection hv with hv; injection hv with _ hv; injection hv with _ hv; injection hv with hv1 hv; injection hv1
  have hB2 : B = B2 := by injection hv with hv; injection hv with hv; injection hv with _ hv; injection hv with _ hv; injection hv with hv1 hv; injection hv1
  subst hd
  exact ⟨g, hB2.trans hB, h1, h2, h3, h4⟩
theorem VolO.cellsGet {u : World} {base : Nat} {x : VolN} {A B C : Option Addr} {c d e b o sc n0 n1 n2 : Nat} (h : VolO u base x (.agg #[.int .i64 x.key, .slice A n0 c, .slice B n1 d, .slice C n2 e, .slice (some ⟨b, o, none⟩) 2 sc, .int .i64 x.count])) (hk : 0 < x.cells.length) :
    ∃ g, C = some ⟨g, 0, none⟩ ∧ base ≤ g ∧ g < u.heap.size ∧ ClRow u base (.slice (some ⟨g, 0, none⟩) x.cells.length e) x.cells ∧
      ∀ (u' : World) (L' : List Ce), L'.length = x.cells.length → u.grownBy u' (some g) → ClRow u' base (.slice (some ⟨g, 0, none⟩) L'.length e) L' → VolO u' base { x with cells := L' } (.agg #[.int .i64 x.key, .slice A n0 c, .slice B n1 d, .slice C n2 e, .slice (some ⟨b, o, none⟩) 2 sc, .int .i64 x.count]) := by
  obtain ⟨A2, c2, B2, d2, C2, e2, b2, sc2, g, hv, hB, h1, h2, h3, h4⟩ := h.cellsAt hk
  have hd : e = e2 := by injection hv with hv; injection hv with hv; injection hv with _ hv; injection hv with _ hv; injection hv with _ hv; injection hv with hv1 hv; injection hv1
  have hB2 : C = C2 := by injection hv with hv; injection hv with hv; injection hv with _ hv; injection hv with _ hv; injection hv with _ hv; injection hv with hv1 hv; injection hv1
  subst hd
  exact ⟨g, hB2.trans hB, h1, h2, h3, h4⟩
set_option maxRecDepth 20000 in
set_option maxHeartbeats 8000000 in
theorem l12Touch_some (x : VolN) (A : Option Addr) (cap : Nat) (B : Option Addr) (tc : Nat) (C : Option Addr) (cc : Nat) (b off sc : Nat) (w : World) (hx : x.Short) (hcap : x.counts.length ≤ cap) (hA : Ints w .i64 w.heap.size A x.counts) (hB : Trs w w.heap.size B x.trusts) (hC : Cls w w.heap.size C x.cells) (hbb : b < w.heap.size) (h0 : SlotAt w w.heap.size b off x.s0) (h1 : SlotAt w w.heap.size b (off + 4) x.s1) (hfit : x.Fit) (a value : Int) (hr : 0 ≤ regionOf x.key x.counts a) (ha : I64 a) :
    Calls Tryz.prog 42 #[.agg (vX x A cap B tc C cc b off sc), .int .i64 a, .int .i64 value] w (VolAns w (touchVol x a value)) := by
  obtain ⟨i, er, hi, hp, hq0, hq1, hq2⟩ := regionOf_up hr
  have hi' : i < x.trusts.length := by rw [hfit.1]; exact hi
  have hup := upTo_mono hp.2.2.1 (i := i + 1) (j := x.counts.length) (by omega) (Nat.le_refl _)
  obtain ⟨j, rfl⟩ : ∃ j : Nat, a = j := ⟨a.toNat, by omega⟩
  have hj : j < x.cells.length := by have := hfit.2; omega
  obtain ⟨bT, oT, rfl, hbT, hcT⟩ := hB.at_ hi'
  obtain ⟨bC, oC, rfl, hbC, hcC⟩ := hC.at_ hj
  unfold touchVol
  rw [if_pos hr]
  simp only [er, Int.toNat_natCast]
  clear hq0 hq1 hq2 hup hp hfit hr
  have K0 := Lib.hid (show Kept w [(w.heap.size + 1, 31, zV), (w.heap.size, 31, (vX x A cap (some ⟨bT, oT, none⟩) tc (some ⟨bC, oC, none⟩) cc b off sc))] _ from (((Kept.refl w).put1 _ _ (vX x A cap (some ⟨bT, oT, none⟩) tc (some ⟨bC, oC, none⟩) cc b off sc) rfl).put1 _ _ zV (by simp)))
  have CO := Lib.hid (fun (u : World) (hb : Below w.heap.size w u) => l12Copy_calls x A cap _ tc _ cc b off sc u hx ((hA.below hb (Nat.le_refl _)).more hb.size) ((hB.below hb (Nat.le_refl _)).more hb.size) ((hC.below hb (Nat.le_refl _)).more hb.size) (Nat.lt_of_lt_of_le hbb hb.size) ((h0.below hb (Nat.le_refl _) hbb).more hb.size) ((h1.below hb (Nat.le_refl _) hbb).more hb.size))
  have hn : x.counts.length ≤ maxLen := by have := hx.1; unfold maxLen; omega
  have R0 := fun (u : World) (hb : Below w.heap.size w u) => specRegion_calls x.key (j : Int) A x.counts cap u hn hcap ((hA.below hb (Nat.le_refl _)).more hb.size)
  rw [er] at R0
  have R := Lib.hid R0
  have hd : decide ((i : Int) < 0) = false := decide_eq_false (by omega)
  have T0 := fun (u : World) (hb : Below w.heap.size w u) => specTouched_calls x.key (j : Int) (x.cells.getD j default).1 (x.cells.getD j default).2 value A x.counts cap (x.trusts.getD i default).clock (x.trusts.getD i default).epoch (x.trusts.getD i default).cursor (x.trusts.getD i default).read (x.trusts.getD i default).written (x.trusts.getD i default).nread (x.trusts.getD i default).nwritten (x.trusts.getD i default).failed u hn hcap ((hA.below hb (Nat.le_refl _)).more hb.size) ha
  rw [show (⟨(x.trusts.getD i default).clock, (x.trusts.getD i default).epoch, (x.trusts.getD i default).cursor, (x.trusts.getD i default).read, (x.trusts.getD i default).written, (x.trusts.getD i default).nread, (x.trusts.getD i default).nwritten, (x.trusts.getD i default).failed⟩ : Tru) = (x.trusts.getD i default) from rfl] at T0
  generalize touched x.key x.counts (x.trusts.getD i default) (j : Int) (x.cells.getD j default).1 (x.cells.getD j default).2 value = P at T0 ⊢
  obtain ⟨nt, nc, nr, ns⟩ := P
  simp only [] at T0 ⊢
  generalize (x.trusts.getD i default) = tt at hcT T0
  generalize (x.cells.getD j default) = ct at hcC T0
  have T := Lib.hid T0
  generalize hRR : (if ns = 1 then _ else _ : VolN × Int × Int) = RR
  have HRR := Lib.hid hRR
  clear hRR
  have hlt1 : (i : Int) < x.trusts.length := by omega
  have hlt2 : (j : Int) < x.cells.length := by omega
  have hi0 : (0 : Int) ≤ i := by omega
  have hj0 : (0 : Int) ≤ j := by omega
  have hsx := hx.2.1
  have hsy := hx.2.2.1
  clear hA hB hC h0 h1 hn R0 T0 er hi
  have HcT := Lib.hid hcT
  have HcC := Lib.hid hcC
  clear hcT hcC
  go_enter Tryz.func42, Tryz.ntmps42
  go_wp2_with fail
  refine (CO.out _ K0.out.1).mono ?_; rintro e u1 ⟨vv, rfl, hv, hb1⟩
  have hk1 := K0.out.below hb1
  obtain ⟨A', c', B', d', C', e', b', o', s', rfl, -⟩ := hv.reads
  obtain ⟨gt, rfl, hgt0, hgt1, -⟩ := hv.trustsGet (by omega)
  obtain ⟨gc, rfl, hgc0, hgc1, -⟩ := hv.cellsGet (by omega)
  have hsz : w.heap.size + 1 + 1 ≤ ((w.alloc (.cells (vX x A cap (some ⟨bT, oT, none⟩) tc (some ⟨bC, oC, none⟩) cc b off sc) 31)).alloc (.cells zV 31)).heap.size := by simp
  have hv1 := hv.mono hsz
  have hgt2 : w.heap.size + 1 + 1 ≤ gt := Nat.le_trans hsz hgt0
  have hgc2 : w.heap.size + 1 + 1 ≤ gc := Nat.le_trans hsz hgc0
  clear hgt0 hgc0 hsz
  have lo0 : w.heap.size + 1 < u1.heap.size := hk1.lt (x := (w.heap.size + 1, 31, zV)) (by simp)
  have lo1 : w.heap.size < u1.heap.size := hk1.lt (x := (w.heap.size, 31, (vX x A cap (some ⟨bT, oT, none⟩) tc (some ⟨bC, oC, none⟩) cc b off sc))) (by simp)
  have hk2 := hk1.put1 u1.heap.size 31 (vX x A' c' (some ⟨gt, 0, none⟩) d' (some ⟨gc, 0, none⟩) e' b' o' s') rfl
  have hv2 := hv1.below ((Below.refl _ _).alloc (Nat.le_refl _) (.cells (vX x A' c' (some ⟨gt, 0, none⟩) d' (some ⟨gc, 0, none⟩) e' b' o' s') 31))
  clear hb1 hk1 hv hv1 CO
  go_upto_region 2 with fail
  obtain ⟨kc0, kf0, kc1, kf1, kc2, kf2, -⟩ := hk2.rd
  have HV := Lib.hid hv2
  clear hv2
  go_wp2_with fail
  refine (R.out _ hk2.1).mono ?_; rintro e u2 ⟨rfl, hb2⟩
  have hk3 := hk2.below hb2
  have hv3 := HV.out.below hb2
  have lu2 : u1.heap.size < u2.heap.size := hk3.lt (x := (u1.heap.size, 31, (vX x A' c' (some ⟨gt, 0, none⟩) d' (some ⟨gc, 0, none⟩) e' b' o' s'))) (by simp)
  clear kc0 kf0 kc1 kf1 kc2 kf2 hb2 hk2 HV R
  obtain ⟨kc0, kf0, kc1, kf1, kc2, kf2, -⟩ := hk3.rd
  have HV := Lib.hid hv3
  clear hv3
  go_upto_region 5 with fail
  clear kc0 kf0 kc1 kf1 kc2 kf2
  refine wp_region_free [false, false, false, false, false, false, false, false, false, false, false, false, false, false, true, false, false, false, false, false, true, true, true, true, false, false] (ShM [(14, .tuple #[.agg (tR nt), .agg (cA nc.1 nc.2), .int .i64 nr, .int .i64 ns])] [20, 21]) (fun D γ u => MadeC u2 (u2.heap.size) [] [] [(20, 22, 80, (tR nt)), (21, 23, 112, (cA nc.1 nc.2))] D γ u) (by kernel_rfl) (by kernel_rfl) (fun γ => by kernel_rfl) (fun D γ γ' w ha h => h.loc ha) (ShM.inh _ _) (fun γ => MadeC.start (ResC.start (Kept.refl _) (fun x hx => by cases hx)) (Nat.le_refl _) (Nat.le_refl _) (fun x hx => by cases hx) (fun x hx => by cases hx)) (fun γ hγ => ?_)
  have g14 : γ 14 = .tuple #[.agg (tR nt), .agg (cA nc.1 nc.2), .int .i64 nr, .int .i64 ns] := hγ 14 rfl
  have g22 : γ 22 = undef := hγ 22 rfl
  obtain ⟨gT, g20⟩ : ∃ g : Nat, γ 20 = .pointer (some ⟨g, 0, none⟩) := hγ 20 rfl
  have g23 : γ 23 = undef := hγ 23 rfl
  obtain ⟨gC, g21⟩ : ∃ g : Nat, γ 21 = .pointer (some ⟨g, 0, none⟩) := hγ 21 rfl
  apply Exists.intro
  refine ⟨fun D => ?_, ?_, ?_⟩
  · simp only [hushL, cond_true, cond_false, Nat.reduceAdd, g14, g22, g20, g23, g21]
    iterate 26 (first
      | go_big_quiet_skip
      | (go_big_quiet_want
         go_big_quiet_op
         first
           | go_big_quiet_on
           | (apply Exists.intro
              refine ⟨fun u hu => ?_, ?_⟩
              · first
                  | with_reducible rfl
                  | (have hk9 := hk3.below hu.1.1.1; obtain ⟨kc0, kf0, kc1, kf1, kc2, kf2, -⟩ := hk9.rd; obtain ⟨tc0, tc1, tc2, tc3, tc4, tc5, tc6, tc7⟩ := HcT.out.below hk9.1 hbT; obtain ⟨cc0, cc1⟩ := HcC.out.below hk9.1 hbC; go_simp; first | done | with_reducible rfl)
              go_big_quiet_on)))
    exact wpQuiet_nil rfl
  · simp only [freeOk, Nat.reduceAdd]
    refine ⟨fun D u hD hd hu => ?_, fun D u hD hd hu => ?_, fun D u hD hd hu => ?_, fun D u hD hd hu => ?_, fun D u hD hd hu => ?_, trivial⟩
    · have hb := hu.1.1.1
      exact steps_call ((T.out u (hk3.below hb).1).mono fun e w' ⟨he, hb⟩ => ⟨_, he, rfl, hu.below hb 14 _ (by simp)⟩) rfl rfl rfl rfl (by kernel_rfl)
    · exact steps_alloc (cs := zT) rfl (by kernel_rfl) ⟨⟨_, rfl⟩, hu.made (j := 22) (t := 80) (V := (tR nt)) (by simp) (by simp) (by simp) hD (by decide) rfl⟩
    · exact steps_alloc (cs := zC) rfl (by kernel_rfl) ⟨⟨_, rfl⟩, hu.made (j := 23) (t := 112) (V := (cA nc.1 nc.2)) (by simp) (by simp) (by simp) hD (by decide) rfl⟩
    · have dk := hd { on := 20, ground := Ground.data } (by simp) rfl rfl
      obtain ⟨g0, e1, z, hz, hzs⟩ := hu.box (k := 20) (j := 22) (t := 80) (V := (tR nt)) (by simp) dk
      obtain rfl : gT = g0 := by rw [g20] at e1; simpa using e1
      exact steps_store hz rfl rfl rfl (by kernel_rfl) hzs (by simp [Value.oneCell']) (fun w' hc hg => ⟨rfl, hu.filled (k := 20) (t := 80) (V := (tR nt)) (by simp) dk (by simp) (by simp) (by decide) e1 hg hc _⟩)
    · have dk := hd { on := 21, ground := Ground.data } (by simp) rfl rfl
      obtain ⟨g0, e1, z, hz, hzs⟩ := hu.box (k := 21) (j := 23) (t := 112) (V := (cA nc.1 nc.2)) (by simp) dk
      obtain rfl : gC = g0 := by rw [g21] at e1; simpa using e1
      exact steps_store hz rfl rfl rfl (by kernel_rfl) hzs (by simp [Value.oneCell']) (fun w' hc hg => ⟨rfl, hu.filled (k := 21) (t := 112) (V := (cA nc.1 nc.2)) (by simp) dk (by simp) (by simp) (by decide) e1 hg hc _⟩)
  · intro D uf hD hu
    have hb3 := hu.1.1.1
    have hf := hk3.below hb3
    obtain ⟨g0, e1, hge20, hgc20⟩ := hu.doneM (k := 20) (j := 22) (t := 80) (V := (tR nt)) (by simp) (hD 20 (by simp) rfl) (hD 22 (by simp) rfl)
    obtain rfl : gT = g0 := by rw [g20] at e1; simpa using e1
    clear e1
    have hfz1 := hf.more (Nat.le_trans hk3.1.size hge20) hgc20
    obtain ⟨g0, e1, hge21, hgc21⟩ := hu.doneM (k := 21) (j := 23) (t := 112) (V := (cA nc.1 nc.2)) (by simp) (hD 21 (by simp) rfl) (hD 23 (by simp) rfl)
    obtain rfl : gC = g0 := by rw [g21] at e1; simpa using e1
    clear e1
    have hfz2 := hfz1.more (Nat.le_trans hk3.1.size hge21) hgc21
    have hne20_21 : gT ≠ gC := fun e => hu.2.2.2.2.2.2.1 _ (show (20, 22, 80, (tR nt)) ∈ ([(20, 22, 80, (tR nt)), (21, 23, 112, (cA nc.1 nc.2))] : List Made) by simp) _ (show (21, 23, 112, (cA nc.1 nc.2)) ∈ ([(20, 22, 80, (tR nt)), (21, 23, 112, (cA nc.1 nc.2))] : List Made) by simp) (Nat.ne_of_beq_eq_false rfl) (hD 20 (by simp) rfl) (hD 21 (by simp) rfl) (by rw [g20, g21, e])
    clear hu hD
    obtain ⟨kc0, kf0, kc1, kf1, kc2, kf2, kc3, kf3, kc4, kf4, -⟩ := hfz2.rd
    have hvf := HV.out.below hb3
    clear HV
    by_cases hs : ns = 1
    · subst hs
      have hRR := HRR.out
      rw [if_pos rfl] at hRR
      subst hRR
      have HV := Lib.hid hvf
      clear hvf
      go_wp2_with fail
      obtain ⟨w9, e9, ⟨d0, d1, d2, d3, d4, d5⟩, hb9, hg9⟩ := vol_end (w := w) (x0 := .int .i64 x.key) (x1 := .slice A' x.counts.length c') (x2 := .slice (some ⟨gt, 0, none⟩) x.trusts.length d') (x3 := .slice (some ⟨gc, 0, none⟩) x.cells.length e') (x4 := .slice (some ⟨b', o', none⟩) 2 s') (x5 := .int .i64 x.count) (hfz2.at_ (p := w.heap.size + 1) (t := 31) (cs := zV) (by simp)) hfz2.1 (by omega)
      rw [e9]
      exact bodyPost_ret (v := .tuple #[.agg (vX x A' c' (some ⟨gt, 0, none⟩) d' (some ⟨gc, 0, none⟩) e' b' o' s'), .int .i64 0, .int .i64 1]) (by simp [results, Tryz.results42, go_sem, d0, d1, d2, d3, d4, d5]) rfl ⟨_, rfl, (HV.out.out hg9 (by omega)).mono (by omega), hb9⟩
    · have hRR := HRR.out
      rw [if_neg hs] at hRR
      subst hRR
      have hsb : (ns == (1 : Int)) = false := beq_eq_false_iff_ne.2 hs
      obtain ⟨g1, e1, -, -, hrow, hset⟩ := hvf.trustsGet (by omega)
      injection e1 with e1; injection e1 with e1; subst e1
      have hfz := row_frozen hrow
      obtain ⟨p0, p1, p2, p3, p4, p5, p6, p7⟩ := hrow.here hi'
      have HR := Lib.hid hrow
      have HS := Lib.hid hset
      clear hrow hset hvf
      go_upto_region 9 with fail
      have hr5 := HR.out.set_ hi' nt
      have hg5 := gb_set (gb_set (gb_set (gb_set (gb_set (gb_set (gb_set (gb_set (gb_refl uf (some gt)) (i * 8) (.int .i64 nt.clock)) (i * 8 + 1) (.int .i64 nt.epoch)) (i * 8 + 2) (.int .i64 nt.cursor)) (i * 8 + 3) (.int .i64 nt.read)) (i * 8 + 4) (.int .i64 nt.written)) (i * 8 + 5) (.int .i64 nt.nread)) (i * 8 + 6) (.int .i64 nt.nwritten)) (i * 8 + 7) (.bool nt.failed)
      generalize World.setCell _ _ _ = w5 at hr5 hg5 ⊢
      have hk5 := hfz2.grownO hg5 (fun k e => ⟨by injection e; omega, fun y hy => by simp at hy; injection e; rcases hy with rfl | rfl | rfl | rfl | rfl <;> (simp only []; omega)⟩)
      have hv5 := HS.out w5 (x.trusts.set i nt) (by simp) hg5 (by rw [List.length_set]; exact hr5)
      clear hr5 hg5 HR HS hfz p0 p1 p2 p3 p4 p5 p6 p7 hfz2 kc0 kf0 kc1 kf1 kc2 kf2 kc3 kf3 kc4 kf4
      obtain ⟨kc0, kf0, kc1, kf1, kc2, kf2, kc3, kf3, kc4, kf4, -⟩ := hk5.rd
      obtain ⟨g1, e1, -, -, hrow, hset⟩ := hv5.cellsGet (by simp only []; omega)
      injection e1 with e1; injection e1 with e1; subst e1
      have hfz := row_frozen hrow
      obtain ⟨p0, p1⟩ := hrow.here hj
      have HR := Lib.hid hrow
      have HS := Lib.hid hset
      clear hrow hset hv5
      go_upto_region 10 with fail
      have hr6 := HR.out.set_ hj nc
      have hg6 := gb_set (gb_set (gb_refl w5 (some gc)) (j * 2) (.int .i64 nc.1)) (j * 2 + 1) (.int .i64 nc.2)
      generalize World.setCell _ _ _ = w6 at hr6 hg6 ⊢
      have hk6 := hk5.grownO hg6 (fun k e => ⟨by injection e; omega, fun y hy => by simp at hy; injection e; rcases hy with rfl | rfl | rfl | rfl | rfl <;> (simp only []; omega)⟩)
      have hv6 := HS.out w6 (x.cells.set j nc) (by simp) hg6 (by rw [List.length_set]; exact hr6)
      clear hr6 hg6 HR HS hfz p0 p1 hk5 kc0 kf0 kc1 kf1 kc2 kf2 kc3 kf3 kc4 kf4
      obtain ⟨kc0, kf0, kc1, kf1, kc2, kf2, kc3, kf3, kc4, kf4, -⟩ := hk6.rd
      have HV := Lib.hid hv6
      clear hv6
      go_wp2_with fail
      obtain ⟨w9, e9, ⟨d0, d1, d2, d3, d4, d5⟩, hb9, hg9⟩ := vol_end (w := w) (x0 := .int .i64 x.key) (x1 := .slice A' x.counts.length c') (x2 := .slice (some ⟨gt, 0, none⟩) x.trusts.length d') (x3 := .slice (some ⟨gc, 0, none⟩) x.cells.length e') (x4 := .slice (some ⟨b', o', none⟩) 2 s') (x5 := .int .i64 x.count) (hk6.at_ (p := w.heap.size + 1) (t := 31) (cs := zV) (by simp)) hk6.1 (by omega)
      rw [e9]
      exact bodyPost_ret (v := .tuple #[.agg (vX x A' c' (some ⟨gt, 0, none⟩) d' (some ⟨gc, 0, none⟩) e' b' o' s'), .int .i64 nr, .int .i64 ns]) (by simp [results, Tryz.results42, go_sem, d0, d1, d2, d3, d4, d5]) rfl ⟨_, rfl, (HV.out.out hg9 (by omega)).mono (by omega), hb9⟩
theorem l12Touch_calls (x : VolN) (A : Option Addr) (cap : Nat) (B : Option Addr) (tc : Nat) (C : Option Addr) (cc : Nat) (b off sc : Nat) (w : World) (hx : x.Short) (hcap : x.counts.length ≤ cap) (hA : Ints w .i64 w.heap.size A x.counts) (hB : Trs w w.heap.size B x.trusts) (hC : Cls w w.heap.size C x.cells) (hbb : b < w.heap.size) (h0 : SlotAt w w.heap.size b off x.s0) (h1 : SlotAt w w.heap.size b (off + 4) x.s1) (hfit : x.Fit) (a value : Int) (ha : I64 a) :
    Calls Tryz.prog 42 #[.agg (vX x A cap B tc C cc b off sc), .int .i64 a, .int .i64 value] w (VolAns w (touchVol x a value)) := by
  by_cases hr : 0 ≤ regionOf x.key x.counts a
  · exact l12Touch_some x A cap B tc C cc b off sc w hx hcap hA hB hC hbb h0 h1 hfit a value hr ha
  · have e : touchVol x a value = (x, 0, 1) := by unfold touchVol; rw [if_neg hr]
    rw [e]
    exact l12Touch_none x A cap B tc C cc b off sc w hx hcap hA hB hC hbb h0 h1 a value hr
theorem getD_set_ {α : Type} (L : List α) (k i : Nat) (v d : α) : (L.set k v).getD i d = if k = i ∧ k < L.length then v else L.getD i d := by
  rw [List.getD_eq_getElem?_getD, List.getD_eq_getElem?_getD, List.getElem?_set]
  by_cases h : k = i
  · subst h
    by_cases h2 : k < L.length
    · simp [h2]
    · simp [h2]
  · simp [h]
open Go.ChangeShapes Go.WideShapes Go.ChangeAt Go.RowKit Go.Maps
theorem vol_put {w1 : World} {r : Nat} {t : TypeId} {x0 x1 x2 x3 x4 x5 y0 y1 y2 y3 y4 y5 : Value} (hk : CellsAt w1 r t #[y0, y1, y2, y3, y4, y5]) :
    CellsAt ((((((w1.setCell ⟨r, 0, none⟩ x0).setCell ⟨r, 1, none⟩ x1).setCell ⟨r, 2, none⟩ x2).setCell ⟨r, 3, none⟩ x3).setCell ⟨r, 4, none⟩ x4).setCell ⟨r, 5, none⟩ x5) r t #[x0, x1, x2, x3, x4, x5] ∧
    w1.grownBy ((((((w1.setCell ⟨r, 0, none⟩ x0).setCell ⟨r, 1, none⟩ x1).setCell ⟨r, 2, none⟩ x2).setCell ⟨r, 3, none⟩ x3).setCell ⟨r, 4, none⟩ x4).setCell ⟨r, 5, none⟩ x5) (some r) := by
  have h := (((((hk.set_ 0 x0).set_ 1 x1).set_ 2 x2).set_ 3 x3).set_ 4 x4).set_ 5 x5
  simp only [List.setIfInBounds_toArray, List.set_cons_zero, List.set_cons_succ] at h
  exact ⟨h, gb_set (gb_set (gb_set (gb_set (gb_set (gb_set (gb_refl w1 (some r)) 0 x0) 1 x1) 2 x2) 3 x3) 4 x4) 5 x5⟩
noncomputable def writeVol (x : VolN) (a value : Int) : VolN × Int × Int :=
  open Classical in if isVal value then touchVol x a value else (x, 0, 1)
set_option maxRecDepth 20000 in
set_option maxHeartbeats 4000000 in
theorem l12Write_calls (x : VolN) (A : Option Addr) (cap : Nat) (B : Option Addr) (tc : Nat) (C : Option Addr) (cc : Nat) (b off sc : Nat) (w : World) (hx : x.Short) (hcap : x.counts.length ≤ cap) (hA : Ints w .i64 w.heap.size A x.counts) (hB : Trs w w.heap.size B x.trusts) (hC : Cls w w.heap.size C x.cells) (hbb : b < w.heap.size) (h0 : SlotAt w w.heap.size b off x.s0) (h1 : SlotAt w w.heap.size b (off + 4) x.s1) (hfit : x.Fit) (a value : Int) (ha : I64 a) :
    Calls Tryz.prog 40 #[.agg (vX x A cap B tc C cc b off sc), .int .i64 a, .int .i64 value] w (VolAns w (writeVol x a value)) := by
  have K0 := Lib.hid (show Kept w [(w.heap.size + 1, 31, zV), (w.heap.size, 31, (vX x A cap B tc C cc b off sc))] _ from (((Kept.refl w).put1 _ _ (vX x A cap B tc C cc b off sc) rfl).put1 _ _ zV (by simp)))
  have CO := Lib.hid (fun (u : World) (hb : Below w.heap.size w u) => l12Copy_calls x A cap B tc C cc b off sc u hx ((hA.below hb (Nat.le_refl _)).more hb.size) ((hB.below hb (Nat.le_refl _)).more hb.size) ((hC.below hb (Nat.le_refl _)).more hb.size) (Nat.lt_of_lt_of_le hbb hb.size) ((h0.below hb (Nat.le_refl _) hbb).more hb.size) ((h1.below hb (Nat.le_refl _) hbb).more hb.size))
  have TO := Lib.hid (fun (u : World) (hb : Below w.heap.size w u) => l12Touch_calls x A cap B tc C cc b off sc u hx hcap ((hA.below hb (Nat.le_refl _)).more hb.size) ((hB.below hb (Nat.le_refl _)).more hb.size) ((hC.below hb (Nat.le_refl _)).more hb.size) (Nat.lt_of_lt_of_le hbb hb.size) ((h0.below hb (Nat.le_refl _) hbb).more hb.size) ((h1.below hb (Nat.le_refl _) hbb).more hb.size) hfit a value ha)
  clear hA hB hC h0 h1 hfit hbb ha
  unfold writeVol
  by_cases hv : isVal value
  · rw [if_pos hv]
    have V := Lib.hid (fun (u : World) => l2Value_yes value u hv)
    obtain ⟨⟨y, p, q⟩, hy⟩ : ∃ Y, Y = touchVol x a value := ⟨_, rfl⟩
    rw [← hy] at TO ⊢
    clear hy
    go_enter Tryz.func40, Tryz.ntmps40
    go_wp2_with fail
    refine (V.out _).mono ?_; rintro e w' ⟨rfl, rfl⟩
    obtain ⟨kc0, kf0, kc1, kf1, -⟩ := K0.out.rd
    go_wp2_with fail
    refine (TO.out _ K0.out.1).mono ?_; rintro e u1 ⟨cs, rfl, hv1, hb1⟩
    obtain ⟨A', c', B', d', C', e', b', o', s', e1, -⟩ := hv1.reads
    injection e1 with e1
    subst e1
    have hk1 := K0.out.below hb1
    have hv2 := hv1.mono (show w.heap.size + 1 + 1 ≤ _ by simp)
    have lo0 : w.heap.size + 1 < u1.heap.size := hk1.lt (x := (w.heap.size + 1, 31, zV)) (by simp)
    clear hb1 hv1 kc0 kf0 kc1 kf1 CO TO V
    obtain ⟨kc0, kf0, kc1, kf1, -⟩ := hk1.rd
    have HV := Lib.hid hv2
    clear hv2
    go_wp2_with fail
    obtain ⟨w9, e9, ⟨d0, d1, d2, d3, d4, d5⟩, hb9, hg9⟩ := vol_end (w := w) (x0 := .int .i64 y.key) (x1 := .slice A' y.counts.length c') (x2 := .slice B' y.trusts.length d') (x3 := .slice C' y.cells.length e') (x4 := .slice (some ⟨b', o', none⟩) 2 s') (x5 := .int .i64 y.count) (hk1.at_ (p := w.heap.size + 1) (t := 31) (cs := zV) (by simp)) hk1.1 (by omega)
    rw [e9]
    exact bodyPost_ret (v := .tuple #[.agg (vX y A' c' B' d' C' e' b' o' s'), .int .i64 p, .int .i64 q]) (by simp [results, Tryz.results40, go_sem, d0, d1, d2, d3, d4, d5]) rfl ⟨_, rfl, (HV.out.out hg9 (by omega)).mono (by omega), hb9⟩
  · rw [if_neg hv]
    have V := Lib.hid (fun (u : World) => l2Value_no value u hv)
    skip
    go_enter Tryz.func40, Tryz.ntmps40
    go_wp2_with fail
    refine (V.out _).mono ?_; rintro e w' ⟨rfl, rfl⟩
    obtain ⟨kc0, kf0, kc1, kf1, -⟩ := K0.out.rd
    go_wp2_with fail
    refine (CO.out _ K0.out.1).mono ?_; rintro e u1 ⟨vv, rfl, hv1, hb1⟩
    obtain ⟨A', c', B', d', C', e', b', o', s', e1, -⟩ := hv1.reads
    subst e1
    have hk1 := K0.out.below hb1
    have hv2 := hv1.mono (show w.heap.size + 1 + 1 ≤ _ by simp)
    have lo0 : w.heap.size + 1 < u1.heap.size := hk1.lt (x := (w.heap.size + 1, 31, zV)) (by simp)
    clear hb1 hv1 kc0 kf0 kc1 kf1 CO TO V
    obtain ⟨kc0, kf0, kc1, kf1, -⟩ := hk1.rd
    have HV := Lib.hid hv2
    clear hv2
    go_wp2_with fail
    obtain ⟨w9, e9, ⟨d0, d1, d2, d3, d4, d5⟩, hb9, hg9⟩ := vol_end (w := w) (x0 := .int .i64 x.key) (x1 := .slice A' x.counts.length c') (x2 := .slice B' x.trusts.length d') (x3 := .slice C' x.cells.length e') (x4 := .slice (some ⟨b', o', none⟩) 2 s') (x5 := .int .i64 x.count) (hk1.at_ (p := w.heap.size + 1) (t := 31) (cs := zV) (by simp)) hk1.1 (by omega)
    rw [e9]
    exact bodyPost_ret (v := .tuple #[.agg (vX x A' c' B' d' C' e' b' o' s'), .int .i64 0, .int .i64 1]) (by simp [results, Tryz.results40, go_sem, d0, d1, d2, d3, d4, d5]) rfl ⟨_, rfl, (HV.out.out hg9 (by omega)).mono (by omega), hb9⟩
theorem fine_four {x y z u : Int} (hx : 0 ≤ x) (hy : 0 ≤ y) (hz : 0 ≤ z) (hu : 0 ≤ u) : Fine [x, y, z, u] := by
  intro i hi
  match i, hi with
  | 0, _ => exact hx
  | 1, _ => exact hy
  | 2, _ => exact hz
  | 3, _ => exact hu
theorem addOf_sum {a b : Int} (ha : isSumP a) (hb : isSumP b) : isSumP (addOf a b) := by
  unfold isSumP at *
  unfold addOf
  rw [if_pos ⟨ha, hb⟩]; omega
theorem tagOf_sum {key a t v : Int} (hk : isKey key) (h : isTri a t v) : isSumP (tagOf key a t v) := by
  refine ⟨?_, (tagOf_bd key a t v).2⟩
  rw [tagOf_yes h]
  unfold isTri isAt isTm isVal at h
  exact mixOf_nat hk.1 hk.2 (fine_four (by omega) (by omega) (by omega) (by omega))
theorem hiddenOf_val {key a t v : Int} (hk : isKey key) (h : isTri a t v) : isVal (hiddenOf key a t v) := by
  have hs := streamOf_nat hk.1 hk.2 h.1.1 h.2.1.1
  unfold hiddenOf
  rw [turnOf_yes hs h.2.2]
  unfold isVal; omega
theorem shownOf_val {key a t v : Int} (hk : isKey key) (ha : isAt a) (h : isCell t v) : isVal (shownOf key a t v) := by
  have hs := streamOf_nat hk.1 hk.2 ha.1 h.1.1
  unfold shownOf
  rw [turnOf_yes hs h.2]
  unfold isVal; omega
theorem tripleIn_tag {key a t v : Int} (hk : isKey key) (ha : isAt a) (h : isCell t v) : isSumP (tagOf key (tripleIn a t v).1 (tripleIn a t v).2.1 (tripleIn a t v).2.2) := by
  have ht : isTri a t v := ⟨ha, h.1, h.2⟩
  rw [tripleIn_yes ht]; exact tagOf_sum hk ht
theorem cellOf_cell {key a t v : Int} (hk : isKey key) (ha : isAt a) (ht : isTm t) (hv : isVal v) : isCell (cellOf key a t v).1 (cellOf key a t v).2 := by
  have h : isTri a t v := ⟨ha, ht, hv⟩
  rw [cellOf_yes hk h]; exact ⟨ht, hiddenOf_val hk h⟩
theorem planOk_at {key : Int} {l : List Int} {a : Int} (hp : planOk key l) (h : 0 ≤ regionOf key l a) : isAt a := by
  obtain ⟨i, e, hi, -, h0, h1, h2⟩ := regionOf_up h
  have hm := upTo_mono hp.2.2.1 (i := i + 1) (j := l.length) (by omega) (Nat.le_refl _)
  have := hp.2.2.2
  unfold isAt; omega
theorem touched_right {key : Int} {l : List Int} {t : Tru} {a ct cv value : Int} (hp : planOk key l) (hr : 0 ≤ regionOf key l a) (ht : trustOk key l (regionOf key l a) t) (hc : isCell ct cv)
    (hk : (touched key l t a ct cv value).2.2.2 ≠ 1) : trustOk key l (regionOf key l a) (touched key l t a ct cv value).1 ∧ isCell (touched key l t a ct cv value).2.1.1 (touched key l t a ct cv value).2.1.2 := by
  unfold touched at hk ⊢
  split
  · rename_i hok
    split
    · exact ⟨ht, hc⟩
    · split
      · exact ⟨ht, hc⟩
      · split
        · exact ⟨ht, hc⟩
        · rename_i hf hcl hti
          have ha := planOk_at hp hr
          obtain ⟨p1, p2, p3, p4, p5, p6, p7, p8, p9, p10⟩ := ht
          have hv : isVal (if value = -1 then valueIn key a ct cv else value) := by
            split
            · rw [valueIn_yes hp.1 ha hc]; exact shownOf_val hp.1 ha hc
            · rcases hok.2.2.2 with h | h
              · exact absurd h ‹_›
              · exact h
          have htm : isTm (t.clock + 1) := by unfold isTm at p3 ⊢; omega
          have hcell := cellOf_cell hp.1 ha htm hv
          have hs1 := tripleIn_tag hp.1 ha hc
          have hs2 := tripleIn_tag hp.1 ha hcell
          refine ⟨?_, hcell⟩
          simp only []
          cases hb : behindB key l t.cursor a with
          | true =>
            have hcur : t.cursor ≠ 0 := by
              intro h0
              unfold behindB at hb
              simp only [Bool.and_eq_true, decide_eq_true_eq] at hb
              obtain ⟨i, e, hi, -, q0, q1, q2⟩ := regionOf_up hr
              rw [e, firstOf_yes hp hi, h0] at hb
              omega
            exact ⟨p1, p2, htm, p4, p5, fun h => absurd h hcur, p7, p8, addOf_sum p9 hs1, addOf_sum p10 hs2⟩
          | false => exact ⟨p1, p2, htm, p4, p5, p6, addOf_sum p7 hs1, addOf_sum p8 hs2, p9, p10⟩
  · rename_i hn
    rw [if_neg hn] at hk
    exact absurd rfl hk
def SlN.Inv (key : Int) (l : List Int) (s : SlN) : Prop := (s.cells = [] ∨ cellsOk key l s.cells) ∧ s.trusts.length ≤ 4 ∧ TrusI s.trusts ∧ I64 s.count ∧ I64 s.mac
def VolN.Inv (x : VolN) : Prop := planOk x.key x.counts ∧ trustsOk x.key x.counts x.trusts ∧ cellsOk x.key x.counts x.cells ∧ (0 ≤ x.count ∧ x.count ≤ 10000) ∧ x.s0.Inv x.key x.counts ∧ x.s1.Inv x.key x.counts
theorem cellsOk.len {key : Int} {l : List Int} {L : List Ce} (hp : planOk key l) (h : cellsOk key l L) : (L.length : Int) = upTo l l.length ∧ L.length ≤ 24 := by
  have e := h.2
  unfold sectorsOf at e
  rw [if_pos hp] at e
  have := hp.2.2.2
  exact ⟨e, by omega⟩
theorem SlN.Inv.fits {key : Int} {l : List Int} {s : SlN} (hp : planOk key l) (h : s.Inv key l) : s.Fits := by
  obtain ⟨h0, h1, h2, h3, h4⟩ := h
  refine ⟨by omega, ?_, h2, h3⟩
  rcases h0 with h0 | h0
  · rw [h0]; simp
  · have := (h0.len hp).2; omega
theorem VolN.Inv.short {x : VolN} (h : x.Inv) : x.Short := by
  obtain ⟨hp, ht, hc, hn, h0, h1⟩ := h
  have a := hp.2.1.2
  have b := ht.2.1
  have c := (hc.len hp).2
  have d := h0.fits hp
  have e := h1.fits hp
  exact ⟨by omega, by omega, by omega, d.1, d.2.1, e.1, e.2.1⟩
theorem VolN.Inv.fit {x : VolN} (h : x.Inv) : x.Fit := ⟨h.2.1.2.1, (h.2.2.1.len h.1).1⟩
theorem trustsOk_set {key : Int} {l : List Int} {L : List Tru} {r : Nat} {t : Tru} (h : trustsOk key l L) (ht : trustOk key l r t) : trustsOk key l (L.set r t) := by
  refine ⟨h.1, by rw [List.length_set]; exact h.2.1, fun i hi => ?_⟩
  rw [List.length_set] at hi
  rw [getD_set_]
  split
  · rename_i e; rw [← e.1]; exact ht
  · exact h.2.2 i hi
theorem cellsOk_set {key : Int} {l : List Int} {L : List Ce} {j : Nat} {c : Ce} (h : cellsOk key l L) (hc : isCell c.1 c.2) : cellsOk key l (L.set j c) := by
  refine ⟨fun i hi => ?_, by rw [List.length_set]; exact h.2⟩
  rw [List.length_set] at hi
  rw [getD_set_]
  split
  · exact hc
  · exact h.1 i hi
theorem VolN.Inv.put {x : VolN} (h : x.Inv) {r : Nat} {t : Tru} {j : Nat} {c : Ce} (ht : trustOk x.key x.counts r t) (hc : isCell c.1 c.2) : ({ x with trusts := x.trusts.set r t, cells := x.cells.set j c } : VolN).Inv :=
  ⟨h.1, trustsOk_set h.2.1 ht, cellsOk_set h.2.2.1 hc, h.2.2.2.1, h.2.2.2.2.1, h.2.2.2.2.2⟩
theorem touchVol_inv {x : VolN} (h : x.Inv) (a value : Int) : (touchVol x a value).1.Inv := by
  unfold touchVol
  split
  · rename_i hr
    split
    · exact h
    · rename_i hk
      have hr' := hr
      obtain ⟨i, e, hi, hp, h0, h1, h2⟩ := regionOf_up hr
      have hm := upTo_mono h.1.2.2.1 (i := i + 1) (j := x.counts.length) (by omega) (Nat.le_refl _)
      have hat : a.toNat < x.cells.length := by have := (h.2.2.1.len h.1).1; omega
      have ht := h.2.1.2.2 i (by rw [h.2.1.2.1]; exact hi)
      have hc := h.2.2.1.1 a.toNat hat
      have hR := touched_right h.1 hr (t := x.trusts.getD (regionOf x.key x.counts a).toNat default) (by rw [e, Int.toNat_natCast]; exact ht) hc hk
      exact h.put (by rw [Int.toNat_of_nonneg hr]; exact hR.1) hR.2
  · exact h
theorem writeVol_inv {x : VolN} (h : x.Inv) (a value : Int) : (writeVol x a value).1.Inv := by
  unfold writeVol
  split
  · exact touchVol_inv h a value
  · exact h
def VolN.toG (x : VolN) : VolG := ⟨x.key, x.counts, x.trusts, x.cells, [x.s0, x.s1], x.count⟩
def VolG.toN (x : VolG) : VolN := ⟨x.key, x.counts, x.trusts, x.cells, x.slots.getD 0 default, x.slots.getD 1 default, x.count⟩
def zeroG : VolG := ⟨0, [], [], [], [], 0⟩
def optG (o : Option VolN) : VolG := o.elim zeroG VolN.toG
def VolQ (u : World) (base : Nat) (o : Option VolN) (v : Value) : Prop := match o with | none => v = .agg #[.int .i64 0, .slice none 0 0, .slice none 0 0, .slice none 0 0, .slice none 0 0, .int .i64 0] | some x => VolO u base x v
theorem RdG.zero (w : World) (Bd : Nat) : RdG w Bd zeroG (.agg #[.int .i64 0, .slice none 0 0, .slice none 0 0, .slice none 0 0, .slice none 0 0, .int .i64 0]) := ⟨none, 0, none, 0, none, 0, none, 0, rfl, fun i hi => by simp [zeroG] at hi, Sls.nil, Sls.nil, fun i hi => by simp [zeroG] at hi, Nat.le_refl _, Nat.le_refl _⟩
theorem VolR.toG {w : World} {Bd : Nat} {x : VolN} {v : Value} (h : VolR w Bd x v) (hs : ∃ A c B d C e b o s, v = .agg #[.int .i64 x.key, .slice A x.counts.length c, .slice B x.trusts.length d, .slice C x.cells.length e, .slice (some ⟨b, o, none⟩) 2 s, .int .i64 x.count] ∧ 2 ≤ s) : RdG w Bd x.toG v := by
  obtain ⟨A, c, B, d, C, e, b, off, sc, rfl, h1, h2, h3, h4, h5, h6, h7⟩ := h
  obtain ⟨_, _, _, _, _, _, _, _, _, e1, h8⟩ := hs
  simp only [Value.agg.injEq, Array.mk.injEq, List.cons.injEq, Value.slice.injEq, true_and, and_true] at e1
  obtain ⟨-, -, -, -, rfl⟩ := e1
  refine ⟨A, c, B, d, C, e, _, sc, rfl, h1, h2, h3, fun i hi => ?_, h7, h8⟩
  simp only [VolN.toG, List.length_cons, List.length_nil] at hi
  obtain rfl | rfl : i = 0 ∨ i = 1 := by omega
  · exact ⟨b, off, rfl, h4, h5⟩
  · exact ⟨b, off, rfl, h4, h6⟩
theorem VolQ.reads {u : World} {base : Nat} {o : Option VolN} {v : Value} (h : VolQ u base o v) : RdG u u.heap.size (optG o) v := by
  cases o with
  | none => have e : v = .agg #[.int .i64 0, .slice none 0 0, .slice none 0 0, .slice none 0 0, .slice none 0 0, .int .i64 0] := h; subst e; exact RdG.zero _ _
  | some x =>
    refine VolR.toG (VolO.reads h) ?_
    obtain ⟨A, c, B, d, C, e, g, A0, c0, C0, d0, A1, c1, C1, d1, rfl, -⟩ := h
    exact ⟨A, c, B, d, C, e, g, 0, 2, rfl, Nat.le_refl _⟩
def Mid (lo hi : Nat) (u v : World) : Prop := v.os = u.os ∧ v.tape = u.tape ∧ v.output = u.output ∧ u.heap.size ≤ v.heap.size ∧ ∀ k, k < u.heap.size → (k < lo ∨ hi ≤ k) → v.heap[k]? = u.heap[k]?
theorem Mid.refl (lo hi : Nat) (u : World) : Mid lo hi u u := ⟨rfl, rfl, rfl, Nat.le_refl _, fun _ _ _ => rfl⟩
theorem Mid.trans {lo hi : Nat} {u v w : World} (h : Mid lo hi u v) (h' : Mid lo hi v w) : Mid lo hi u w :=
  ⟨h'.1.trans h.1, h'.2.1.trans h.2.1, h'.2.2.1.trans h.2.2.1, Nat.le_trans h.2.2.2.1 h'.2.2.2.1, fun k hk hr => (h'.2.2.2.2 k (Nat.lt_of_lt_of_le hk h.2.2.2.1) hr).trans (h.2.2.2.2 k hk hr)⟩
theorem Mid.of {lo hi : Nat} {u v : World} {r : Option Nat} (hg : u.grownBy v r) (h : ∀ k, r = some k → lo ≤ k ∧ k < hi) : Mid lo hi u v :=
  ⟨hg.os, hg.tape, hg.output, hg.size, fun k hk hr => hg.block k hk (fun e => by have := h k e.symm; omega)⟩
theorem Mid.of_below {lo hi : Nat} {u v : World} (h : Below u.heap.size u v) : Mid lo hi u v := ⟨h.os, h.tape, h.output, h.size, fun k hk _ => h.block k hk⟩
theorem Mid.below {lo hi : Nat} {u v : World} (h : Mid lo hi u v) (hl : lo ≤ u.heap.size) : Below lo u v := ⟨h.1, h.2.1, h.2.2.1, h.2.2.2.1, fun k hk => h.2.2.2.2 k (by omega) (.inl hk)⟩
theorem row_same {u u' : World} {base t size n : Nat} {v : Value} {xs : List Value} (h : u.ownsRow base t size v n xs) (hs : ∀ g, v.ownBlock = some g → u'.heap[g]? = u.heap[g]?) : u'.ownsRow base t size v n xs := by
  refine ⟨h.1, ?_⟩
  rcases h.2 with h0 | ⟨g, cap, cur, rfl, hb, hg, r⟩
  · exact .inl h0
  · exact .inr ⟨g, cap, cur, rfl, hb, (hs g rfl).trans hg, r⟩
theorem VolQ.below {u u' : World} {base : Nat} {o : Option VolN} {v : Value} (h : VolQ u base o v) (hb : Below u.heap.size u u') : VolQ u' base o v := by
  cases o with
  | none => exact h
  | some x => exact VolO.below h hb
end Go.Proofs.YtgaecedhkbneaaaGreatDoor.Mx

import Derived.Test.YtgaecedhkbneaaaGreatDoorH14
import Derived.Test.YtgaecedhkbneaaaGreatDoorH15
import Derived.Test.YtgaecedhkbneaaaGreatDoorH13
import Derived.Deep.MidRow
import Derived.Test.YtgaecedhkbneaaaGreatDoorH11
import Derived.Test.YtgaecedhkbneaaaGreatDoorH04
import Derived.Test.YtgaecedhkbneaaaGreatDoorH07
import Derived.Deep.AppendLies
import Derived.Deep.RegionHeld3
import Derived.Test.YtgaecedhkbneaaaGreatDoorH03
namespace Go.Proofs.YtgaecedhkbneaaaGreatDoor.Mx
open Go.ChangeShapes Go.WideShapes Go.ChangeAt Go.RowKit
set_option linter.unusedVariables false
noncomputable def scanned (key : Int) (l : List Int) (x : Int) (t : Tru) (ct cv : Int) : Tru × (Int × Int) × Int :=
  open Classical in
  if scanOk key l x t ct cv then
    if t.failed = true then (t, (ct, cv), 2)
    else if 100000 ≤ t.clock ∨ 1000 ≤ t.epoch then (t, (ct, cv), 3)
    else if t.clock < ct then (⟨t.clock, t.epoch, t.cursor, t.read, t.written, t.nread, t.nwritten, true⟩, (ct, cv), 4)
    else if t.cursor + 1 < l.getD x.toNat 0 then (scanMid key l x t ct cv, cellOf key (firstOf key l x + t.cursor) (t.clock + 1) (valueIn key (firstOf key l x + t.cursor) ct cv), 0)
    else ((verdictOf (scanMid key l x t ct cv)).1, cellOf key (firstOf key l x + t.cursor) (t.clock + 1) (valueIn key (firstOf key l x + t.cursor) ct cv), (verdictOf (scanMid key l x t ct cv)).2)
  else (zeroTru, (0, 0), 1)
theorem specScanned_calls (key x ct cv : Int) (A : Option Addr) (l : List Int) (cap : Nat) (t0 t1 t2 t3 t4 t5 t6 : Int) (t7 : Bool) (w : World) (hn : l.length ≤ maxLen) (hcap : l.length ≤ cap) (hA : Ints w .i64 w.heap.size A l) :
    Calls Tryz.prog 105 #[.agg (pA key A l.length cap), .int .i64 x, .agg (tA t0 t1 t2 t3 t4 t5 t6 t7), .agg (cA ct cv)] w fun e w' => e = .returned (.tuple #[.agg (tR ((scanned key l x ⟨t0, t1, t2, t3, t4, t5, t6, t7⟩ ct cv).1)), .agg (cA ((scanned key l x ⟨t0, t1, t2, t3, t4, t5, t6, t7⟩ ct cv).2.1.1) ((scanned key l x ⟨t0, t1, t2, t3, t4, t5, t6, t7⟩ ct cv).2.1.2)), .int .i64 (scanned key l x ⟨t0, t1, t2, t3, t4, t5, t6, t7⟩ ct cv).2.2]) ∧ Below w.heap.size w w' := by
  unfold scanned
  by_cases h : scanOk key l x ⟨t0, t1, t2, t3, t4, t5, t6, t7⟩ ct cv
  · rw [if_pos h]
    cases t7 with
    | true => rw [if_pos rfl]; exact specScanned_failed key x ct cv A l cap t0 t1 t2 t3 t4 t5 t6 w hn hcap hA h.1 h.2
    | false =>
      rw [if_neg (by simp)]
      by_cases h1 : 100000 ≤ t0 ∨ 1000 ≤ t1
      · rw [if_pos h1]; exact specScanned_spent key x ct cv A l cap t0 t1 t2 t3 t4 t5 t6 w hn hcap hA h.1 h.2 h1
      · rw [if_neg h1]
        have a0 : ¬ 100000 ≤ t0 := fun e => h1 (.inl e)
        have a1 : ¬ 1000 ≤ t1 := fun e => h1 (.inr e)
        by_cases h2 : t0 < ct
        · rw [if_pos h2]; exact specScanned_caught key x ct cv A l cap t0 t1 t2 t3 t4 t5 t6 w hn hcap hA h.1 h.2 a0 a1 h2
        · rw [if_neg h2]
          obtain ⟨r, rfl⟩ : ∃ r : Nat, x = r := ⟨x.toNat, by have := h.1.2.1; omega⟩
          rw [Int.toNat_natCast]
          by_cases h3 : t2 + 1 < l.getD r 0
          · rw [if_pos h3]; exact specScanned_on key ct cv r A l cap t0 t1 t2 t3 t4 t5 t6 w hn hcap hA h.1 h.2 a0 a1 h2 h3
          · rw [if_neg h3]; exact specScanned_end key ct cv r A l cap t0 t1 t2 t3 t4 t5 t6 w hn hcap hA h.1 h.2 a0 a1 h2 h3
  · rw [if_neg h]; exact specScanned_bad key x ct cv A l cap t0 t1 t2 t3 t4 t5 t6 t7 w hn hcap hA h
noncomputable def stepVol (x : VolN) (r : Int) : VolN × Int :=
  open Classical in
  if 0 ≤ firstOf x.key x.counts r then
    ({ x with trusts := x.trusts.set r.toNat (scanned x.key x.counts r (x.trusts.getD r.toNat default) (x.cells.getD (firstOf x.key x.counts r + (x.trusts.getD r.toNat default).cursor).toNat default).1 (x.cells.getD (firstOf x.key x.counts r + (x.trusts.getD r.toNat default).cursor).toNat default).2).1,
              cells := x.cells.set (firstOf x.key x.counts r + (x.trusts.getD r.toNat default).cursor).toNat (scanned x.key x.counts r (x.trusts.getD r.toNat default) (x.cells.getD (firstOf x.key x.counts r + (x.trusts.getD r.toNat default).cursor).toNat default).1 (x.cells.getD (firstOf x.key x.counts r + (x.trusts.getD r.toNat default).cursor).toNat default).2).2.1 },
      (scanned x.key x.counts r (x.trusts.getD r.toNat default) (x.cells.getD (firstOf x.key x.counts r + (x.trusts.getD r.toNat default).cursor).toNat default).1 (x.cells.getD (firstOf x.key x.counts r + (x.trusts.getD r.toNat default).cursor).toNat default).2).2.2)
  else (x, 1)
def VolAns1 (b : World) (r : VolN × Int) (e : Ending) (w' : World) : Prop := ∃ cs, e = .returned (.tuple #[.agg cs, .int .i64 r.2]) ∧ VolO w' b.heap.size r.1 (.agg cs) ∧ Below b.heap.size b w'
def VolN.CurOk (x : VolN) : Prop := ∀ i, i < x.counts.length → 0 ≤ (x.trusts.getD i default).cursor ∧ (x.trusts.getD i default).cursor < x.counts.getD i 0
set_option maxRecDepth 20000 in
set_option maxHeartbeats 4000000 in
theorem l12Step_none (x : VolN) (A : Option Addr) (cap : Nat) (B : Option Addr) (tc : Nat) (C : Option Addr) (cc : Nat) (b off sc : Nat) (w : World) (hx : x.Short) (hcap : x.counts.length ≤ cap) (hA : Ints w .i64 w.heap.size A x.counts) (hB : Trs w w.heap.size B x.trusts) (hC : Cls w w.heap.size C x.cells) (hbb : b < w.heap.size) (h0 : SlotAt w w.heap.size b off x.s0) (h1 : SlotAt w w.heap.size b (off + 4) x.s1) (r : Int) (hr : ¬ 0 ≤ firstOf x.key x.counts r) :
    Calls Tryz.prog 46 #[.agg (vX x A cap B tc C cc b off sc), .int .i64 r] w (VolAns1 w (x, 1)) := by
  have K0 := Lib.hid (show Kept w [(w.heap.size + 1, 31, zV), (w.heap.size, 31, (vX x A cap B tc C cc b off sc))] _ from (((Kept.refl w).put1 _ _ (vX x A cap B tc C cc b off sc) rfl).put1 _ _ zV (by simp)))
  have CO := Lib.hid (fun (u : World) (hb : Below w.heap.size w u) => l12Copy_calls x A cap B tc C cc b off sc u hx ((hA.below hb (Nat.le_refl _)).more hb.size) ((hB.below hb (Nat.le_refl _)).more hb.size) ((hC.below hb (Nat.le_refl _)).more hb.size) (Nat.lt_of_lt_of_le hbb hb.size) ((h0.below hb (Nat.le_refl _) hbb).more hb.size) ((h1.below hb (Nat.le_refl _) hbb).more hb.size))
  have hn : x.counts.length ≤ maxLen := by have := hx.1; unfold maxLen; omega
  have R := Lib.hid (fun (u : World) (hb : Below w.heap.size w u) => specFirst_calls x.key r A x.counts cap u hn hcap ((hA.below hb (Nat.le_refl _)).more hb.size))
  have hd : decide (firstOf x.key x.counts r < 0) = true := decide_eq_true (by omega)
  clear hA hB hC h0 h1 hn
  generalize firstOf x.key x.counts r = f at R hd
  clear hr
  go_enter Tryz.func46, Tryz.ntmps46
  go_wp2_with fail
  refine (CO.out _ K0.out.1).mono ?_; rintro e u1 ⟨vv, rfl, hv, hb1⟩
  have hk1 := K0.out.below hb1
  obtain ⟨A', c', B', d', C', e', b', o', s', rfl, -⟩ := hv.reads
  have hv1 := hv.mono (show w.heap.size + 1 + 1 ≤ _ by simp)
  have lo0 : w.heap.size + 1 < u1.heap.size := hk1.lt (x := (w.heap.size + 1, 31, zV)) (by simp)
  have lo1 : w.heap.size < u1.heap.size := hk1.lt (x := (w.heap.size, 31, (vX x A cap B tc C cc b off sc))) (by simp)
  have hk2 := hk1.put1 u1.heap.size 31 (vX x A' c' B' d' C' e' b' o' s') rfl
  have hv2 := hv1.below ((Below.refl _ _).alloc (Nat.le_refl _) (.cells (vX x A' c' B' d' C' e' b' o' s') 31))
  clear hb1 hk1 hv hv1 CO
  go_upto_region 2 with fail
  obtain ⟨kc0, kf0, kc1, kf1, kc2, kf2, -⟩ := hk2.rd
  have HV := Lib.hid hv2
  clear hv2
  go_wp2_with fail
  refine (R.out _ hk2.1).mono ?_; rintro e u2 ⟨rfl, hb2⟩
  have hk3 := hk2.below hb2
  have hv3 := HV.out.below hb2
  clear kc0 kf0 kc1 kf1 kc2 kf2 hb2 hk2 HV
  obtain ⟨kc0, kf0, kc1, kf1, kc2, kf2, -⟩ := hk3.rd
  have HV := Lib.hid hv3
  clear hv3
  go_wp2_with fail
  obtain ⟨w9, e9, ⟨d0, d1, d2, d3, d4, d5⟩, hb9, hg9⟩ := vol_end (w := w) (x0 := .int .i64 x.key) (x1 := .slice A' x.counts.length c') (x2 := .slice B' x.trusts.length d') (x3 := .slice C' x.cells.length e') (x4 := .slice (some ⟨b', o', none⟩) 2 s') (x5 := .int .i64 x.count) (hk3.at_ (p := w.heap.size + 1) (t := 31) (cs := zV) (by simp)) hk3.1 (by omega)
  rw [e9]
  exact bodyPost_ret (v := .tuple #[.agg (vX x A' c' B' d' C' e' b' o' s'), .int .i64 1]) (by simp [results, Tryz.results46, go_sem, d0, d1, d2, d3, d4, d5]) rfl ⟨_, rfl, (HV.out.out hg9 (by omega)).mono (by omega), hb9⟩
set_option maxRecDepth 20000 in
set_option maxHeartbeats 8000000 in
theorem l12Step_some (x : VolN) (A : Option Addr) (cap : Nat) (B : Option Addr) (tc : Nat) (C : Option Addr) (cc : Nat) (b off sc : Nat) (w : World) (hx : x.Short) (hcap : x.counts.length ≤ cap) (hA : Ints w .i64 w.heap.size A x.counts) (hB : Trs w w.heap.size B x.trusts) (hC : Cls w w.heap.size C x.cells) (hbb : b < w.heap.size) (h0 : SlotAt w w.heap.size b off x.s0) (h1 : SlotAt w w.heap.size b (off + 4) x.s1) (hfit : x.Fit) (hcur : x.CurOk) (r : Int) (hr : 0 ≤ firstOf x.key x.counts r) :
    Calls Tryz.prog 46 #[.agg (vX x A cap B tc C cc b off sc), .int .i64 r] w (VolAns1 w (stepVol x r)) := by
  have hpr : planOk x.key x.counts ∧ 0 ≤ r ∧ r < x.counts.length := by
    refine Classical.byContradiction fun h => ?_
    unfold firstOf at hr
    rw [if_neg h] at hr
    omega
  obtain ⟨i, rfl⟩ : ∃ i : Nat, r = i := ⟨r.toNat, by omega⟩
  have hp := hpr.1
  have hi : i < x.counts.length := by omega
  have hi' : i < x.trusts.length := by rw [hfit.1]; exact hi
  have er := firstOf_yes hp hi
  have hup := upTo_mono hp.2.2.1 (i := i + 1) (j := x.counts.length) (by omega) (Nat.le_refl _)
  have hub := upTo_bd hp.2.2.1 (k := i) (by omega)
  have hus := upTo_succ x.counts hi
  have huc := hcur i hi
  have hu4 := hp.2.2.2
  unfold stepVol
  rw [if_pos hr]
  simp only [er, Int.toNat_natCast]
  have R0 := fun (u : World) (hb : Below w.heap.size w u) => specFirst_calls x.key (i : Int) A x.counts cap u (by have := hx.1; unfold maxLen; omega) hcap ((hA.below hb (Nat.le_refl _)).more hb.size)
  rw [er] at R0
  generalize hf : upTo x.counts i = f at R0 hub hus ⊢
  obtain ⟨j, hjj⟩ : ∃ j : Nat, f + (x.trusts.getD i default).cursor = j := ⟨(f + (x.trusts.getD i default).cursor).toNat, by omega⟩
  have hj : j < x.cells.length := by have := hfit.2; omega
  have hat : IntKind.i64.wrap (f + (x.trusts.getD i default).cursor) = (j : Int) := by rw [hjj]; exact IntWalk.i64_in _ (by omega)
  simp only [hjj, Int.toNat_natCast]
  obtain ⟨bT, oT, rfl, hbT, hcT⟩ := hB.at_ hi'
  obtain ⟨bC, oC, rfl, hbC, hcC⟩ := hC.at_ hj
  have K0 := Lib.hid (show Kept w [(w.heap.size + 1, 31, zV), (w.heap.size, 31, (vX x A cap (some ⟨bT, oT, none⟩) tc (some ⟨bC, oC, none⟩) cc b off sc))] _ from (((Kept.refl w).put1 _ _ (vX x A cap (some ⟨bT, oT, none⟩) tc (some ⟨bC, oC, none⟩) cc b off sc) rfl).put1 _ _ zV (by simp)))
  have CO := Lib.hid (fun (u : World) (hb : Below w.heap.size w u) => l12Copy_calls x A cap _ tc _ cc b off sc u hx ((hA.below hb (Nat.le_refl _)).more hb.size) ((hB.below hb (Nat.le_refl _)).more hb.size) ((hC.below hb (Nat.le_refl _)).more hb.size) (Nat.lt_of_lt_of_le hbb hb.size) ((h0.below hb (Nat.le_refl _) hbb).more hb.size) ((h1.below hb (Nat.le_refl _) hbb).more hb.size))
  have hn : x.counts.length ≤ maxLen := by have := hx.1; unfold maxLen; omega
  have R := Lib.hid R0
  have hd : decide (f < 0) = false := decide_eq_false (by omega)
  have T0 := fun (u : World) (hb : Below w.heap.size w u) => specScanned_calls x.key (i : Int) (x.cells.getD j default).1 (x.cells.getD j default).2 A x.counts cap (x.trusts.getD i default).clock (x.trusts.getD i default).epoch (x.trusts.getD i default).cursor (x.trusts.getD i default).read (x.trusts.getD i default).written (x.trusts.getD i default).nread (x.trusts.getD i default).nwritten (x.trusts.getD i default).failed u hn hcap ((hA.below hb (Nat.le_refl _)).more hb.size)
  rw [show (⟨(x.trusts.getD i default).clock, (x.trusts.getD i default).epoch, (x.trusts.getD i default).cursor, (x.trusts.getD i default).read, (x.trusts.getD i default).written, (x.trusts.getD i default).nread, (x.trusts.getD i default).nwritten, (x.trusts.getD i default).failed⟩ : Tru) = (x.trusts.getD i default) from rfl] at T0
  generalize scanned x.key x.counts (i : Int) (x.trusts.getD i default) (x.cells.getD j default).1 (x.cells.getD j default).2 = P at T0 ⊢
  obtain ⟨nt, nc, ns⟩ := P
  simp only [] at T0 ⊢
  clear hjj huc hcur
  generalize (x.trusts.getD i default) = tt at hcT T0 hat
  generalize (x.cells.getD j default) = ct at hcC T0
  have T := Lib.hid T0
  have hlt1 : (i : Int) < x.trusts.length := by omega
  have hlt2 : (j : Int) < x.cells.length := by omega
  have hi0 : (0 : Int) ≤ i := by omega
  have hj0 : (0 : Int) ≤ j := by omega
  have hsx := hx.2.1
  have hsy := hx.2.2.1
  clear hA hB hC h0 h1 hn R0 T0 er hi hup hub hus hu4 hp hpr hr hfit hf
  have HcT := Lib.hid hcT
  have HcC := Lib.hid hcC
  clear hcT hcC
  go_enter Tryz.func46, Tryz.ntmps46
  go_wp2_with fail
  refine (CO.out _ K0.out.1).mono ?_; rintro e u1 ⟨vv, rfl, hv, hb1⟩
  have hk1 := K0.out.below hb1
  obtain ⟨A', c', B', d', C', e', b', o', s', rfl, -⟩ := hv.reads
  obtain ⟨gt, rfl, hgt0, hgt1, -⟩ := hv.trustsGet (by omega)
  obtain ⟨gc, rfl, hgc0, hgc1, -⟩ := hv.cellsGet (by omega)
  have hsz : w.heap.size + 1 + 1 ≤ ((w.alloc (.cells (vX x A cap (some ⟨bT, oT, none⟩) tc (some ⟨bC, oC, none⟩) cc b off sc) 31)).alloc (.cells zV 31)).heap.size := by simp
  have hv1 := hv.mono hsz
  have hgt2 : w.heap.size + 1 + 1 ≤ gt := Nat.le_trans hsz hgt0
  have hgc2 : w.heap.size + 1 + 1 ≤ gc := Nat.le_trans hsz hgc0
  clear hgt0 hgc0 hsz
  have lo0 : w.heap.size + 1 < u1.heap.size := hk1.lt (x := (w.heap.size + 1, 31, zV)) (by simp)
  have lo1 : w.heap.size < u1.heap.size := hk1.lt (x := (w.heap.size, 31, (vX x A cap (some ⟨bT, oT, none⟩) tc (some ⟨bC, oC, none⟩) cc b off sc))) (by simp)
  have hk2 := hk1.put1 u1.heap.size 31 (vX x A' c' (some ⟨gt, 0, none⟩) d' (some ⟨gc, 0, none⟩) e' b' o' s') rfl
  have hv2 := hv1.below ((Below.refl _ _).alloc (Nat.le_refl _) (.cells (vX x A' c' (some ⟨gt, 0, none⟩) d' (some ⟨gc, 0, none⟩) e' b' o' s') 31))
  clear hb1 hk1 hv hv1 CO
  go_upto_region 2 with fail
  obtain ⟨kc0, kf0, kc1, kf1, kc2, kf2, -⟩ := hk2.rd
  have HV := Lib.hid hv2
  clear hv2
  go_wp2_with fail
  refine (R.out _ hk2.1).mono ?_; rintro e u2 ⟨rfl, hb2⟩
  have hk3 := hk2.below hb2
  have hv3 := HV.out.below hb2
  have lu2 : u1.heap.size < u2.heap.size := hk3.lt (x := (u1.heap.size, 31, (vX x A' c' (some ⟨gt, 0, none⟩) d' (some ⟨gc, 0, none⟩) e' b' o' s'))) (by simp)
  clear kc0 kf0 kc1 kf1 kc2 kf2 hb2 hk2 HV R
  obtain ⟨kc0, kf0, kc1, kf1, kc2, kf2, -⟩ := hk3.rd
  have HV := Lib.hid hv3
  clear hv3
  obtain ⟨tc0, tc1, tc2, tc3, tc4, tc5, tc6, tc7⟩ := HcT.out.below hk3.1 hbT
  go_upto_region 6 with fail
  clear kc0 kf0 kc1 kf1 kc2 kf2 tc0 tc1 tc2 tc3 tc4 tc5 tc6 tc7
  refine wp_region_free [false, false, false, false, false, false, false, false, false, false, false, false, false, true, false, false, false, false, true, true, true, true, false] (ShM [(13, .tuple #[.agg (tR nt), .agg (cA nc.1 nc.2), .int .i64 ns])] [18, 19]) (fun D γ u => MadeC u2 (u2.heap.size) [] [] [(18, 20, 80, (tR nt)), (19, 21, 112, (cA nc.1 nc.2))] D γ u) (by kernel_rfl) (by kernel_rfl) (fun γ => by kernel_rfl) (fun D γ γ' w ha h => h.loc ha) (ShM.inh _ _) (fun γ => MadeC.start (ResC.start (Kept.refl _) (fun x hx => by cases hx)) (Nat.le_refl _) (Nat.le_refl _) (fun x hx => by cases hx) (fun x hx => by cases hx)) (fun γ hγ => ?_)
  have g13 : γ 13 = .tuple #[.agg (tR nt), .agg (cA nc.1 nc.2), .int .i64 ns] := hγ 13 rfl
  have g20 : γ 20 = undef := hγ 20 rfl
  obtain ⟨gT, g18⟩ : ∃ g : Nat, γ 18 = .pointer (some ⟨g, 0, none⟩) := hγ 18 rfl
  have g21 : γ 21 = undef := hγ 21 rfl
  obtain ⟨gC, g19⟩ : ∃ g : Nat, γ 19 = .pointer (some ⟨g, 0, none⟩) := hγ 19 rfl
  apply Exists.intro
  refine ⟨fun D => ?_, ?_, ?_⟩
  · simp only [hushL, cond_true, cond_false, Nat.reduceAdd, g13, g20, g18, g21, g19]
    iterate 23 (first
      | go_big_quiet_skip
      | (go_big_quiet_want
         go_big_quiet_op
         first
           | go_big_quiet_on
           | (apply Exists.intro
              refine ⟨fun u hu => ?_, ?_⟩
              · first
                  | with_reducible rfl
                  | (have hk9 := hk3.below hu.1.1.1; obtain ⟨kc0, kf0, kc1, kf1, kc2, kf2, -⟩ := hk9.rd; obtain ⟨tc0, tc1, tc2, tc3, tc4, tc5, tc6, tc7⟩ := HcT.out.below hk9.1 hbT; obtain ⟨cc0, cc1⟩ := HcC.out.below hk9.1 hbC; go_simp; first | done | with_reducible rfl)
              go_big_quiet_on)))
    exact wpQuiet_nil rfl
  · simp only [freeOk, Nat.reduceAdd]
    refine ⟨fun D u hD hd hu => ?_, fun D u hD hd hu => ?_, fun D u hD hd hu => ?_, fun D u hD hd hu => ?_, fun D u hD hd hu => ?_, trivial⟩
    · have hb := hu.1.1.1
      exact steps_call ((T.out u (hk3.below hb).1).mono fun e w' ⟨he, hb⟩ => ⟨_, he, rfl, hu.below hb 13 _ (by simp)⟩) rfl rfl rfl rfl (by kernel_rfl)
    · exact steps_alloc (cs := zT) rfl (by kernel_rfl) ⟨⟨_, rfl⟩, hu.made (j := 20) (t := 80) (V := (tR nt)) (by simp) (by simp) (by simp) hD (by decide) rfl⟩
    · exact steps_alloc (cs := zC) rfl (by kernel_rfl) ⟨⟨_, rfl⟩, hu.made (j := 21) (t := 112) (V := (cA nc.1 nc.2)) (by simp) (by simp) (by simp) hD (by decide) rfl⟩
    · have dk := hd { on := 18, ground := Ground.data } (by simp) rfl rfl
      obtain ⟨g0, e1, z, hz, hzs⟩ := hu.box (k := 18) (j := 20) (t := 80) (V := (tR nt)) (by simp) dk
      obtain rfl : gT = g0 := by rw [g18] at e1; simpa using e1
      exact steps_store hz rfl rfl rfl (by kernel_rfl) hzs (by simp [Value.oneCell']) (fun w' hc hg => ⟨rfl, hu.filled (k := 18) (t := 80) (V := (tR nt)) (by simp) dk (by simp) (by simp) (by decide) e1 hg hc _⟩)
    · have dk := hd { on := 19, ground := Ground.data } (by simp) rfl rfl
      obtain ⟨g0, e1, z, hz, hzs⟩ := hu.box (k := 19) (j := 21) (t := 112) (V := (cA nc.1 nc.2)) (by simp) dk
      obtain rfl : gC = g0 := by rw [g19] at e1; simpa using e1
      exact steps_store hz rfl rfl rfl (by kernel_rfl) hzs (by simp [Value.oneCell']) (fun w' hc hg => ⟨rfl, hu.filled (k := 19) (t := 112) (V := (cA nc.1 nc.2)) (by simp) dk (by simp) (by simp) (by decide) e1 hg hc _⟩)
  · intro D uf hD hu
    have hb3 := hu.1.1.1
    have hf := hk3.below hb3
    obtain ⟨g0, e1, hge18, hgc18⟩ := hu.doneM (k := 18) (j := 20) (t := 80) (V := (tR nt)) (by simp) (hD 18 (by simp) rfl) (hD 20 (by simp) rfl)
    obtain rfl : gT = g0 := by rw [g18] at e1; simpa using e1
    clear e1
    have hfz1 := hf.more (Nat.le_trans hk3.1.size hge18) hgc18
    obtain ⟨g0, e1, hge19, hgc19⟩ := hu.doneM (k := 19) (j := 21) (t := 112) (V := (cA nc.1 nc.2)) (by simp) (hD 19 (by simp) rfl) (hD 21 (by simp) rfl)
    obtain rfl : gC = g0 := by rw [g19] at e1; simpa using e1
    clear e1
    have hfz2 := hfz1.more (Nat.le_trans hk3.1.size hge19) hgc19
    have hne18_19 : gT ≠ gC := fun e => hu.2.2.2.2.2.2.1 _ (show (18, 20, 80, (tR nt)) ∈ ([(18, 20, 80, (tR nt)), (19, 21, 112, (cA nc.1 nc.2))] : List Made) by simp) _ (show (19, 21, 112, (cA nc.1 nc.2)) ∈ ([(18, 20, 80, (tR nt)), (19, 21, 112, (cA nc.1 nc.2))] : List Made) by simp) (Nat.ne_of_beq_eq_false rfl) (hD 18 (by simp) rfl) (hD 19 (by simp) rfl) (by rw [g18, g19, e])
    clear hu hD
    obtain ⟨kc0, kf0, kc1, kf1, kc2, kf2, kc3, kf3, kc4, kf4, -⟩ := hfz2.rd
    have hvf := HV.out.below hb3
    clear HV
    obtain ⟨g1, e1, -, -, hrow, hset⟩ := hvf.trustsGet (by omega)
    injection e1 with e1; injection e1 with e1; subst e1
    have hfz := row_frozen hrow
    obtain ⟨p0, p1, p2, p3, p4, p5, p6, p7⟩ := hrow.here hi'
    have HR := Lib.hid hrow
    have HS := Lib.hid hset
    clear hrow hset hvf
    go_upto_region 8 with fail
    have hr5 := HR.out.set_ hi' nt
    have hg5 := gb_set (gb_set (gb_set (gb_set (gb_set (gb_set (gb_set (gb_set (gb_refl uf (some gt)) (i * 8) (.int .i64 nt.clock)) (i * 8 + 1) (.int .i64 nt.epoch)) (i * 8 + 2) (.int .i64 nt.cursor)) (i * 8 + 3) (.int .i64 nt.read)) (i * 8 + 4) (.int .i64 nt.written)) (i * 8 + 5) (.int .i64 nt.nread)) (i * 8 + 6) (.int .i64 nt.nwritten)) (i * 8 + 7) (.bool nt.failed)
    generalize World.setCell _ _ _ = w5 at hr5 hg5 ⊢
    have hk5 := hfz2.grownO hg5 (fun k e => ⟨by injection e; omega, fun y hy => by simp at hy; injection e; rcases hy with rfl | rfl | rfl | rfl | rfl <;> (simp only []; omega)⟩)
    have hv5 := HS.out w5 (x.trusts.set i nt) (by simp) hg5 (by rw [List.length_set]; exact hr5)
    clear hr5 hg5 HR HS hfz p0 p1 p2 p3 p4 p5 p6 p7 hfz2 kc0 kf0 kc1 kf1 kc2 kf2 kc3 kf3 kc4 kf4
    obtain ⟨kc0, kf0, kc1, kf1, kc2, kf2, kc3, kf3, kc4, kf4, -⟩ := hk5.rd
    obtain ⟨g1, e1, -, -, hrow, hset⟩ := hv5.cellsGet (by simp only []; omega)
    injection e1 with e1; injection e1 with e1; subst e1
    have hfz := row_frozen hrow
    obtain ⟨p0, p1⟩ := hrow.here hj
    have HR := Lib.hid hrow
    have HS := Lib.hid hset
    clear hrow hset hv5
    go_upto_region 9 with fail
    have hr6 := HR.out.set_ hj nc
    have hg6 := gb_set (gb_set (gb_refl w5 (some gc)) (j * 2) (.int .i64 nc.1)) (j * 2 + 1) (.int .i64 nc.2)
    generalize World.setCell _ _ _ = w6 at hr6 hg6 ⊢
    have hk6 := hk5.grownO hg6 (fun k e => ⟨by injection e; omega, fun y hy => by simp at hy; injection e; rcases hy with rfl | rfl | rfl | rfl | rfl <;> (simp only []; omega)⟩)
    have hv6 := HS.out w6 (x.cells.set j nc) (by simp) hg6 (by rw [List.length_set]; exact hr6)
    clear hr6 hg6 HR HS hfz p0 p1 hk5 kc0 kf0 kc1 kf1 kc2 kf2 kc3 kf3 kc4 kf4
    obtain ⟨kc0, kf0, kc1, kf1, kc2, kf2, kc3, kf3, kc4, kf4, -⟩ := hk6.rd
    have HV := Lib.hid hv6
    clear hv6
    go_wp2_with fail
    obtain ⟨w9, e9, ⟨d0, d1, d2, d3, d4, d5⟩, hb9, hg9⟩ := vol_end (w := w) (x0 := .int .i64 x.key) (x1 := .slice A' x.counts.length c') (x2 := .slice (some ⟨gt, 0, none⟩) x.trusts.length d') (x3 := .slice (some ⟨gc, 0, none⟩) x.cells.length e') (x4 := .slice (some ⟨b', o', none⟩) 2 s') (x5 := .int .i64 x.count) (hk6.at_ (p := w.heap.size + 1) (t := 31) (cs := zV) (by simp)) hk6.1 (by omega)
    rw [e9]
    exact bodyPost_ret (v := .tuple #[.agg (vX x A' c' (some ⟨gt, 0, none⟩) d' (some ⟨gc, 0, none⟩) e' b' o' s'), .int .i64 ns]) (by simp [results, Tryz.results46, go_sem, d0, d1, d2, d3, d4, d5]) rfl ⟨_, rfl, (HV.out.out hg9 (by omega)).mono (by omega), hb9⟩
theorem l12Step_calls (x : VolN) (A : Option Addr) (cap : Nat) (B : Option Addr) (tc : Nat) (C : Option Addr) (cc : Nat) (b off sc : Nat) (w : World) (hx : x.Short) (hcap : x.counts.length ≤ cap) (hA : Ints w .i64 w.heap.size A x.counts) (hB : Trs w w.heap.size B x.trusts) (hC : Cls w w.heap.size C x.cells) (hbb : b < w.heap.size) (h0 : SlotAt w w.heap.size b off x.s0) (h1 : SlotAt w w.heap.size b (off + 4) x.s1) (hfit : x.Fit) (hcur : x.CurOk) (r : Int) :
    Calls Tryz.prog 46 #[.agg (vX x A cap B tc C cc b off sc), .int .i64 r] w (VolAns1 w (stepVol x r)) := by
  by_cases hr : 0 ≤ firstOf x.key x.counts r
  · exact l12Step_some x A cap B tc C cc b off sc w hx hcap hA hB hC hbb h0 h1 hfit hcur r hr
  · have e : stepVol x r = (x, 1) := by unfold stepVol; rw [if_neg hr]
    rw [e]
    exact l12Step_none x A cap B tc C cc b off sc w hx hcap hA hB hC hbb h0 h1 r hr
theorem verdictOf_cursor (t : Tru) : (verdictOf t).1.cursor = 0 := by unfold verdictOf; split <;> rfl
theorem verdictOf_status (t : Tru) : (verdictOf t).2 = 5 ∨ (verdictOf t).2 = 4 := by unfold verdictOf; split <;> simp
theorem scanned_cursor (key : Int) (l : List Int) (x : Int) (t : Tru) (ct cv : Int) :
    ((scanned key l x t ct cv).2.2 = 0 ∧ t.cursor + 1 < l.getD x.toNat 0 ∧ (scanned key l x t ct cv).1.cursor = t.cursor + 1) ∨
    ((scanned key l x t ct cv).2.2 ≠ 0 ∧ ((scanned key l x t ct cv).1.cursor = t.cursor ∨ (scanned key l x t ct cv).1.cursor = 0)) := by
  unfold scanned
  split
  · split
    · exact .inr ⟨by simp, .inl rfl⟩
    · split
      · exact .inr ⟨by simp, .inl rfl⟩
      · split
        · exact .inr ⟨by simp, .inl rfl⟩
        · split
          · rename_i h
            exact .inl ⟨rfl, h, rfl⟩
          · refine .inr ⟨?_, .inr (verdictOf_cursor _)⟩
            rcases verdictOf_status (scanMid key l x t ct cv) with e | e <;> simp only [e] <;> decide
  · exact .inr ⟨by simp, .inr rfl⟩
theorem stepVol_len (x : VolN) (r : Int) : (stepVol x r).1.key = x.key ∧ (stepVol x r).1.counts = x.counts ∧ (stepVol x r).1.trusts.length = x.trusts.length ∧ (stepVol x r).1.cells.length = x.cells.length ∧ (stepVol x r).1.s0 = x.s0 ∧ (stepVol x r).1.s1 = x.s1 ∧ (stepVol x r).1.count = x.count := by
  unfold stepVol
  split <;> simp
theorem stepVol_short {x : VolN} (h : x.Short) (r : Int) : (stepVol x r).1.Short := by
  obtain ⟨e1, e2, e3, e4, e5, e6, e7⟩ := stepVol_len x r
  unfold VolN.Short at *
  rw [e2, e3, e4, e5, e6]; exact h
theorem stepVol_fit {x : VolN} (h : x.Fit) (r : Int) : (stepVol x r).1.Fit := by
  obtain ⟨e1, e2, e3, e4, e5, e6, e7⟩ := stepVol_len x r
  unfold VolN.Fit at *
  rw [e2, e3, e4]; exact h
theorem getD_set_ {α : Type} (L : List α) (k i : Nat) (v d : α) : (L.set k v).getD i d = if k = i ∧ k < L.length then v else L.getD i d := by
  rw [List.getD_eq_getElem?_getD, List.getD_eq_getElem?_getD, List.getElem?_set]
  by_cases h : k = i
  · subst h
    by_cases h2 : k < L.length
    · simp [h2]
    · simp [h2]
  · simp [h]
theorem stepVol_cur {x : VolN} (h : x.CurOk) (r : Int) : (stepVol x r).1.CurOk := by
  intro i hi
  rw [(stepVol_len x r).2.1] at hi ⊢
  have h0 := h i hi
  unfold stepVol
  split
  · rename_i hf
    have hpr : planOk x.key x.counts ∧ 0 ≤ r ∧ r < x.counts.length := by
      refine Classical.byContradiction fun hn => ?_
      unfold firstOf at hf
      rw [if_neg hn] at hf
      omega
    simp only []
    rw [getD_set_]
    split
    · rename_i hk
      obtain ⟨rfl, hk⟩ := hk
      rcases scanned_cursor x.key x.counts r (x.trusts.getD r.toNat default) (x.cells.getD (firstOf x.key x.counts r + (x.trusts.getD r.toNat default).cursor).toNat default).1 (x.cells.getD (firstOf x.key x.counts r + (x.trusts.getD r.toNat default).cursor).toNat default).2 with ⟨_, e2, e3⟩ | ⟨_, e3 | e3⟩ <;> rw [e3] <;> omega
    · exact h0
  · exact h0
theorem stepVol_zero {x : VolN} {r : Int} (hfit : x.Fit) (h : (stepVol x r).2 = 0) :
    (x.trusts.getD r.toNat default).cursor + 1 < x.counts.getD r.toNat 0 ∧ ((stepVol x r).1.trusts.getD r.toNat default).cursor = (x.trusts.getD r.toNat default).cursor + 1 := by
  unfold stepVol at h ⊢
  split at h
  · rename_i hf
    rw [if_pos hf]
    have hpr : planOk x.key x.counts ∧ 0 ≤ r ∧ r < x.counts.length := by
      refine Classical.byContradiction fun hn => ?_
      unfold firstOf at hf
      rw [if_neg hn] at hf
      omega
    simp only [] at h ⊢
    rw [getD_set_, if_pos ⟨rfl, by rw [hfit.1]; omega⟩]
    rcases scanned_cursor x.key x.counts r (x.trusts.getD r.toNat default) (x.cells.getD (firstOf x.key x.counts r + (x.trusts.getD r.toNat default).cursor).toNat default).1 (x.cells.getD (firstOf x.key x.counts r + (x.trusts.getD r.toNat default).cursor).toNat default).2 with ⟨_, e2, e3⟩ | ⟨e1, _⟩
    · exact ⟨e2, e3⟩
    · exact absurd h e1
  · simp at h
noncomputable def closeN (r : Int) : Nat → VolN → VolN × Int
  | 0, y => stepVol y r
  | n + 1, y => if (stepVol y r).2 = 0 then closeN r n (stepVol y r).1 else stepVol y r
noncomputable def closeVol (x : VolN) (r : Int) : VolN × Int := closeN r (x.counts.getD r.toNat 0 - (x.trusts.getD r.toNat default).cursor).toNat x
theorem closeN_on {r : Int} {n : Nat} {y : VolN} (h : (stepVol y r).2 = 0) : closeN r (n + 1) y = closeN r n (stepVol y r).1 := by rw [closeN, if_pos h]
theorem closeN_end {r : Int} {n : Nat} {y : VolN} (h : (stepVol y r).2 ≠ 0) : closeN r n y = stepVol y r := by
  cases n with
  | zero => rfl
  | succ n => rw [closeN, if_neg h]
open Go.ChangeShapes Go.WideShapes Go.ChangeAt Go.RowKit Go.Maps
theorem vol_put {w1 : World} {r : Nat} {t : TypeId} {x0 x1 x2 x3 x4 x5 y0 y1 y2 y3 y4 y5 : Value} (hk : CellsAt w1 r t #[y0, y1, y2, y3, y4, y5]) :
    CellsAt ((((((w1.setCell ⟨r, 0, none⟩ x0).setCell ⟨r, 1, none⟩ x1).setCell ⟨r, 2, none⟩ x2).setCell ⟨r, 3, none⟩ x3).setCell ⟨r, 4, none⟩ x4).setCell ⟨r, 5, none⟩ x5) r t #[x0, x1, x2, x3, x4, x5] ∧
    w1.grownBy ((((((w1.setCell ⟨r, 0, none⟩ x0).setCell ⟨r, 1, none⟩ x1).setCell ⟨r, 2, none⟩ x2).setCell ⟨r, 3, none⟩ x3).setCell ⟨r, 4, none⟩ x4).setCell ⟨r, 5, none⟩ x5) (some r) := by
  have h := (((((hk.set_ 0 x0).set_ 1 x1).set_ 2 x2).set_ 3 x3).set_ 4 x4).set_ 5 x5
  simp only [List.setIfInBounds_toArray, List.set_cons_zero, List.set_cons_succ] at h
  exact ⟨h, gb_set (gb_set (gb_set (gb_set (gb_set (gb_set (gb_refl w1 (some r)) 0 x0) 1 x1) 2 x2) 3 x3) 4 x4) 5 x5⟩
def CloseRel (w : World) (x : VolN) (r : Int) (s : Int) (y : VolN) (wr : World) : Prop :=
  y.Short ∧ y.Fit ∧ y.CurOk ∧ y.counts = x.counts ∧ ∃ A1 c1 B1 k1 C1 e1 b1 o1 s1, Kept w [(w.heap.size + 1, 31, zV), (w.heap.size, 31, (vX y A1 c1 B1 k1 C1 e1 b1 o1 s1))] wr ∧ VolR wr wr.heap.size y (.agg (vX y A1 c1 B1 k1 C1 e1 b1 o1 s1)) ∧
    ((s = 0 ∧ ∃ n : Nat, closeN r n y = closeVol x r ∧ x.counts.getD r.toNat 0 - 1 - (y.trusts.getD r.toNat default).cursor ≤ n) ∨ (s ≠ 0 ∧ closeVol x r = (y, s) ∧ VolO wr (w.heap.size + 1 + 1) y (.agg (vX y A1 c1 B1 k1 C1 e1 b1 o1 s1))))
def closeLeft (w : World) (r : Int) (cnt : Int) (i : Value) (wr : World) : Nat :=
  if intOf i = 0 then 1 + (match wr.cell? ⟨w.heap.size, 2, none⟩ with
    | some (.slice (some a) _ _) => (match wr.cell? ⟨a.block, a.off + r.toNat * 8 + 2, none⟩ with | some (.int .i64 c) => (cnt - c).toNat | _ => 0)
    | _ => 0) else 0
theorem closeLeft_eq {w wr : World} {x y : VolN} {r : Int} {s : Int} (h : CloseRel w x r s y wr) (hr : r.toNat < x.counts.length) :
    closeLeft w r (x.counts.getD r.toNat 0) (.int .i64 s) wr = if s = 0 then 1 + (x.counts.getD r.toNat 0 - (y.trusts.getD r.toNat default).cursor).toNat else 0 := by
  obtain ⟨_, hf, _, hc, A1, c1, B1, k1, C1, e1, b1, o1, s1, hk, ⟨A2, c2, B2, d2, C2, e2, b2, o2, s2, hv, _, hB, _⟩, _⟩ := h
  have hB2 : B1 = B2 := by injection hv with hv; injection hv with hv; injection hv with _ hv; injection hv with _ hv; injection hv with hv1 hv; injection hv1
  subst hB2
  obtain ⟨bT, oT, rfl, hb, hT⟩ := Trs.at_ hB (k := r.toNat) (by rw [hf.1, hc]; exact hr)
  have h2 := (hk.at_ (p := w.heap.size) (t := 31) (cs := (vX y A1 c1 (some ⟨bT, oT, none⟩) k1 C1 e1 b1 o1 s1)) (by simp)).cell 2
  unfold closeLeft
  rw [h2]
  simp only [List.getElem?_toArray, List.getElem?_cons_succ, List.getElem?_cons_zero, hT.2.2.1, intOf]
set_option maxRecDepth 20000 in
set_option maxHeartbeats 500000 in
theorem l12Close_calls (x : VolN) (A : Option Addr) (cap : Nat) (B : Option Addr) (tc : Nat) (C : Option Addr) (cc : Nat) (b off sc : Nat) (w : World) (hx : x.Short) (hcap : x.counts.length ≤ cap) (hA : Ints w .i64 w.heap.size A x.counts) (hB : Trs w w.heap.size B x.trusts) (hC : Cls w w.heap.size C x.cells) (hbb : b < w.heap.size) (h0 : SlotAt w w.heap.size b off x.s0) (h1 : SlotAt w w.heap.size b (off + 4) x.s1) (hfit : x.Fit) (hcur : x.CurOk) (r : Int) (hr0 : 0 ≤ r) (hr : r < x.counts.length) :
    Calls Tryz.prog 48 #[.agg (vX x A cap B tc C cc b off sc), .int .i64 r] w (VolAns1 w (closeVol x r)) := by
  have K0 := Lib.hid (show Kept w [(w.heap.size + 1, 31, zV), (w.heap.size, 31, (vX x A cap B tc C cc b off sc))] _ from (((Kept.refl w).put1 _ _ (vX x A cap B tc C cc b off sc) rfl).put1 _ _ zV (by simp)))
  have R0 := Lib.hid (show CloseRel w x r 0 x _ from ⟨hx, hfit, hcur, rfl, A, cap, B, tc, C, cc, b, off, sc, K0.out, VolR.more (VolR.below ⟨A, cap, B, tc, C, cc, b, off, sc, rfl, hA, hB, hC, hbb, h0, h1, hcap⟩ K0.out.1 (Nat.le_refl _)) K0.out.1.size, .inl ⟨rfl, _, rfl, by omega⟩⟩)
  have hrn : r.toNat < x.counts.length := by omega
  clear hx hcap hA hB hC hbb h0 h1 hfit hcur
  go_enter Tryz.func48, Tryz.ntmps48
  go_wp2_with fail
  go_loopw [6] (fun i wr => ∃ (s : Int) (y : VolN), i = .int .i64 s ∧ CloseRel w x r s y wr) (fun i wr => closeLeft w r (x.counts.getD r.toNat 0) i wr)
  case atStart => exact ⟨0, x, rfl, R0.out⟩
  case round =>
    obtain ⟨s, y, rfl, hrel⟩ := hrel
    have HM := Lib.hid (closeLeft_eq hrel hrn)
    obtain ⟨yx, yf, yc, hcn, A1, c1, B1, k1, C1, e1, b1, o1, s1, hk, hv, hs⟩ := hrel
    have HCN := Lib.hid hcn
    clear hcn
    rcases hs with ⟨rfl, n, hn, hle⟩ | ⟨hs, hcl, ho⟩
    · obtain ⟨A2, c2, B2, d2, C2, e2, b2, o2, s2, hq, g1, g2, g3, g4, g5, g6, g7⟩ := hv
      have hST := Lib.hid (l12Step_calls y A2 c2 B2 d2 C2 e2 b2 o2 s2 _ yx g7 g1 g2 g3 g4 g5 g6 yf yc r)
      rw [← hq] at hST
      have HN := Lib.hid (stepVol_zero (r := r) yf)
      have P1 := Lib.hid (stepVol_short yx r)
      have P2 := Lib.hid (stepVol_fit yf r)
      have P3 := Lib.hid (stepVol_cur yc r)
      have P4 := Lib.hid (stepVol_len y r).2.1
      have HON := Lib.hid (fun n => closeN_on (r := r) (n := n) (y := y))
      have HEN := Lib.hid (fun n => closeN_end (r := r) (n := n) (y := y))
      clear yx yf yc g1 g2 g3 g4 g5 g6 g7 hq
      obtain ⟨⟨z, q⟩, hz⟩ : ∃ Z, Z = stepVol y r := ⟨_, rfl⟩
      rw [← hz] at hST HN P1 P2 P3 P4 HON HEN
      clear hz
      simp only [] at HN P1 P2 P3 P4 HON HEN
      have HL := Lib.hid (And.intro hn hle)
      clear hn hle
      obtain ⟨kc0, kf0, kc1, kf1, -⟩ := hk.rd
      go_wp2_with fail
      refine hST.out.mono ?_; rintro e u1 ⟨cs, rfl, hv1, hb1⟩
      obtain ⟨A', c', B', d', C', e', b', o', s', e1q, -⟩ := hv1.reads
      injection e1q with e1q
      subst e1q
      have hk1 := hk.below hb1
      have hl1 : w.heap.size + 1 < _ := hk.lt (x := (w.heap.size + 1, 31, zV)) (by simp)
      have lo0 : w.heap.size + 1 < u1.heap.size := hk1.lt (x := (w.heap.size + 1, 31, zV)) (by simp)
      have hk2 := hk1.put1 u1.heap.size 31 (vX z A' c' B' d' C' e' b' o' s') rfl
      have hv2 := (hv1.mono (show w.heap.size + 1 + 1 ≤ _ by omega)).below ((Below.refl _ _).alloc (Nat.le_refl _) (.cells (vX z A' c' B' d' C' e' b' o' s') 31))
      clear kc0 kf0 kc1 kf1 hb1 hv1 hk hk1 hST K0 R0
      go_upto_region 4 with fail
      obtain ⟨kc0, kf0, kc1, kf1, kc2, kf2, -⟩ := hk2.rd
      have HV := Lib.hid hv2
      clear hv2
      go_wp2_with fail
      have hvp := vol_put (x0 := .int .i64 z.key) (x1 := .slice A' z.counts.length c') (x2 := .slice B' z.trusts.length d') (x3 := .slice C' z.cells.length e') (x4 := .slice (some ⟨b', o', none⟩) 2 s') (x5 := .int .i64 z.count) (hk2.at_ (p := w.heap.size) (t := 31) (cs := (vX y A1 c1 B1 k1 C1 e1 b1 o1 s1)) (by simp))
      generalize World.setCell _ _ _ = w5 at hvp ⊢
      have hk5 := hk2.put (k := 2) rfl (by unfold Apart; simp <;> omega) hvp.2 hvp.1
      have hv5 := HV.out.out hvp.2 (by omega)
      have hk6 : Kept w [(w.heap.size + 1, 31, zV), (w.heap.size, 31, (vX z A' c' B' d' C' e' b' o' s'))] w5 := Kept.sub (show Kept w [(u1.heap.size, 31, (vX z A' c' B' d' C' e' b' o' s')), (w.heap.size + 1, 31, zV), (w.heap.size, 31, (vX z A' c' B' d' C' e' b' o' s'))] w5 from hk5) (by intro y hy; simp at hy ⊢; rcases hy with rfl | rfl <;> simp)
      have hrel : CloseRel w x r q z w5 := ⟨P1.out, P2.out, P3.out, P4.out.trans HCN.out, A', c', B', d', C', e', b', o', s', hk6, hv5.reads, by
        by_cases hq0 : q = 0
        · subst hq0
          obtain ⟨m1, m2⟩ := HN.out rfl
          rw [HCN.out] at m1
          obtain ⟨n1, n2⟩ := HL.out
          obtain ⟨k, rfl⟩ : ∃ k, n = k + 1 := ⟨n - 1, by omega⟩
          exact .inl ⟨rfl, k, by rw [← HON.out k rfl]; exact n1, by rw [m2]; omega⟩
        · exact .inr ⟨hq0, by rw [← HL.out.1]; exact HEN.out n hq0, hv5⟩⟩
      have HR := Lib.hid hrel
      clear hrel hk5 hk6 hv5 hvp kc0 kf0 kc1 kf1 kc2 kf2 hk2 HV
      go_wp2_with fail
      go_roundw
      case rel => exact ⟨q, z, rfl, HR.out⟩
      case measure =>
        rw [closeLeft_eq HR.out hrn, HM.out]
        rw [show (∀ (aa bb : Nat), (if True then aa else bb) = aa) from fun aa bb => if_pos trivial]
        by_cases hq0 : q = 0
        · subst hq0; obtain ⟨m1, m2⟩ := HN.out rfl; rw [HCN.out] at m1; rw [if_pos rfl, m2]; omega
        · rw [if_neg hq0]; omega
    · have hsb : (s == (0 : Int)) = false := beq_eq_false_iff_ne.2 hs
      have HO := Lib.hid ho
      clear ho hs hv
      rw [hcl]
      obtain ⟨kc0, kf0, kc1, kf1, -⟩ := hk.rd
      go_wp2_with fail
      obtain ⟨w9, e9, ⟨d0, d1, d2, d3, d4, d5⟩, hb9, hg9⟩ := vol_end (w := w) (x0 := .int .i64 y.key) (x1 := .slice A1 y.counts.length c1) (x2 := .slice B1 y.trusts.length k1) (x3 := .slice C1 y.cells.length e1) (x4 := .slice (some ⟨b1, o1, none⟩) 2 s1) (x5 := .int .i64 y.count) (hk.at_ (p := w.heap.size + 1) (t := 31) (cs := zV) (by simp)) hk.1 (by omega)
      rw [e9]
      exact bodyPost_ret (v := .tuple #[.agg (vX y A1 c1 B1 k1 C1 e1 b1 o1 s1), .int .i64 s]) (by simp [results, Tryz.results48, go_sem, d0, d1, d2, d3, d4, d5]) rfl ⟨_, rfl, (HO.out.out hg9 (by omega)).mono (by omega), hb9⟩
theorem fine_four {x y z u : Int} (hx : 0 ≤ x) (hy : 0 ≤ y) (hz : 0 ≤ z) (hu : 0 ≤ u) : Fine [x, y, z, u] := by
  intro i hi
  match i, hi with
  | 0, _ => exact hx
  | 1, _ => exact hy
  | 2, _ => exact hz
  | 3, _ => exact hu
end Go.Proofs.YtgaecedhkbneaaaGreatDoor.Mx

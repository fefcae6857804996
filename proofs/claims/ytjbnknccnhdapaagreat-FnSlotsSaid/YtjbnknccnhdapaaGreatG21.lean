import Derived.Test.YtjbnknccnhdapaaGreatG18
import Derived.Test.YtjbnknccnhdapaaGreatG20
import Derived.Test.YtjbnknccnhdapaaGreatG19
import Derived.Test.YtjbnknccnhdapaaGreatG13
namespace Go.Proofs.YtjbnknccnhdapaaGreat.Mx
open Go.ChangeShapes Go.WideShapes Go.ChangeAt Go.RowKit
set_option linter.unusedVariables false
noncomputable def scanned (key : Int) (l : List Int) (x : Int) (t : Tru) (ct cv : Int) : Tru × (Int × Int) × Int :=
 open Classical in
 if scanOk key l x t ct cv then
  if t.failed = true then (t, (ct, cv), 2)
  else if 100000 ≤ t.clock ∨ 1000 ≤ t.epoch then (t, (ct, cv), 3)
  else if t.clock < ct then (⟨t.clock, t.epoch, t.cursor, t.read, t.written, t.nread, t.nwritten, true⟩, (ct, cv), 4)
  else if t.cursor + 1 < l.getD x.toNat 0 then (scanMid key l x t ct cv, cellOf key (firstOf key l x + t.cursor) (t.clock + 1) (valueIn key (firstOf key l x + t.cursor) ct cv), 0)
  else ((verdictOf (scanMid key l x t ct cv)).1, cellOf key (firstOf key l x + t.cursor) (t.clock + 1) (valueIn key (firstOf key l x + t.cursor) ct cv), (verdictOf (scanMid key l x t ct cv)).2)
 else (zeroTru, (0, 0), 1)
theorem specScanned_calls (key x ct cv : Int) (A : Option Addr) (l : List Int) (cap : Nat) (t0 t1 t2 t3 t4 t5 t6 : Int) (t7 : Bool) (w : World) (hn : l.length ≤ maxLen) (hcap : l.length ≤ cap) (hA : Ints w .i64 w.heap.size A l) :
    Calls Tryz.prog 84 #[.agg (pA key A l.length cap), .int .i64 x, .agg (tA t0 t1 t2 t3 t4 t5 t6 t7), .agg (cA ct cv)] w fun e w' => e = .returned (.tuple #[.agg (tR ((scanned key l x ⟨t0, t1, t2, t3, t4, t5, t6, t7⟩ ct cv).1)), .agg (cA ((scanned key l x ⟨t0, t1, t2, t3, t4, t5, t6, t7⟩ ct cv).2.1.1) ((scanned key l x ⟨t0, t1, t2, t3, t4, t5, t6, t7⟩ ct cv).2.1.2)), .int .i64 (scanned key l x ⟨t0, t1, t2, t3, t4, t5, t6, t7⟩ ct cv).2.2]) ∧ Below w.heap.size w w' := by
 unfold scanned
 by_cases h : scanOk key l x ⟨t0, t1, t2, t3, t4, t5, t6, t7⟩ ct cv
 ·rw [if_pos h]
  cases t7 with
  | true => rw [if_pos rfl]; exact specScanned_failed key x ct cv A l cap t0 t1 t2 t3 t4 t5 t6 w hn hcap hA h.1 h.2
  | false =>
    rw [if_neg (by simp)]
    by_cases h1 : 100000 ≤ t0 ∨ 1000 ≤ t1
    ·rw [if_pos h1]; exact specScanned_spent key x ct cv A l cap t0 t1 t2 t3 t4 t5 t6 w hn hcap hA h.1 h.2 h1
    ·rw [if_neg h1]
     have a0 : ¬ 100000 ≤ t0 := fun e => h1 (.inl e)
     have a1 : ¬ 1000 ≤ t1 := fun e => h1 (.inr e)
     by_cases h2 : t0 < ct
     ·rw [if_pos h2]; exact specScanned_caught key x ct cv A l cap t0 t1 t2 t3 t4 t5 t6 w hn hcap hA h.1 h.2 a0 a1 h2
     ·rw [if_neg h2]
      obtain ⟨r, rfl⟩ : ∃ r : Nat, x = r := ⟨x.toNat, by have := h.1.2.1; omega⟩
      rw [Int.toNat_natCast]
      by_cases h3 : t2 + 1 < l.getD r 0
      ·rw [if_pos h3]; exact specScanned_on key ct cv r A l cap t0 t1 t2 t3 t4 t5 t6 w hn hcap hA h.1 h.2 a0 a1 h2 h3
      ·rw [if_neg h3]; exact specScanned_end key ct cv r A l cap t0 t1 t2 t3 t4 t5 t6 w hn hcap hA h.1 h.2 a0 a1 h2 h3
 ·rw [if_neg h]; exact specScanned_bad key x ct cv A l cap t0 t1 t2 t3 t4 t5 t6 t7 w hn hcap hA h
noncomputable def stepVol (x : VolN) (r : Int) : VolN × Int :=
 open Classical in
 if 0 ≤ firstOf x.key x.counts r then
  ({ x with trusts := x.trusts.set r.toNat (scanned x.key x.counts r (x.trusts.getD r.toNat default) (x.cells.getD (firstOf x.key x.counts r + (x.trusts.getD r.toNat default).cursor).toNat default).1 (x.cells.getD (firstOf x.key x.counts r + (x.trusts.getD r.toNat default).cursor).toNat default).2).1,
            cells := x.cells.set (firstOf x.key x.counts r + (x.trusts.getD r.toNat default).cursor).toNat (scanned x.key x.counts r (x.trusts.getD r.toNat default) (x.cells.getD (firstOf x.key x.counts r + (x.trusts.getD r.toNat default).cursor).toNat default).1 (x.cells.getD (firstOf x.key x.counts r + (x.trusts.getD r.toNat default).cursor).toNat default).2).2.1 },
   (scanned x.key x.counts r (x.trusts.getD r.toNat default) (x.cells.getD (firstOf x.key x.counts r + (x.trusts.getD r.toNat default).cursor).toNat default).1 (x.cells.getD (firstOf x.key x.counts r + (x.trusts.getD r.toNat default).cursor).toNat default).2).2.2)
 else (x, 1)
def VolAns1 (b : World) (r : VolN × Int) (e : Ending) (w' : World) : Prop := ∃ cs, e = .returned (.tuple #[.agg cs, .int .i64 r.2]) ∧ VolO w' b.heap.size r.1 (.agg cs) ∧ Below b.heap.size b w'
def VolN.CurOk (x : VolN) : Prop := ∀ i, i < x.counts.length → 0 ≤ (x.trusts.getD i default).cursor ∧ (x.trusts.getD i default).cursor < x.counts.getD i 0
set_option maxRecDepth 20000 in
set_option maxHeartbeats 4000000 in
theorem l12Step_none (x : VolN) (A : Option Addr) (cap : Nat) (B : Option Addr) (tc : Nat) (C : Option Addr) (cc : Nat) (b off sc : Nat) (w : World) (hx : x.Short) (hcap : x.counts.length ≤ cap) (hA : Ints w .i64 w.heap.size A x.counts) (hB : Trs w w.heap.size B x.trusts) (hC : Cls w w.heap.size C x.cells) (hbb : b < w.heap.size) (h0 : SlotAt w w.heap.size b off x.s0) (h1 : SlotAt w w.heap.size b (off + 4) x.s1) (r : Int) (hr : ¬ 0 ≤ firstOf x.key x.counts r) :
    Calls Tryz.prog 58 #[.agg (vX x A cap B tc C cc b off sc), .int .i64 r] w (VolAns1 w (x, 1)) := by
 have K0 := Lib.hid (show Kept w [(w.heap.size + 1, 45, zV), (w.heap.size, 45, (vX x A cap B tc C cc b off sc))] _ from (((Kept.refl w).put1 _ _ (vX x A cap B tc C cc b off sc) rfl).put1 _ _ zV (by simp)))
 have CO := Lib.hid (fun (u : World) (hb : Below w.heap.size w u) => l12Copy_calls x A cap B tc C cc b off sc u hx ((hA.below hb (Nat.le_refl _)).more hb.size) ((hB.below hb (Nat.le_refl _)).more hb.size) ((hC.below hb (Nat.le_refl _)).more hb.size) (Nat.lt_of_lt_of_le hbb hb.size) ((h0.below hb (Nat.le_refl _) hbb).more hb.size) ((h1.below hb (Nat.le_refl _) hbb).more hb.size))
 have hn : x.counts.length ≤ maxLen := by have := hx.1; unfold maxLen; omega
 have R := Lib.hid (fun (u : World) (hb : Below w.heap.size w u) => specFirst_calls x.key r A x.counts cap u hn hcap ((hA.below hb (Nat.le_refl _)).more hb.size))
 have hd : decide (firstOf x.key x.counts r < 0) = true := decide_eq_true (by omega)
 clear hA hB hC h0 h1 hn
 generalize firstOf x.key x.counts r = f at R hd
 clear hr
 go_enter Tryz.func58, Tryz.ntmps58
 go_wp2_with fail
 refine (CO.out _ K0.out.1).mono ?_; rintro e u1 ⟨vv, rfl, hv, hb1⟩
 have hk1 := K0.out.below hb1
 obtain ⟨A', c', B', d', C', e', b', o', s', rfl, -⟩ := hv.reads
 have hv1 := hv.mono (show w.heap.size + 1 + 1 ≤ _ by simp)
 have lo0 : w.heap.size + 1 < u1.heap.size := hk1.lt (x := (w.heap.size + 1, 45, zV)) (by simp)
 have lo1 : w.heap.size < u1.heap.size := hk1.lt (x := (w.heap.size, 45, (vX x A cap B tc C cc b off sc))) (by simp)
 have hk2 := hk1.put1 u1.heap.size 45 (vX x A' c' B' d' C' e' b' o' s') rfl
 have hv2 := hv1.below ((Below.refl _ _).alloc (Nat.le_refl _) (.cells (vX x A' c' B' d' C' e' b' o' s') 45))
 clear hb1 hk1 hv hv1 CO
 go_upto_region 2 with fail
 obtain ⟨kc0, kf0, kc1, kf1, kc2, kf2, -⟩ := hk2.rd
 have HV := Lib.hid hv2
 clear hv2
 go_wp2_with fail
 refine (R.out _ hk2.1).mono ?_; rintro e u2 ⟨rfl, hb2⟩
 have hk3 := hk2.below hb2
 have hv3 := HV.out.below hb2
 clear kc0 kf0 kc1 kf1 kc2 kf2 hb2 hk2 HV
 obtain ⟨kc0, kf0, kc1, kf1, kc2, kf2, -⟩ := hk3.rd
 have HV := Lib.hid hv3
 clear hv3
 go_wp2_with fail
 obtain ⟨w9, e9, ⟨d0, d1, d2, d3, d4, d5⟩, hb9, hg9⟩ := vol_end (w := w) (x0 := .int .i64 x.key) (x1 := .slice A' x.counts.length c') (x2 := .slice B' x.trusts.length d') (x3 := .slice C' x.cells.length e') (x4 := .slice (some ⟨b', o', none⟩) 2 s') (x5 := .int .i64 x.count) (hk3.at_ (p := w.heap.size + 1) (t := 45) (cs := zV) (by simp)) hk3.1 (by omega)
 rw [e9]
 exact bodyPost_ret (v := .tuple #[.agg (vX x A' c' B' d' C' e' b' o' s'), .int .i64 1]) (by simp [results, Tryz.results58, go_sem, d0, d1, d2, d3, d4, d5]) rfl ⟨_, rfl, (HV.out.out hg9 (by omega)).mono (by omega), hb9⟩
set_option maxRecDepth 20000 in
set_option maxHeartbeats 8000000 in
theorem l12Step_some (x : VolN) (A : Option Addr) (cap : Nat) (B : Option Addr) (tc : Nat) (C : Option Addr) (cc : Nat) (b off sc : Nat) (w : World) (hx : x.Short) (hcap : x.counts.length ≤ cap) (hA : Ints w .i64 w.heap.size A x.counts) (hB : Trs w w.heap.size B x.trusts) (hC : Cls w w.heap.size C x.cells) (hbb : b < w.heap.size) (h0 : SlotAt w w.heap.size b off x.s0) (h1 : SlotAt w w.heap.size b (off + 4) x.s1) (hfit : x.Fit) (hcur : x.CurOk) (r : Int) (hr : 0 ≤ firstOf x.key x.counts r) :
    Calls Tryz.prog 58 #[.agg (vX x A cap B tc C cc b off sc), .int .i64 r] w (VolAns1 w (stepVol x r)) := by
 have hpr : planOk x.key x.counts ∧ 0 ≤ r ∧ r < x.counts.length := by
  refine Classical.byContradiction fun h => ?_
  unfold firstOf at hr
  rw [if_neg h] at hr
  omega
 obtain ⟨i, rfl⟩ : ∃ i : Nat, r = i := ⟨r.toNat, by omega⟩
 have hp := hpr.1
 have hi : i < x.counts.length := by omega
 have hi' : i < x.trusts.length := by rw [hfit.1]; exact hi
 have er := firstOf_yes hp hi
 have hup := upTo_mono hp.2.2.1 (i := i + 1) (j := x.counts.length) (by omega) (Nat.le_refl _)
 have hub := upTo_bd hp.2.2.1 (k := i) (by omega)
 have hus := upTo_succ x.counts hi
 have huc := hcur i hi
 have hu4 := hp.2.2.2
 unfold stepVol
 rw [if_pos hr]
 simp only [er, Int.toNat_natCast]
 have R0 := fun (u : World) (hb : Below w.heap.size w u) => specFirst_calls x.key (i : Int) A x.counts cap u (by have := hx.1; unfold maxLen; omega) hcap ((hA.below hb (Nat.le_refl _)).more hb.size)
 rw [er] at R0
 generalize hf : upTo x.counts i = f at R0 hub hus ⊢
 obtain ⟨j, hjj⟩ : ∃ j : Nat, f + (x.trusts.getD i default).cursor = j := ⟨(f + (x.trusts.getD i default).cursor).toNat, by omega⟩
 have hj : j < x.cells.length := by have := hfit.2; omega
 have hat : IntKind.i64.wrap (f + (x.trusts.getD i default).cursor) = (j : Int) := by rw [hjj]; exact IntWalk.i64_in _ (by omega)
 simp only [hjj, Int.toNat_natCast]
 obtain ⟨bT, oT, rfl, hbT, hcT⟩ := hB.at_ hi'
 obtain ⟨bC, oC, rfl, hbC, hcC⟩ := hC.at_ hj
 have K0 := Lib.hid (show Kept w [(w.heap.size + 1, 45, zV), (w.heap.size, 45, (vX x A cap (some ⟨bT, oT, none⟩) tc (some ⟨bC, oC, none⟩) cc b off sc))] _ from (((Kept.refl w).put1 _ _ (vX x A cap (some ⟨bT, oT, none⟩) tc (some ⟨bC, oC, none⟩) cc b off sc) rfl).put1 _ _ zV (by simp)))
 have CO := Lib.hid (fun (u : World) (hb : Below w.heap.size w u) => l12Copy_calls x A cap _ tc _ cc b off sc u hx ((hA.below hb (Nat.le_refl _)).more hb.size) ((hB.below hb (Nat.le_refl _)).more hb.size) ((hC.below hb (Nat.le_refl _)).more hb.size) (Nat.lt_of_lt_of_le hbb hb.size) ((h0.below hb (Nat.le_refl _) hbb).more hb.size) ((h1.below hb (Nat.le_refl _) hbb).more hb.size))
 have hn : x.counts.length ≤ maxLen := by have := hx.1; unfold maxLen; omega
 have R := Lib.hid R0
 have hd : decide (f < 0) = false := decide_eq_false (by omega)
 have T0 := fun (u : World) (hb : Below w.heap.size w u) => specScanned_calls x.key (i : Int) (x.cells.getD j default).1 (x.cells.getD j default).2 A x.counts cap (x.trusts.getD i default).clock (x.trusts.getD i default).epoch (x.trusts.getD i default).cursor (x.trusts.getD i default).read (x.trusts.getD i default).written (x.trusts.getD i default).nread (x.trusts.getD i default).nwritten (x.trusts.getD i default).failed u hn hcap ((hA.below hb (Nat.le_refl _)).more hb.size)
 rw [show (⟨(x.trusts.getD i default).clock, (x.trusts.getD i default).epoch, (x.trusts.getD i default).cursor, (x.trusts.getD i default).read, (x.trusts.getD i default).written, (x.trusts.getD i default).nread, (x.trusts.getD i default).nwritten, (x.trusts.getD i default).failed⟩ : Tru) = (x.trusts.getD i default) from rfl] at T0
 generalize scanned x.key x.counts (i : Int) (x.trusts.getD i default) (x.cells.getD j default).1 (x.cells.getD j default).2 = P at T0 ⊢
 obtain ⟨nt, nc, ns⟩ := P
 simp only [] at T0 ⊢
 clear hjj huc hcur
 generalize (x.trusts.getD i default) = tt at hcT T0 hat
 generalize (x.cells.getD j default) = ct at hcC T0
 have T := Lib.hid T0
 have hlt1 : (i : Int) < x.trusts.length := by omega
 have hlt2 : (j : Int) < x.cells.length := by omega
 have hi0 : (0 : Int) ≤ i := by omega
 have hj0 : (0 : Int) ≤ j := by omega
 have hsx := hx.2.1
 have hsy := hx.2.2.1
 clear hA hB hC h0 h1 hn R0 T0 er hi hup hub hus hu4 hp hpr hr hfit hf
 have HcT := Lib.hid hcT
 have HcC := Lib.hid hcC
 clear hcT hcC
 go_enter Tryz.func58, Tryz.ntmps58
 go_wp2_with fail
 refine (CO.out _ K0.out.1).mono ?_; rintro e u1 ⟨vv, rfl, hv, hb1⟩
 have hk1 := K0.out.below hb1
 obtain ⟨A', c', B', d', C', e', b', o', s', rfl, -⟩ := hv.reads
 obtain ⟨gt, rfl, hgt0, hgt1, -⟩ := hv.trustsGet (by omega)
 obtain ⟨gc, rfl, hgc0, hgc1, -⟩ := hv.cellsGet (by omega)
 have hsz : w.heap.size + 1 + 1 ≤ ((w.alloc (.cells (vX x A cap (some ⟨bT, oT, none⟩) tc (some ⟨bC, oC, none⟩) cc b off sc) 45)).alloc (.cells zV 45)).heap.size := by simp
 have hv1 := hv.mono hsz
 have hgt2 : w.heap.size + 1 + 1 ≤ gt := Nat.le_trans hsz hgt0
 have hgc2 : w.heap.size + 1 + 1 ≤ gc := Nat.le_trans hsz hgc0
 clear hgt0 hgc0 hsz
 have lo0 : w.heap.size + 1 < u1.heap.size := hk1.lt (x := (w.heap.size + 1, 45, zV)) (by simp)
 have lo1 : w.heap.size < u1.heap.size := hk1.lt (x := (w.heap.size, 45, (vX x A cap (some ⟨bT, oT, none⟩) tc (some ⟨bC, oC, none⟩) cc b off sc))) (by simp)
 have hk2 := hk1.put1 u1.heap.size 45 (vX x A' c' (some ⟨gt, 0, none⟩) d' (some ⟨gc, 0, none⟩) e' b' o' s') rfl
 have hv2 := hv1.below ((Below.refl _ _).alloc (Nat.le_refl _) (.cells (vX x A' c' (some ⟨gt, 0, none⟩) d' (some ⟨gc, 0, none⟩) e' b' o' s') 45))
 clear hb1 hk1 hv hv1 CO
 go_upto_region 2 with fail
 obtain ⟨kc0, kf0, kc1, kf1, kc2, kf2, -⟩ := hk2.rd
 have HV := Lib.hid hv2
 clear hv2
 go_wp2_with fail
 refine (R.out _ hk2.1).mono ?_; rintro e u2 ⟨rfl, hb2⟩
 have hk3 := hk2.below hb2
 have hv3 := HV.out.below hb2
 have lu2 : u1.heap.size < u2.heap.size := hk3.lt (x := (u1.heap.size, 45, (vX x A' c' (some ⟨gt, 0, none⟩) d' (some ⟨gc, 0, none⟩) e' b' o' s'))) (by simp)
 clear kc0 kf0 kc1 kf1 kc2 kf2 hb2 hk2 HV R
 obtain ⟨kc0, kf0, kc1, kf1, kc2, kf2, -⟩ := hk3.rd
 have HV := Lib.hid hv3
 clear hv3
 obtain ⟨tc0, tc1, tc2, tc3, tc4, tc5, tc6, tc7⟩ := HcT.out.below hk3.1 hbT
 go_upto_region 6 with fail
 clear kc0 kf0 kc1 kf1 kc2 kf2 tc0 tc1 tc2 tc3 tc4 tc5 tc6 tc7
 refine wp_region_free [false, false, false, false, false, false, false, false, false, false, false, false, false, true, false, false, false, false, true, true, true, true, false] (ShM [(13, .tuple #[.agg (tR nt), .agg (cA nc.1 nc.2), .int .i64 ns])] [18, 19]) (fun D γ u => MadeC u2 (u2.heap.size) [] [] [(18, 20, 67, (tR nt)), (19, 21, 55, (cA nc.1 nc.2))] D γ u) (by kernel_rfl) (by kernel_rfl) (fun γ => by kernel_rfl) (fun D γ γ' w ha h => h.loc ha) (ShM.inh _ _) (fun γ => MadeC.start (ResC.start (Kept.refl _) (fun x hx => by cases hx)) (Nat.le_refl _) (Nat.le_refl _) (fun x hx => by cases hx) (fun x hx => by cases hx)) (fun γ hγ => ?_)
 have g13 : γ 13 = .tuple #[.agg (tR nt), .agg (cA nc.1 nc.2), .int .i64 ns] := hγ 13 rfl
 have g20 : γ 20 = undef := hγ 20 rfl
 obtain ⟨gT, g18⟩ : ∃ g : Nat, γ 18 = .pointer (some ⟨g, 0, none⟩) := hγ 18 rfl
 have g21 : γ 21 = undef := hγ 21 rfl
 obtain ⟨gC, g19⟩ : ∃ g : Nat, γ 19 = .pointer (some ⟨g, 0, none⟩) := hγ 19 rfl
 apply Exists.intro
 refine ⟨fun D => ?_, ?_, ?_⟩
 ·simp only [hushL, cond_true, cond_false, Nat.reduceAdd, g13, g20, g18, g21, g19]
  iterate 23 (first
   | go_big_quiet_skip
   | (go_big_quiet_want
      go_big_quiet_op
      first
       | go_big_quiet_on
       | (apply Exists.intro
          refine ⟨fun u hu => ?_, ?_⟩
          ·first
             | with_reducible rfl
             | (have hk9 := hk3.below hu.1.1.1; obtain ⟨kc0, kf0, kc1, kf1, kc2, kf2, -⟩ := hk9.rd; obtain ⟨tc0, tc1, tc2, tc3, tc4, tc5, tc6, tc7⟩ := HcT.out.below hk9.1 hbT; obtain ⟨cc0, cc1⟩ := HcC.out.below hk9.1 hbC; go_simp; first | done | with_reducible rfl)
          go_big_quiet_on)))
  exact wpQuiet_nil rfl
 ·simp only [freeOk, Nat.reduceAdd]
  refine ⟨fun D u hD hd hu => ?_, fun D u hD hd hu => ?_, fun D u hD hd hu => ?_, fun D u hD hd hu => ?_, fun D u hD hd hu => ?_, trivial⟩
  ·have hb := hu.1.1.1
   exact steps_call ((T.out u (hk3.below hb).1).mono fun e w' ⟨he, hb⟩ => ⟨_, he, rfl, hu.below hb 13 _ (by simp)⟩) rfl rfl rfl rfl (by kernel_rfl)
  ·exact steps_alloc (cs := zT) rfl (by kernel_rfl) ⟨⟨_, rfl⟩, hu.made (j := 20) (t := 67) (V := (tR nt)) (by simp) (by simp) (by simp) hD (by decide) rfl⟩
  ·exact steps_alloc (cs := zC) rfl (by kernel_rfl) ⟨⟨_, rfl⟩, hu.made (j := 21) (t := 55) (V := (cA nc.1 nc.2)) (by simp) (by simp) (by simp) hD (by decide) rfl⟩
  ·have dk := hd { on := 18, ground := Ground.data } (by simp) rfl rfl
   obtain ⟨g0, e1, z, hz, hzs⟩ := hu.box (k := 18) (j := 20) (t := 67) (V := (tR nt)) (by simp) dk
   obtain rfl : gT = g0 := by rw [g18] at e1; simpa using e1
   exact steps_store hz rfl rfl rfl (by kernel_rfl) hzs (by simp [Value.oneCell']) (fun w' hc hg => ⟨rfl, hu.filled (k := 18) (t := 67) (V := (tR nt)) (by simp) dk (by simp) (by simp) (by decide) e1 hg hc _⟩)
  ·have dk := hd { on := 19, ground := Ground.data } (by simp) rfl rfl
   obtain ⟨g0, e1, z, hz, hzs⟩ := hu.box (k := 19) (j := 21) (t := 55) (V := (cA nc.1 nc.2)) (by simp) dk
   obtain rfl : gC = g0 := by rw [g19] at e1; simpa using e1
   exact steps_store hz rfl rfl rfl (by kernel_rfl) hzs (by simp [Value.oneCell']) (fun w' hc hg => ⟨rfl, hu.filled (k := 19) (t := 55) (V := (cA nc.1 nc.2)) (by simp) dk (by simp) (by simp) (by decide) e1 hg hc _⟩)
 ·intro D uf hD hu
  have hb3 := hu.1.1.1
  have hf := hk3.below hb3
  obtain ⟨g0, e1, hge18, hgc18⟩ := hu.doneM (k := 18) (j := 20) (t := 67) (V := (tR nt)) (by simp) (hD 18 (by simp) rfl) (hD 20 (by simp) rfl)
  obtain rfl : gT = g0 := by rw [g18] at e1; simpa using e1
  clear e1
  have hfz1 := hf.more (Nat.le_trans hk3.1.size hge18) hgc18
  obtain ⟨g0, e1, hge19, hgc19⟩ := hu.doneM (k := 19) (j := 21) (t := 55) (V := (cA nc.1 nc.2)) (by simp) (hD 19 (by simp) rfl) (hD 21 (by simp) rfl)
  obtain rfl : gC = g0 := by rw [g19] at e1; simpa using e1
  clear e1
  have hfz2 := hfz1.more (Nat.le_trans hk3.1.size hge19) hgc19
  have hne18_19 : gT ≠ gC := fun e => hu.2.2.2.2.2.2.1 _ (show (18, 20, 67, (tR nt)) ∈ ([(18, 20, 67, (tR nt)), (19, 21, 55, (cA nc.1 nc.2))] : List Made) by simp) _ (show (19, 21, 55, (cA nc.1 nc.2)) ∈ ([(18, 20, 67, (tR nt)), (19, 21, 55, (cA nc.1 nc.2))] : List Made) by simp) (Nat.ne_of_beq_eq_false rfl) (hD 18 (by simp) rfl) (hD 19 (by simp) rfl) (by rw [g18, g19, e])
  clear hu hD
  obtain ⟨kc0, kf0, kc1, kf1, kc2, kf2, kc3, kf3, kc4, kf4, -⟩ := hfz2.rd
  have hvf := HV.out.below hb3
  clear HV
  obtain ⟨g1, e1, -, -, hrow, hset⟩ := hvf.trustsGet (by omega)
  injection e1 with e1; injection e1 with e1; subst e1
  have hfz := row_frozen hrow
  obtain ⟨p0, p1, p2, p3, p4, p5, p6, p7⟩ := hrow.here hi'
  have HR := Lib.hid hrow
  have HS := Lib.hid hset
  clear hrow hset hvf
  go_upto_region 8 with fail
  have hr5 := HR.out.set_ hi' nt
  have hg5 := gb_set (gb_set (gb_set (gb_set (gb_set (gb_set (gb_set (gb_set (gb_refl uf (some gt)) (i * 8) (.int .i64 nt.clock)) (i * 8 + 1) (.int .i64 nt.epoch)) (i * 8 + 2) (.int .i64 nt.cursor)) (i * 8 + 3) (.int .i64 nt.read)) (i * 8 + 4) (.int .i64 nt.written)) (i * 8 + 5) (.int .i64 nt.nread)) (i * 8 + 6) (.int .i64 nt.nwritten)) (i * 8 + 7) (.bool nt.failed)
  generalize World.setCell _ _ _ = w5 at hr5 hg5 ⊢
  have hk5 := hfz2.grownO hg5 (fun k e => ⟨by injection e; omega, fun y hy => by simp at hy; injection e; rcases hy with rfl | rfl | rfl | rfl | rfl <;> (simp only []; omega)⟩)
  have hv5 := HS.out w5 (x.trusts.set i nt) (by simp) hg5 (by rw [List.length_set]; exact hr5)
  clear hr5 hg5 HR HS hfz p0 p1 p2 p3 p4 p5 p6 p7 hfz2 kc0 kf0 kc1 kf1 kc2 kf2 kc3 kf3 kc4 kf4
  obtain ⟨kc0, kf0, kc1, kf1, kc2, kf2, kc3, kf3, kc4, kf4, -⟩ := hk5.rd
  obtain ⟨g1, e1, -, -, hrow, hset⟩ := hv5.cellsGet (by simp only []; omega)
  injection e1 with e1; injection e1 with e1; subst e1
  have hfz := row_frozen hrow
  obtain ⟨p0, p1⟩ := hrow.here hj
  have HR := Lib.hid hrow
  have HS := Lib.hid hset
  clear hrow hset hv5
  go_upto_region 9 with fail
  have hr6 := HR.out.set_ hj nc
  have hg6 := gb_set (gb_set (gb_refl w5 (some gc)) (j * 2) (.int .i64 nc.1)) (j * 2 + 1) (.int .i64 nc.2)
  generalize World.setCell _ _ _ = w6 at hr6 hg6 ⊢
  have hk6 := hk5.grownO hg6 (fun k e => ⟨by injection e; omega, fun y hy => by simp at hy; injection e; rcases hy with rfl | rfl | rfl | rfl | rfl <;> (simp only []; omega)⟩)
  have hv6 := HS.out w6 (x.cells.set j nc) (by simp) hg6 (by rw [List.length_set]; exact hr6)
  clear hr6 hg6 HR HS hfz p0 p1 hk5 kc0 kf0 kc1 kf1 kc2 kf2 kc3 kf3 kc4 kf4
  obtain ⟨kc0, kf0, kc1, kf1, kc2, kf2, kc3, kf3, kc4, kf4, -⟩ := hk6.rd
  have HV := Lib.hid hv6
  clear hv6
  go_wp2_with fail
  obtain ⟨w9, e9, ⟨d0, d1, d2, d3, d4, d5⟩, hb9, hg9⟩ := vol_end (w := w) (x0 := .int .i64 x.key) (x1 := .slice A' x.counts.length c') (x2 := .slice (some ⟨gt, 0, none⟩) x.trusts.length d') (x3 := .slice (some ⟨gc, 0, none⟩) x.cells.length e') (x4 := .slice (some ⟨b', o', none⟩) 2 s') (x5 := .int .i64 x.count) (hk6.at_ (p := w.heap.size + 1) (t := 45) (cs := zV) (by simp)) hk6.1 (by omega)
  rw [e9]
  exact bodyPost_ret (v := .tuple #[.agg (vX x A' c' (some ⟨gt, 0, none⟩) d' (some ⟨gc, 0, none⟩) e' b' o' s'), .int .i64 ns]) (by simp [results, Tryz.results58, go_sem, d0, d1, d2, d3, d4, d5]) rfl ⟨_, rfl, (HV.out.out hg9 (by omega)).mono (by omega), hb9⟩
theorem l12Step_calls (x : VolN) (A : Option Addr) (cap : Nat) (B : Option Addr) (tc : Nat) (C : Option Addr) (cc : Nat) (b off sc : Nat) (w : World) (hx : x.Short) (hcap : x.counts.length ≤ cap) (hA : Ints w .i64 w.heap.size A x.counts) (hB : Trs w w.heap.size B x.trusts) (hC : Cls w w.heap.size C x.cells) (hbb : b < w.heap.size) (h0 : SlotAt w w.heap.size b off x.s0) (h1 : SlotAt w w.heap.size b (off + 4) x.s1) (hfit : x.Fit) (hcur : x.CurOk) (r : Int) :
    Calls Tryz.prog 58 #[.agg (vX x A cap B tc C cc b off sc), .int .i64 r] w (VolAns1 w (stepVol x r)) := by
 by_cases hr : 0 ≤ firstOf x.key x.counts r
 ·exact l12Step_some x A cap B tc C cc b off sc w hx hcap hA hB hC hbb h0 h1 hfit hcur r hr
 ·have e : stepVol x r = (x, 1) := by unfold stepVol; rw [if_neg hr]
  rw [e]
  exact l12Step_none x A cap B tc C cc b off sc w hx hcap hA hB hC hbb h0 h1 r hr
theorem verdictOf_cursor (t : Tru) : (verdictOf t).1.cursor = 0 := by unfold verdictOf; split <;> rfl
theorem verdictOf_status (t : Tru) : (verdictOf t).2 = 5 ∨ (verdictOf t).2 = 4 := by unfold verdictOf; split <;> simp
theorem scanned_cursor (key : Int) (l : List Int) (x : Int) (t : Tru) (ct cv : Int) :
    ((scanned key l x t ct cv).2.2 = 0 ∧ t.cursor + 1 < l.getD x.toNat 0 ∧ (scanned key l x t ct cv).1.cursor = t.cursor + 1) ∨
    ((scanned key l x t ct cv).2.2 ≠ 0 ∧ ((scanned key l x t ct cv).1.cursor = t.cursor ∨ (scanned key l x t ct cv).1.cursor = 0)) := by
 unfold scanned
 split
 ·split
  ·exact .inr ⟨by simp, .inl rfl⟩
  ·split
   ·exact .inr ⟨by simp, .inl rfl⟩
   ·split
    ·exact .inr ⟨by simp, .inl rfl⟩
    ·split
     ·rename_i h
      exact .inl ⟨rfl, h, rfl⟩
     ·refine .inr ⟨?_, .inr (verdictOf_cursor _)⟩
      rcases verdictOf_status (scanMid key l x t ct cv) with e | e <;> simp only [e] <;> decide
 ·exact .inr ⟨by simp, .inr rfl⟩
theorem stepVol_len (x : VolN) (r : Int) : (stepVol x r).1.key = x.key ∧ (stepVol x r).1.counts = x.counts ∧ (stepVol x r).1.trusts.length = x.trusts.length ∧ (stepVol x r).1.cells.length = x.cells.length ∧ (stepVol x r).1.s0 = x.s0 ∧ (stepVol x r).1.s1 = x.s1 ∧ (stepVol x r).1.count = x.count := by
 unfold stepVol
 split <;> simp
theorem stepVol_short {x : VolN} (h : x.Short) (r : Int) : (stepVol x r).1.Short := by
 obtain ⟨e1, e2, e3, e4, e5, e6, e7⟩ := stepVol_len x r
 unfold VolN.Short at *
 rw [e2, e3, e4, e5, e6]; exact h
theorem stepVol_fit {x : VolN} (h : x.Fit) (r : Int) : (stepVol x r).1.Fit := by
 obtain ⟨e1, e2, e3, e4, e5, e6, e7⟩ := stepVol_len x r
 unfold VolN.Fit at *
 rw [e2, e3, e4]; exact h
theorem getD_set_ {α : Type} (L : List α) (k i : Nat) (v d : α) : (L.set k v).getD i d = if k = i ∧ k < L.length then v else L.getD i d := by
 rw [List.getD_eq_getElem?_getD, List.getD_eq_getElem?_getD, List.getElem?_set]
 by_cases h : k = i
 ·subst h
  by_cases h2 : k < L.length
  ·simp [h2]
  ·simp [h2]
 ·simp [h]
theorem stepVol_cur {x : VolN} (h : x.CurOk) (r : Int) : (stepVol x r).1.CurOk := by
 intro i hi
 rw [(stepVol_len x r).2.1] at hi ⊢
 have h0 := h i hi
 unfold stepVol
 split
 ·rename_i hf
  have hpr : planOk x.key x.counts ∧ 0 ≤ r ∧ r < x.counts.length := by
   refine Classical.byContradiction fun hn => ?_
   unfold firstOf at hf
   rw [if_neg hn] at hf
   omega
  simp only []
  rw [getD_set_]
  split
  ·rename_i hk
   obtain ⟨rfl, hk⟩ := hk
   rcases scanned_cursor x.key x.counts r (x.trusts.getD r.toNat default) (x.cells.getD (firstOf x.key x.counts r + (x.trusts.getD r.toNat default).cursor).toNat default).1 (x.cells.getD (firstOf x.key x.counts r + (x.trusts.getD r.toNat default).cursor).toNat default).2 with ⟨_, e2, e3⟩ | ⟨_, e3 | e3⟩ <;> rw [e3] <;> omega
  ·exact h0
 ·exact h0
theorem stepVol_zero {x : VolN} {r : Int} (hfit : x.Fit) (h : (stepVol x r).2 = 0) :
    (x.trusts.getD r.toNat default).cursor + 1 < x.counts.getD r.toNat 0 ∧ ((stepVol x r).1.trusts.getD r.toNat default).cursor = (x.trusts.getD r.toNat default).cursor + 1 := by
 unfold stepVol at h ⊢
 split at h
 ·rename_i hf
  rw [if_pos hf]
  have hpr : planOk x.key x.counts ∧ 0 ≤ r ∧ r < x.counts.length := by
   refine Classical.byContradiction fun hn => ?_
   unfold firstOf at hf
   rw [if_neg hn] at hf
   omega
  simp only [] at h ⊢
  rw [getD_set_, if_pos ⟨rfl, by rw [hfit.1]; omega⟩]
  rcases scanned_cursor x.key x.counts r (x.trusts.getD r.toNat default) (x.cells.getD (firstOf x.key x.counts r + (x.trusts.getD r.toNat default).cursor).toNat default).1 (x.cells.getD (firstOf x.key x.counts r + (x.trusts.getD r.toNat default).cursor).toNat default).2 with ⟨_, e2, e3⟩ | ⟨e1, _⟩
  ·exact ⟨e2, e3⟩
  ·exact absurd h e1
 ·simp at h
noncomputable def closeN (r : Int) : Nat → VolN → VolN × Int
 | 0, y => stepVol y r
 | n + 1, y => if (stepVol y r).2 = 0 then closeN r n (stepVol y r).1 else stepVol y r
noncomputable def closeVol (x : VolN) (r : Int) : VolN × Int := closeN r (x.counts.getD r.toNat 0 - (x.trusts.getD r.toNat default).cursor).toNat x
theorem closeN_on {r : Int} {n : Nat} {y : VolN} (h : (stepVol y r).2 = 0) : closeN r (n + 1) y = closeN r n (stepVol y r).1 := by rw [closeN, if_pos h]
theorem closeN_end {r : Int} {n : Nat} {y : VolN} (h : (stepVol y r).2 ≠ 0) : closeN r n y = stepVol y r := by
 cases n with
 | zero => rfl
 | succ n => rw [closeN, if_neg h]
def Sep (a b : List Nat) : Prop := ∀ y ∈ a, y ∉ b
theorem Sep.symm {a b : List Nat} (h : Sep a b) : Sep b a := fun y hy ha => h y ha hy
theorem pw_set {l : List (List Nat)} (h : l.Pairwise Sep) (i : Nat) (a : List Nat) (ha : ∀ x ∈ l, Sep x a) : (l.set i a).Pairwise Sep := by
 induction l generalizing i with
 | nil => simp
 | cons b t ih =>
   rw [List.pairwise_cons] at h
   cases i with
   | zero => rw [List.set_cons_zero, List.pairwise_cons]; exact ⟨fun y hy => (ha y (List.mem_cons_of_mem _ hy)).symm, h.2⟩
   | succ i =>
     rw [List.set_cons_succ, List.pairwise_cons]
     refine ⟨fun y hy => ?_, ih h.2 i (fun y hy => ha y (List.mem_cons_of_mem _ hy))⟩
     rcases List.mem_or_eq_of_mem_set hy with hy | rfl
     ·exact h.1 y hy
     ·exact ha b (List.mem_cons_self ..)
theorem mem_set_ {l : List (List Nat)} {i : Nat} {a x : List Nat} (h : x ∈ l.set i a) : x ∈ l ∨ x = a := List.mem_or_eq_of_mem_set h
theorem l12Copy_r (x : VolN) (v : Value) (w : World) (hx : x.Short) (hv : VolR w w.heap.size x v) : Calls Tryz.prog 81 #[v] w (NewVol w x) := by
 obtain ⟨A, cap, B, tc, C, cc, b, off, sc, rfl, hA, hB, hC, hbb, h0, h1, hcap⟩ := hv
 exact l12Copy_calls x A cap B tc C cc b off sc w hx hA hB hC hbb h0 h1
theorem VolO.parts {u : World} {base : Nat} {x : VolN} {v : Value} (h : VolO u base x v) :
    ∃ A c B d C e g A0 c0 C0 d0 A1 c1 C1 d1, v = .agg (vX x A c B d C e g 0 2) ∧
    IRow u base (.slice A x.counts.length c) x.counts ∧ TrRow u base (.slice B x.trusts.length d) x.trusts ∧ ClRow u base (.slice C x.cells.length e) x.cells ∧ base ≤ g ∧
    CellsAt u g 32 #[.int .i64 x.s0.count, .slice A0 x.s0.trusts.length c0, .int .i64 x.s0.mac, .slice C0 x.s0.cells.length d0, .int .i64 x.s1.count, .slice A1 x.s1.trusts.length c1, .int .i64 x.s1.mac, .slice C1 x.s1.cells.length d1] ∧
    TrRow u base (.slice A0 x.s0.trusts.length c0) x.s0.trusts ∧ ClRow u base (.slice C0 x.s0.cells.length d0) x.s0.cells ∧ TrRow u base (.slice A1 x.s1.trusts.length c1) x.s1.trusts ∧ ClRow u base (.slice C1 x.s1.cells.length d1) x.s1.cells ∧
    [blkOf (.slice A x.counts.length c), blkOf (.slice B x.trusts.length d), blkOf (.slice C x.cells.length e), [g], blkOf (.slice A0 x.s0.trusts.length c0), blkOf (.slice C0 x.s0.cells.length d0), blkOf (.slice A1 x.s1.trusts.length c1), blkOf (.slice C1 x.s1.cells.length d1)].Pairwise Sep ∧
    ∀ l ∈ [blkOf (.slice A x.counts.length c), blkOf (.slice B x.trusts.length d), blkOf (.slice C x.cells.length e), [g], blkOf (.slice A0 x.s0.trusts.length c0), blkOf (.slice C0 x.s0.cells.length d0), blkOf (.slice A1 x.s1.trusts.length c1), blkOf (.slice C1 x.s1.cells.length d1)], ∀ y ∈ l, y < u.heap.size := by
 obtain ⟨A, c, B, d, C, e, g, A0, c0, C0, d0, A1, c1, C1, d1, h0, h1, h2, h3, h4, h5, h6, h7, h8, h9, h10⟩ := h
 refine ⟨A, c, B, d, C, e, g, A0, c0, C0, d0, A1, c1, C1, d1, h0, h1, h2, h3, h4, h5, h6, h7, h8, h9, h10, ?_⟩
 intro l hl y hy
 simp only [List.mem_cons, List.not_mem_nil, or_false] at hl
 rcases hl with rfl | rfl | rfl | rfl | rfl | rfl | rfl | rfl
 ·exact (row_at h1 y hy).2
 ·exact (row_at h2 y hy).2
 ·exact (row_at h3 y hy).2
 ·rw [List.mem_singleton] at hy; subst hy; exact h5.lt
 ·exact (row_at h6 y hy).2
 ·exact (row_at h7 y hy).2
 ·exact (row_at h8 y hy).2
 ·exact (row_at h9 y hy).2
theorem sep_new {l a : List Nat} {N : Nat} (hl : ∀ y ∈ l, y < N) (ha : ∀ y ∈ a, N ≤ y) : Sep l a := fun y hy hm => by have := hl y hy; have := ha y hm; omega
theorem cellsAt_eq {w : World} {g : Nat} {t : TypeId} {cs ds : Array Value} (h : CellsAt w g t cs) (k : CellsAt w g t ds) : cs = ds := by
 unfold CellsAt at h k
 rw [h] at k
 injection k with k
 injection k
theorem VolO.cnt {u : World} {base : Nat} {x : VolN} {A B C : Option Addr} {c d e b o sc n0 n1 n2 : Nat} (h : VolO u base x (.agg #[.int .i64 x.key, .slice A n0 c, .slice B n1 d, .slice C n2 e, .slice (some ⟨b, o, none⟩) 2 sc, .int .i64 x.count])) (n : Int) : VolO u base { x with count := n } (.agg #[.int .i64 x.key, .slice A n0 c, .slice B n1 d, .slice C n2 e, .slice (some ⟨b, o, none⟩) 2 sc, .int .i64 n]) := by
 obtain ⟨A2, c2, B2, d2, C2, e2, g, A0, c0, C0, d0, A1, c1, C1, d1, hv, h1, h2, h3, h4, h5, h6, h7, h8, h9, h10⟩ := h
 refine ⟨A2, c2, B2, d2, C2, e2, g, A0, c0, C0, d0, A1, c1, C1, d1, ?_, h1, h2, h3, h4, h5, h6, h7, h8, h9, h10⟩
 simp only [Value.agg.injEq, Array.mk.injEq, List.cons.injEq] at hv
 obtain ⟨a1, a2, a3, a4, a5, a6, -⟩ := hv
 rw [a2, a3, a4, a5]
theorem VolO.slotsGet {u : World} {base : Nat} {x : VolN} {A B C : Option Addr} {c d e b o sc n0 n1 n2 : Nat} (h : VolO u base x (.agg #[.int .i64 x.key, .slice A n0 c, .slice B n1 d, .slice C n2 e, .slice (some ⟨b, o, none⟩) 2 sc, .int .i64 x.count])) : o = 0 ∧ sc = 2 ∧ base ≤ b ∧ b < u.heap.size ∧ ∃ A0 c0 C0 d0 A1 c1 C1 d1,
    CellsAt u b 32 #[.int .i64 x.s0.count, .slice A0 x.s0.trusts.length c0, .int .i64 x.s0.mac, .slice C0 x.s0.cells.length d0, .int .i64 x.s1.count, .slice A1 x.s1.trusts.length c1, .int .i64 x.s1.mac, .slice C1 x.s1.cells.length d1] ∧
    ∀ (u' : World) (k0 m0 k1 m1 : Int), u.grownBy u' (some b) → CellsAt u' b 32 #[.int .i64 k0, .slice A0 x.s0.trusts.length c0, .int .i64 m0, .slice C0 x.s0.cells.length d0, .int .i64 k1, .slice A1 x.s1.trusts.length c1, .int .i64 m1, .slice C1 x.s1.cells.length d1] →
      VolO u' base { x with s0 := { x.s0 with count := k0, mac := m0 }, s1 := { x.s1 with count := k1, mac := m1 } } (.agg #[.int .i64 x.key, .slice A n0 c, .slice B n1 d, .slice C n2 e, .slice (some ⟨b, o, none⟩) 2 sc, .int .i64 x.count]) := by
 obtain ⟨A2, c2, B2, d2, C2, e2, g, A0, c0, C0, d0, A1, c1, C1, d1, hv, h1, h2, h3, h4, h5, h6, h7, h8, h9, h10, hlt⟩ := h.parts
 have hv' := hv
 simp only [Value.agg.injEq, Array.mk.injEq, List.cons.injEq] at hv
 obtain ⟨a1, a2, a3, a4, a5, a6, -⟩ := hv
 simp only [Value.slice.injEq, Option.some.injEq, Addr.mk.injEq] at a5
 obtain ⟨⟨rfl, rfl, -⟩, -, rfl⟩ := a5
 refine ⟨rfl, rfl, h4, h5.lt, A0, c0, C0, d0, A1, c1, C1, d1, h5, fun u' k0 m0 k1 m1 hg hc => ?_⟩
 have np : ∀ i, i < 8 → i ≠ 3 → ∀ l, [blkOf (.slice A2 x.counts.length c2), blkOf (.slice B2 x.trusts.length d2), blkOf (.slice C2 x.cells.length e2), [b], blkOf (.slice A0 x.s0.trusts.length c0), blkOf (.slice C0 x.s0.cells.length d0), blkOf (.slice A1 x.s1.trusts.length c1), blkOf (.slice C1 x.s1.cells.length d1)][i]? = some l → b ∉ l := by
  intro i hi hne l hl hm
  obtain ⟨hi', rfl⟩ := List.getElem?_eq_some_iff.1 hl
  rcases Nat.lt_or_gt_of_ne hne with hlt3 | hgt3
  ·exact (List.pairwise_iff_getElem.1 h10) i 3 hi' (by simp) hlt3 b hm (by simp)
  ·exact (List.pairwise_iff_getElem.1 h10) 3 i (by simp) hi' hgt3 b (by simp) hm
 exact ⟨A2, c2, B2, d2, C2, e2, b, A0, c0, C0, d0, A1, c1, C1, d1, hv', row_keep h1 hg (np 0 (by omega) (by omega) _ rfl), row_keep h2 hg (np 1 (by omega) (by omega) _ rfl), row_keep h3 hg (np 2 (by omega) (by omega) _ rfl), h4, hc, row_keep h6 hg (np 4 (by omega) (by omega) _ rfl), row_keep h7 hg (np 5 (by omega) (by omega) _ rfl), row_keep h8 hg (np 6 (by omega) (by omega) _ rfl), row_keep h9 hg (np 7 (by omega) (by omega) _ rfl), h10⟩
theorem VolO.slotPut0 {u : World} {base : Nat} {x : VolN} {A B C : Option Addr} {c d e b o sc n0 n1 n2 : Nat} {v' : World} {s : SlN} {A9 C9 : Option Addr} {c9 d9 N M : Nat} {y0 y1 y2 y3 y4 y5 y6 y7 : Value} (h : VolO u base x (.agg #[.int .i64 x.key, .slice A n0 c, .slice B n1 d, .slice C n2 e, .slice (some ⟨b, o, none⟩) 2 sc, .int .i64 x.count])) (hT : TrRow v' N (.slice A9 s.trusts.length c9) s.trusts) (hC : ClRow v' M (.slice C9 s.cells.length d9) s.cells)
    (hN : u.heap.size ≤ N) (hM : u.heap.size ≤ M) (hd : Sep (blkOf (.slice A9 s.trusts.length c9)) (blkOf (.slice C9 s.cells.length d9))) (hold : CellsAt u b 32 #[y0, y1, y2, y3, y4, y5, y6, y7]) (hg : u.grownBy v' (some b)) (hc : CellsAt v' b 32 #[.int .i64 s.count, .slice A9 s.trusts.length c9, .int .i64 s.mac, .slice C9 s.cells.length d9, y4, y5, y6, y7]) : VolO v' base { x with s0 := s } (.agg #[.int .i64 x.key, .slice A n0 c, .slice B n1 d, .slice C n2 e, .slice (some ⟨b, o, none⟩) 2 sc, .int .i64 x.count]) := by
 obtain ⟨A2, c2, B2, d2, C2, e2, g, A0, c0, C0, d0, A1, c1, C1, d1, hv, h1, h2, h3, h4, h5, h6, h7, h8, h9, h10, hlt⟩ := h.parts
 have hv' := hv
 simp only [Value.agg.injEq, Array.mk.injEq, List.cons.injEq] at hv
 obtain ⟨a1, a2, a3, a4, a5, a6, -⟩ := hv
 simp only [Value.slice.injEq, Option.some.injEq, Addr.mk.injEq] at a5
 obtain ⟨⟨rfl, rfl, -⟩, -, rfl⟩ := a5
 have he := cellsAt_eq hold h5
 simp only [Array.mk.injEq, List.cons.injEq] at he
 obtain ⟨z0, z1, z2, z3, z4, z5, z6, z7, -⟩ := he
 subst z4 z5 z6 z7
 have np : ∀ i, i < 8 → i ≠ 3 → ∀ l, [blkOf (.slice A2 x.counts.length c2), blkOf (.slice B2 x.trusts.length d2), blkOf (.slice C2 x.cells.length e2), [b], blkOf (.slice A0 x.s0.trusts.length c0), blkOf (.slice C0 x.s0.cells.length d0), blkOf (.slice A1 x.s1.trusts.length c1), blkOf (.slice C1 x.s1.cells.length d1)][i]? = some l → b ∉ l := by
  intro i hi hne l hl hm
  obtain ⟨hi', rfl⟩ := List.getElem?_eq_some_iff.1 hl
  rcases Nat.lt_or_gt_of_ne hne with hlt3 | hgt3
  ·exact (List.pairwise_iff_getElem.1 h10) i 3 hi' (by simp) hlt3 b hm (by simp)
  ·exact (List.pairwise_iff_getElem.1 h10) 3 i (by simp) hi' hgt3 b (by simp) hm
 have kk := fun {vv : Value} {t size n : Nat} {xs : List Value} (hr : u.ownsRow base t size vv n xs) (i : Nat) (hi : i < 8) (hne : i ≠ 3) (hl : [blkOf (.slice A2 x.counts.length c2), blkOf (.slice B2 x.trusts.length d2), blkOf (.slice C2 x.cells.length e2), [b], blkOf (.slice A0 x.s0.trusts.length c0), blkOf (.slice C0 x.s0.cells.length d0), blkOf (.slice A1 x.s1.trusts.length c1), blkOf (.slice C1 x.s1.cells.length d1)][i]? = some (blkOf vv)) => row_keep hr hg (np i hi hne _ hl)
 have hbl := h5.lt
 have nT := row_mono hT (show base ≤ N by omega)
 have nC := row_mono hC (show base ≤ M by omega)
 refine ⟨A2, c2, B2, d2, C2, e2, b, A9, c9, C9, d9, A1, c1, C1, d1, hv', kk h1 0 (by omega) (by omega) rfl, kk h2 1 (by omega) (by omega) rfl, kk h3 2 (by omega) (by omega) rfl, h4, hc, nT, nC, kk h8 6 (by omega) (by omega) rfl, kk h9 7 (by omega) (by omega) rfl, ?_⟩
 have sT : ∀ y ∈ blkOf (.slice A9 s.trusts.length c9), u.heap.size ≤ y := fun y hy => Nat.le_trans hN (row_at hT y hy).1
 have sC : ∀ y ∈ blkOf (.slice C9 s.cells.length d9), u.heap.size ≤ y := fun y hy => Nat.le_trans hM (row_at hC y hy).1
 refine pw_set (pw_set h10 4 _ (fun l hl => sep_new (hlt l hl) sT)) 5 _ (fun l hl => ?_)
 rcases mem_set_ hl with hl | rfl
 ·exact sep_new (hlt l hl) sC
 ·exact hd
theorem VolO.slotPut1 {u : World} {base : Nat} {x : VolN} {A B C : Option Addr} {c d e b o sc n0 n1 n2 : Nat} {v' : World} {s : SlN} {A9 C9 : Option Addr} {c9 d9 N M : Nat} {y0 y1 y2 y3 y4 y5 y6 y7 : Value} (h : VolO u base x (.agg #[.int .i64 x.key, .slice A n0 c, .slice B n1 d, .slice C n2 e, .slice (some ⟨b, o, none⟩) 2 sc, .int .i64 x.count])) (hT : TrRow v' N (.slice A9 s.trusts.length c9) s.trusts) (hC : ClRow v' M (.slice C9 s.cells.length d9) s.cells)
    (hN : u.heap.size ≤ N) (hM : u.heap.size ≤ M) (hd : Sep (blkOf (.slice A9 s.trusts.length c9)) (blkOf (.slice C9 s.cells.length d9))) (hold : CellsAt u b 32 #[y4, y5, y6, y7, y0, y1, y2, y3]) (hg : u.grownBy v' (some b)) (hc : CellsAt v' b 32 #[y4, y5, y6, y7, .int .i64 s.count, .slice A9 s.trusts.length c9, .int .i64 s.mac, .slice C9 s.cells.length d9]) : VolO v' base { x with s1 := s } (.agg #[.int .i64 x.key, .slice A n0 c, .slice B n1 d, .slice C n2 e, .slice (some ⟨b, o, none⟩) 2 sc, .int .i64 x.count]) := by
 obtain ⟨A2, c2, B2, d2, C2, e2, g, A0, c0, C0, d0, A1, c1, C1, d1, hv, h1, h2, h3, h4, h5, h6, h7, h8, h9, h10, hlt⟩ := h.parts
 have hv' := hv
 simp only [Value.agg.injEq, Array.mk.injEq, List.cons.injEq] at hv
 obtain ⟨a1, a2, a3, a4, a5, a6, -⟩ := hv
 simp only [Value.slice.injEq, Option.some.injEq, Addr.mk.injEq] at a5
 obtain ⟨⟨rfl, rfl, -⟩, -, rfl⟩ := a5
 have he := cellsAt_eq hold h5
 simp only [Array.mk.injEq, List.cons.injEq] at he
 obtain ⟨z0, z1, z2, z3, z4, z5, z6, z7, -⟩ := he
 subst z0 z1 z2 z3
 have np : ∀ i, i < 8 → i ≠ 3 → ∀ l, [blkOf (.slice A2 x.counts.length c2), blkOf (.slice B2 x.trusts.length d2), blkOf (.slice C2 x.cells.length e2), [b], blkOf (.slice A0 x.s0.trusts.length c0), blkOf (.slice C0 x.s0.cells.length d0), blkOf (.slice A1 x.s1.trusts.length c1), blkOf (.slice C1 x.s1.cells.length d1)][i]? = some l → b ∉ l := by
  intro i hi hne l hl hm
  obtain ⟨hi', rfl⟩ := List.getElem?_eq_some_iff.1 hl
  rcases Nat.lt_or_gt_of_ne hne with hlt3 | hgt3
  ·exact (List.pairwise_iff_getElem.1 h10) i 3 hi' (by simp) hlt3 b hm (by simp)
  ·exact (List.pairwise_iff_getElem.1 h10) 3 i (by simp) hi' hgt3 b (by simp) hm
 have kk := fun {vv : Value} {t size n : Nat} {xs : List Value} (hr : u.ownsRow base t size vv n xs) (i : Nat) (hi : i < 8) (hne : i ≠ 3) (hl : [blkOf (.slice A2 x.counts.length c2), blkOf (.slice B2 x.trusts.length d2), blkOf (.slice C2 x.cells.length e2), [b], blkOf (.slice A0 x.s0.trusts.length c0), blkOf (.slice C0 x.s0.cells.length d0), blkOf (.slice A1 x.s1.trusts.length c1), blkOf (.slice C1 x.s1.cells.length d1)][i]? = some (blkOf vv)) => row_keep hr hg (np i hi hne _ hl)
 have hbl := h5.lt
 have nT := row_mono hT (show base ≤ N by omega)
 have nC := row_mono hC (show base ≤ M by omega)
 refine ⟨A2, c2, B2, d2, C2, e2, b, A0, c0, C0, d0, A9, c9, C9, d9, hv', kk h1 0 (by omega) (by omega) rfl, kk h2 1 (by omega) (by omega) rfl, kk h3 2 (by omega) (by omega) rfl, h4, hc, kk h6 4 (by omega) (by omega) rfl, kk h7 5 (by omega) (by omega) rfl, nT, nC, ?_⟩
 have sT : ∀ y ∈ blkOf (.slice A9 s.trusts.length c9), u.heap.size ≤ y := fun y hy => Nat.le_trans hN (row_at hT y hy).1
 have sC : ∀ y ∈ blkOf (.slice C9 s.cells.length d9), u.heap.size ≤ y := fun y hy => Nat.le_trans hM (row_at hC y hy).1
 refine pw_set (pw_set h10 6 _ (fun l hl => sep_new (hlt l hl) sT)) 7 _ (fun l hl => ?_)
 rcases mem_set_ hl with hl | rfl
 ·exact sep_new (hlt l hl) sC
 ·exact hd
end Go.Proofs.YtjbnknccnhdapaaGreat.Mx

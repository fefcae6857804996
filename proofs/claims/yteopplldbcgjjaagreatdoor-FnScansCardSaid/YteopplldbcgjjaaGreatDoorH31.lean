import Derived.Test.YteopplldbcgjjaaGreatDoorH30
import Derived.Test.YteopplldbcgjjaaGreatDoorH28
import Derived.Test.YteopplldbcgjjaaGreatDoorH17
import Derived.Test.YteopplldbcgjjaaGreatDoorH02
namespace Go.Proofs.YteopplldbcgjjaaGreatDoor.Mx
open Go.ChangeShapes Go.WideShapes Go.ChangeAt Go.RowKit
set_option linter.unusedVariables false
open Go.Lib (hid)
set_option maxHeartbeats 64000000
def TouS (v w : World) (g : Nat) (A : Option Addr) (l : List Int) (cap : Nat) (e : Ending) (w' : World) : Prop :=
 ∃ (key : Int) (Q : Option Addr) (zs : List Int) (c : Nat) (t : Tru) (x ct cv : Int), e = .returned (.tuple #[.agg (pA key Q zs.length c), .agg (tR t), .int .i64 x, .agg (cA ct cv)]) ∧ I64 x ∧ I64 ct ∧ I64 cv ∧ zs.length ≤ 5 ∧ zs.length ≤ c ∧ TruI t ∧ Row w' w.heap.size 2 (.slice Q zs.length c) zs ∧ St v g A l cap w' ∧ w.grownBy w' (some g)
theorem TouS.drew {v w u : World} {g : Nat} {A : Option Addr} {l : List Int} {cap : Nat} {e : Ending} (h : TouS v w g A l cap e u) : TouS v w g A l cap e u.drew := by
 obtain ⟨key, Q, zs, c, t, x, ct, cv, h1, h2, h3, h4, h5, h6, h7, h8, h9, h10⟩ := h
 exact ⟨key, Q, zs, c, t, x, ct, cv, h1, h2, h3, h4, h5, h6, h7, ⟨h8.1.drew, h8.2⟩, h9.drew, gb_drew h10⟩
def T8 (v w : World) (g : Nat) (A : Option Addr) (l : List Int) (cap bv bt bc : Nat) (VC : Array Value) (Q : Option Addr) (zs : List Int) (c : Nat) (t : Tru) (ct cv : Int) (u : World) : Prop :=
 KG w v g A l cap [(bc, 30, (cA ct cv)), (bt, 28, (tR t)), (bv, 114, VC), (w.heap.size + 1 + 1, 30, zC), (w.heap.size + 1, 28, zT), (w.heap.size, 26, zP)] u ∧ RowB u (w.heap.size + 1 + 1 + 1) bv Q zs c ∧ (w.heap.size + 1 + 1 < bv ∧ bv < bt ∧ bt < bc) ∧ zs.length ≤ 5 ∧ zs.length ≤ c ∧ TruI t ∧ I64 ct ∧ I64 cv
section
variable {v w u u' : World} {g : Nat} {A : Option Addr} {l : List Int} {cap bv bt bc : Nat} {VC : Array Value} {Q : Option Addr} {zs : List Int} {c : Nat} {t : Tru} {ct cv key : Int}
theorem T8.step (h : T8 v w g A l cap bv bt bc VC Q zs c t ct cv u) (hs : St v g A l cap u') (hg : u.grownBy u' (some g)) : T8 v w g A l cap bv bt bc VC Q zs c t ct cv u' := by
 obtain ⟨h1, h2, h3⟩ := h
 exact ⟨h1.step hs hg, h2.grown hg (.inl (by have := h1.2.2.1; omega)), h3⟩
theorem T8.drew (h : T8 v w g A l cap bv bt bc VC Q zs c t ct cv u) : T8 v w g A l cap bv bt bc VC Q zs c t ct cv u.drew := ⟨h.1.drew, h.2.1.drew, h.2.2⟩
theorem T8.tset (h : T8 v w g A l cap bv bt bc VC Q zs c t ct cv u) {t' : Tru} (ht : TruI t') (hg : u.grownBy u' (some bt)) (hc : CellsAt u' bt 28 (tR t')) : T8 v w g A l cap bv bt bc VC Q zs c t' ct cv u' := by
 obtain ⟨h1, h2, ⟨h3, h4, h5⟩, h6, h7, h8, h9, h10⟩ := h
 exact ⟨h1.put (k := 1) rfl (by unfold Apart; simp <;> omega) hg hc, h2.grown hg (.inr (by omega)), ⟨h3, h4, h5⟩, h6, h7, ht, h9, h10⟩
theorem T8.cset (h : T8 v w g A l cap bv bt bc VC Q zs c t ct cv u) {ct' cv' : Int} (h0 : I64 ct') (h1' : I64 cv') (hg : u.grownBy u' (some bc)) (hc : CellsAt u' bc 30 (cA ct' cv')) : T8 v w g A l cap bv bt bc VC Q zs c t ct' cv' u' := by
 obtain ⟨h1, h2, ⟨h3, h4, h5⟩, h6, h7, h8, h9, h10⟩ := h
 exact ⟨h1.put (k := 0) rfl (by unfold Apart; simp <;> omega) hg hc, h2.grown hg (.inr (by omega)), ⟨h3, h4, h5⟩, h6, h7, h8, h0, h1'⟩
theorem T8.t0 (h : T8 v w g A l cap bv bt bc VC Q zs c t ct cv u) {x : Int} (hx : I64 x) : T8 v w g A l cap bv bt bc VC Q zs c { t with clock := x } ct cv (u.setCell ⟨bt, 0, none⟩ (.int .i64 x)) := by
 obtain ⟨a0, a1, a2, a3, a4, a5, a6⟩ := h.2.2.2.2.2.1
 exact h.tset ⟨hx, a1, a2, a3, a4, a5, a6⟩ (gb_set (gb_refl u (some bt)) 0 (.int .i64 x)) ((h.1.at_ (p := bt) (t := 28) (cs := (tR t)) (by simp)).set_ 0 _)
theorem T8.t2 (h : T8 v w g A l cap bv bt bc VC Q zs c t ct cv u) {x : Int} (hx : I64 x) : T8 v w g A l cap bv bt bc VC Q zs c { t with cursor := x } ct cv (u.setCell ⟨bt, 2, none⟩ (.int .i64 x)) := by
 obtain ⟨a0, a1, a2, a3, a4, a5, a6⟩ := h.2.2.2.2.2.1
 exact h.tset ⟨a0, a1, hx, a3, a4, a5, a6⟩ (gb_set (gb_refl u (some bt)) 2 (.int .i64 x)) ((h.1.at_ (p := bt) (t := 28) (cs := (tR t)) (by simp)).set_ 2 _)
theorem T8.t3 (h : T8 v w g A l cap bv bt bc VC Q zs c t ct cv u) {x : Int} (hx : I64 x) : T8 v w g A l cap bv bt bc VC Q zs c { t with read := x } ct cv (u.setCell ⟨bt, 3, none⟩ (.int .i64 x)) := by
 obtain ⟨a0, a1, a2, a3, a4, a5, a6⟩ := h.2.2.2.2.2.1
 exact h.tset ⟨a0, a1, a2, hx, a4, a5, a6⟩ (gb_set (gb_refl u (some bt)) 3 (.int .i64 x)) ((h.1.at_ (p := bt) (t := 28) (cs := (tR t)) (by simp)).set_ 3 _)
theorem T8.t7 (h : T8 v w g A l cap bv bt bc VC Q zs c t ct cv u) : T8 v w g A l cap bv bt bc VC Q zs c { t with failed := true } ct cv (u.setCell ⟨bt, 7, none⟩ (.bool true)) :=
 h.tset h.2.2.2.2.2.1 (gb_set (gb_refl u (some bt)) 7 (.bool true)) ((h.1.at_ (p := bt) (t := 28) (cs := (tR t)) (by simp)).set_ 7 _)
theorem T8.c0 (h : T8 v w g A l cap bv bt bc VC Q zs c t ct cv u) {x : Int} (hx : I64 x) : T8 v w g A l cap bv bt bc VC Q zs c t x cv (u.setCell ⟨bc, 0, none⟩ (.int .i64 x)) :=
 h.cset hx h.2.2.2.2.2.2.2 (gb_set (gb_refl u (some bc)) 0 (.int .i64 x)) ((h.1.at_ (p := bc) (t := 30) (cs := (cA ct cv)) (by simp)).set_ 0 _)
theorem T8.end_ (h : T8 v w g A l cap bv bt bc VC Q zs c t ct cv u) {x : Int} (hx : I64 x) : ∃ w4, ((((((((((((u.setCell ⟨w.heap.size, 0, none⟩ (.int .i64 key)).setCell ⟨w.heap.size, 1, none⟩ (.slice Q zs.length c)).setCell ⟨w.heap.size + 1, 0, none⟩ (.int .i64 t.clock)).setCell ⟨w.heap.size + 1, 1, none⟩ (.int .i64 t.epoch)).setCell ⟨w.heap.size + 1, 2, none⟩ (.int .i64 t.cursor)).setCell ⟨w.heap.size + 1, 3, none⟩ (.int .i64 t.read)).setCell ⟨w.heap.size + 1, 4, none⟩ (.int .i64 t.written)).setCell ⟨w.heap.size + 1, 5, none⟩ (.int .i64 t.nread)).setCell ⟨w.heap.size + 1, 6, none⟩ (.int .i64 t.nwritten)).setCell ⟨w.heap.size + 1, 7, none⟩ (.bool t.failed)).setCell ⟨w.heap.size + 1 + 1, 0, none⟩ (.int .i64 ct)).setCell ⟨w.heap.size + 1 + 1, 1, none⟩ (.int .i64 cv)) = w4 ∧
      ((∀ i, w4.cell? ⟨w.heap.size, i, none⟩ = (pA key Q zs.length c)[i]?) ∧ (∀ i, w4.cell? ⟨w.heap.size + 1, i, none⟩ = (tR t)[i]?) ∧ (∀ i, w4.cell? ⟨w.heap.size + 1 + 1, i, none⟩ = (cA ct cv)[i]?)) ∧ TouS v w g A l cap (.returned (.tuple #[.agg (pA key Q zs.length c), .agg (tR t), .int .i64 x, .agg (cA ct cv)])) w4 := by
 obtain ⟨h1, h2, ⟨h3, h4, h5⟩, h6, h7, h8, h9, h10⟩ := h
 have p1 := plan_put (x0 := .int .i64 key) (x1 := .slice Q zs.length c) (h1.at_ (p := w.heap.size) (t := 26) (cs := zP) (by simp))
 have k1 := h1.put (k := 5) rfl (by unfold Apart; simp <;> omega) p1.2 p1.1
 have r1 := h2.grown p1.2 (.inl (by omega))
 have p2 := tru_put (x0 := .int .i64 t.clock) (x1 := .int .i64 t.epoch) (x2 := .int .i64 t.cursor) (x3 := .int .i64 t.read) (x4 := .int .i64 t.written) (x5 := .int .i64 t.nread) (x6 := .int .i64 t.nwritten) (x7 := .bool t.failed) (k1.at_ (p := w.heap.size + 1) (t := 28) (cs := zT) (by simp [putBox]))
 have k2 := k1.put (k := 4) rfl (by unfold Apart putBox; simp <;> omega) p2.2 p2.1
 have r2 := r1.grown p2.2 (.inl (by omega))
 have p3 := plan_put (x0 := .int .i64 ct) (x1 := .int .i64 cv) (k2.at_ (p := w.heap.size + 1 + 1) (t := 30) (cs := zC) (by simp [putBox]))
 have k3 := k2.put (k := 3) rfl (by unfold Apart putBox; simp <;> omega) p3.2 p3.1
 have r3 := r2.grown p3.2 (.inl (by omega))
 exact ⟨_, rfl, ⟨(k3.at_ (p := w.heap.size) (t := 26) (cs := (pA key Q zs.length c)) (by simp [putBox])).cell, (k3.at_ (p := w.heap.size + 1) (t := 28) (cs := (tR t)) (by simp [putBox])).cell, (k3.at_ (p := w.heap.size + 1 + 1) (t := 30) (cs := (cA ct cv)) (by simp [putBox])).cell⟩, key, Q, zs, c, t, x, ct, cv, rfl, hx, h9, h10, h6, h7, h8, r3.1.mono (by omega), k3.2.1, k3.1⟩
end
theorem regionOf_there {key : Int} {l : List Int} {a : Int} (h : planOk key l) (h0 : 0 ≤ a) (h1 : a < upTo l l.length) : 0 ≤ regionOf key l a := by
 unfold regionOf
 rw [if_pos ⟨h, h0⟩]
 rcases regionFrom_is (l := l) (at_ := a) l.length 0 (by omega) (by rw [upTo_zero]; exact h0) with ⟨i, hi, e, _⟩ | ⟨e, hl⟩
 ·rw [e]; omega
 ·omega
theorem i64_wrap (z : Int) : I64 (IntKind.i64.wrap z) := by
 rw [IntWalk.i64_left]
 unfold I64 wrap64
 omega
set_option maxRecDepth 20000 in
theorem draw8_calls (v : World) (g : Nat) (A : Option Addr) (l : List Int) (cap : Nat) (w : World) (hn : l.length ≤ 4096) (h : St v g A l cap w) :
    Calls Tryz.prog 28 #[.pointer (some ⟨g, 0, none⟩)] w (TouS v w g A l cap) := by
 have HN := hid (show l.length ≤ maxLen by unfold maxLen; omega)
 have HM := hid hn
 have K0 := hid ((((KG.start h).put1 w.heap.size 26 zP rfl).put1 (w.heap.size + 1) 28 zT (by simp)).put1 (w.heap.size + 1 + 1) 30 zC (by simp))
 have Z0 := hid (show (((w.alloc (.cells zP 26)).alloc (.cells zT 28)).alloc (.cells zC 30)).heap.size = w.heap.size + 1 + 1 + 1 by simp)
 clear hn h
 go_enter Tryz.func28, Tryz.ntmps28
 go_upto_region 1 with fail
 generalize World.alloc (World.alloc _ _) _ = w0 at K0 Z0 ⊢
 go_wp2_with fail
 refine (draw12_calls v g A l cap _ HM.out K0.out.2.1).mono ?_; rintro e w1 ⟨y, cs, rfl, hi, hv, s1, g1⟩
 have hk1 := K0.out.step s1 g1
 rw [Z0.out] at hv
 have hz1 : w.heap.size + 1 + 1 < w1.heap.size := hk1.lt (x := (w.heap.size + 1 + 1, 30, zC)) (by simp)
 have h5 : y.counts.length ≤ 4 := hi.1.2.1.2
 obtain ⟨A', c', B', d', C', e', b', s', rfl, hrow, hcc, -⟩ := hv.open_ hi
 have RB1 := RowB.of hrow
 have HI := hid hi
 have k2 := hk1.put1 w1.heap.size 114 (vX y A' c' B' d' C' e' b' 0 s') rfl
 have v2 := hv.below ((Below.refl _ _).alloc (Nat.le_refl _) (.cells (vX y A' c' B' d' C' e' b' 0 s') 114))
 have rb2 := RB1.below ((Below.refl _ _).alloc (Nat.le_refl _) (.cells (vX y A' c' B' d' C' e' b' 0 s') 114))
 clear hi hk1 hv hrow RB1 s1 g1 K0 Z0
 go_upto_region 2 with fail
 generalize hw2 : World.alloc w1 _ = w2 at k2 v2 rb2 ⊢
 clear hw2
 have hpos := HI.out.pos
 have hcl := HI.out.2.2.1.len HI.out.1
 have hlen : 0 < y.cells.length := by
  have h0 := HI.out.1.2.2.1 0 (by have := HI.out.1.2.1.1; omega)
  have h1 := upTo_mono HI.out.1.2.2.1 (i := 0 + 1) (j := y.counts.length) (by have := HI.out.1.2.1.1; omega) (Nat.le_refl _)
  have h2 := upTo_succ y.counts (show 0 < y.counts.length by have := HI.out.1.2.1.1; omega)
  rw [upTo_zero] at h2
  omega
 obtain ⟨X0, Y0, X1, Y1, X2, Y2, X3, Y3, -⟩ := k2.rd
 have HV := hid v2
 have HRB := hid rb2
 have hcl1 := hcl.1
 have hcl2 := hcl.2
 have HCL := hid hcl1
 clear v2 rb2 hcl hcl1
 go_wp2_with fail
 refine (below_st v g A l cap _ _ HN.out k2.2.1 (by omega)).mono ?_; rintro e w3 ⟨x, rfl, ⟨x0, x1⟩, s3, g3⟩
 obtain ⟨k, rfl⟩ := Int.eq_ofNat_of_zero_le x0
 have hk : k < y.cells.length := by omega
 have k3 := k2.step s3 g3
 have hgw : g < w.heap.size := k2.2.2.1
 have HV3 := hid (HV.out.out g3 (by omega))
 have HRB3 := hid (HRB.out.grown g3 (.inl (by omega)))
 clear X0 Y0 X1 Y1 X2 Y2 X3 Y3 k2 s3 g3 HV HRB
 obtain ⟨i, hreg, hi', hge, hlt⟩ : ∃ i : Nat, regionOf y.key y.counts (k : Int) = i ∧ i < y.counts.length ∧ upTo y.counts i ≤ k ∧ (k : Int) < upTo y.counts (i + 1) := by
  have hr : 0 ≤ regionOf y.key y.counts (k : Int) := regionOf_there HI.out.1 (by omega) (by rw [← HCL.out]; omega)
  obtain ⟨i, er, hi, hp, q0, q1, q2⟩ := regionOf_up hr
  exact ⟨i, er, hi, q1, q2⟩
 have hit : i < y.trusts.length := by have := HI.out.2.1.2.1; omega
 have hit' : (i : Int) < (y.trusts.length : Int) := by omega
 have hi0 : (0 : Int) ≤ i := by omega
 have hk' : (k : Int) < (y.cells.length : Int) := by omega
 have hk0 : (0 : Int) ≤ k := by omega
 obtain ⟨gt, rfl, hgt0, hgt1, htr, -⟩ := HV3.out.trustsGet hpos
 obtain ⟨gc, rfl, hgc0, hgc1, hcr, -⟩ := HV3.out.cellsGet hlen
 have HT := hid (htr.here hit)
 have HC := hid (hcr.here hk)
 have HTI := hid (HI.out.2.1.i64 i hit)
 have hcI : I64 (y.cells.getD k default).1 ∧ I64 (y.cells.getD k default).2 := by
  have := HI.out.2.2.1.1 k hk
  unfold isCell isTm isVal at this
  exact ⟨⟨by omega, by omega⟩, ⟨by omega, by omega⟩⟩
 have HCI := hid hcI
 have R0 := fun (u : World) (hb : Below w3.heap.size w3 u) => specRegion_calls y.key (k : Int) A' y.counts c' u (by unfold maxLen; omega) hcc (by
  obtain ⟨A2, c2, e2, hI⟩ := (HRB3.out.below hb).1.reads
  injection e2 with e2 e3 e4
  subst e2
  exact hI)
 rw [hreg] at R0
 have R := hid R0
 generalize y.trusts.getD i default = t at HT HTI
 generalize y.cells.getD k default = cel at HC HCI
 obtain ⟨ct, cv⟩ := cel
 clear R0 htr hcr hcI hge hlt hreg hgt0 hgc0 x0 x1 HI HCL HV3
 go_upto_region 3 with fail
 refine wp_region_free [false, false, false, false, false, true, false, false, true, true] (ShM [(5, .int .i64 i)] [8]) (fun D γ u => MadeC w3 (w3.heap.size) [] [] [(8, 9, 28, (tR t))] D γ u) (by kernel_rfl) (by kernel_rfl) (fun γ => by kernel_rfl) (fun D γ γ' w ha h => h.loc ha) (ShM.inh _ _) (fun γ => MadeC.start (ResC.start (Kept.refl _) (fun x hx => by cases hx)) (Nat.le_refl _) (Nat.le_refl _) (fun x hx => by cases hx) (fun x hx => by cases hx)) (fun γ hγ => ?_)
 have g5 : γ 5 = .int .i64 i := hγ 5 rfl
 have g9 : γ 9 = undef := hγ 9 rfl
 obtain ⟨gT, g8⟩ : ∃ g : Nat, γ 8 = .pointer (some ⟨g, 0, none⟩) := hγ 8 rfl
 apply Exists.intro
 refine ⟨fun D => ?_, ?_, ?_⟩
 ·simp only [hushL, cond_true, cond_false, Nat.reduceAdd, g5, g9, g8]
  iterate 10 (first
   | go_big_quiet_skip
   | (go_big_quiet_want
      go_big_quiet_op
      first
       | go_big_quiet_on
       | (apply Exists.intro
          refine ⟨fun u hu => ?_, ?_⟩
          ·first
             | with_reducible rfl
             | (have hk9 := k3.below hu.1.1.1; obtain ⟨X0, Y0, X1, Y1, X2, Y2, X3, Y3, -⟩ := hk9.rd; obtain ⟨tc0, tc1, tc2, tc3, tc4, tc5, tc6, tc7⟩ := HT.out.below hu.1.1.1 hgt1; go_simp; first | done | with_reducible rfl)
          go_big_quiet_on)))
  exact wpQuiet_nil rfl
 ·simp only [freeOk, Nat.reduceAdd]
  refine ⟨fun D u hD hd hu => ?_, fun D u hD hd hu => ?_, fun D u hD hd hu => ?_, trivial⟩
  ·have hb := hu.1.1.1
   exact steps_call ((R.out u hb).mono fun e w' ⟨he, hb⟩ => ⟨_, he, rfl, hu.below hb 5 _ (by simp)⟩) rfl rfl rfl rfl (by kernel_rfl)
  ·exact steps_alloc (cs := zT) rfl (by kernel_rfl) ⟨⟨_, rfl⟩, hu.made (j := 9) (t := 28) (V := (tR t)) (by simp) (by simp) (by simp) hD (by decide) rfl⟩
  ·have dk := hd { on := 8, ground := Ground.data } (by simp) rfl rfl
   obtain ⟨g0, e1, z, hz, hzs⟩ := hu.box (k := 8) (j := 9) (t := 28) (V := (tR t)) (by simp) dk
   obtain rfl : gT = g0 := by rw [g8] at e1; simpa using e1
   exact steps_store hz rfl rfl rfl (by kernel_rfl) hzs (by simp [Value.oneCell']) (fun w' hc hg => ⟨rfl, hu.filled (k := 8) (t := 28) (V := (tR t)) (by simp) dk (by simp) (by simp) (by decide) e1 hg hc _⟩)
 ·intro D uf hD hu
  have hb3 := hu.1.1.1
  have hf := k3.below hb3
  obtain ⟨g0, e1, hge8, hgc8⟩ := hu.doneM (k := 8) (j := 9) (t := 28) (V := (tR t)) (by simp) (hD 8 (by simp) rfl) (hD 9 (by simp) rfl)
  obtain rfl : gT = g0 := by rw [g8] at e1; simpa using e1
  clear e1
  have hfz1 := hf.more (Nat.le_trans k3.1.size hge8) hgc8
  clear hu hD
  obtain ⟨X0, Y0, X1, Y1, X2, Y2, X3, Y3, X4, Y4, -⟩ := hfz1.rd
  have HRB4 := hid (HRB3.out.below hb3)
  have HC4 := hid (HC.out.below hb3 hgc1)
  clear HRB3 HC HT R hb3
  obtain ⟨cc0, cc1⟩ := HC4.out
  have hbt : w1.heap.size < gT := Nat.lt_of_lt_of_le (k3.lt (x := (w1.heap.size, 114, (vX y A' c' (some ⟨gt, 0, none⟩) d' (some ⟨gc, 0, none⟩) e' b' 0 s'))) (by simp)) hge8
  have lgT := hfz1.lt (x := (gT, 28, (tR t))) (by simp)
  simp only [] at lgT
  have k5 := hfz1.put1 uf.heap.size 30 (cA ct cv) rfl
  have H5 := hid (show T8 v w g A l cap w1.heap.size gT uf.heap.size (vX y A' c' (some ⟨gt, 0, none⟩) d' (some ⟨gc, 0, none⟩) e' b' 0 s') A' y.counts c' t ct cv _ from ⟨k5, HRB4.out.below ((Below.refl _ _).alloc (Nat.le_refl _) (.cells (cA ct cv) 30)), ⟨hz1, hbt, lgT⟩, by omega, hcc, HTI.out, HCI.out.1, HCI.out.2⟩)
  go_upto_region 5 with fail
  clear hfz1 k5 k3 HRB4 HC4 cc0 cc1 HTI HCI lgT X0 Y0 X1 Y1 X2 Y2 X3 Y3 X4 Y4
  generalize hw5 : World.alloc _ _ = w5 at H5 ⊢
  clear hw5
  generalize uf.heap.size = bc at H5 ⊢
  generalize gT = bt at H5 ⊢
  obtain ⟨x, hxx⟩ : ∃ x : Int, x = (k : Int) := ⟨_, rfl⟩
  have HX := hid (show I64 x from ⟨by omega, by omega⟩)
  rw [← hxx]
  clear hxx hk hk' hk0 hit hit' hi0 hi' hlen
  try clear hcl2 hpos hgt1 hgc1
  generalize hVC : ((vX y A' c' (some ⟨gt, 0, none⟩) d' (some ⟨gc, 0, none⟩) e' b' 0 s') : Array Value) = VC at H5
  go_wp2_with fail
  refine (once_st v g A l cap 6 _ HN.out H5.out.1.2.1 (by omega)).mono ?_; rintro e w6 ⟨b, rfl, s6, g6⟩
  have H6 := hid (H5.out.step s6 g6)
  clear s6 g6 H5
  rcases b with _ | _
  case' false =>
   have H9 := H6
   have HX9 := HX
   clear H6 HX
   go_upto_region 21 with fail
  case' true =>
   go_wp2_with fail
   refine (below_st v g A l cap 7 w6 HN.out H6.out.1.2.1 (by omega)).mono ?_; rintro e w7 ⟨n, rfl, ⟨n0, n1⟩, s7, g7⟩
   have H7 := hid (H6.out.step s7 g7)
   clear s7 g7 H6
   have hn7 : n = 0 ∨ n = 1 ∨ n = 2 ∨ n = 3 ∨ n = 4 ∨ n = 5 ∨ n = 6 := by omega
   clear n0 n1
   rcases hn7 with rfl | rfl | rfl | rfl | rfl | rfl | rfl
  case' inl =>
   go_wp2_with fail
   refine (draw6Any_calls v g A l cap w7 HN.out H7.out.1.2.1).mono ?_; rintro e w8 ⟨ct', cv', rfl, i0, i1, s8, g8⟩
   have H8 := hid (H7.out.step s8 g8)
   obtain ⟨X0, Y0, -⟩ := H8.out.1.rd
   have p1 := plan_put (x0 := .int .i64 ct') (x1 := .int .i64 cv') (H8.out.1.at_ (p := bc) (t := 30) (cs := (cA ct cv)) (by simp))
   have H9 := hid (H8.out.cset i0 i1 p1.2 p1.1)
   have HX9 := HX
   clear s8 g8 H7 p1 HX
   go_upto_region 21 with fail
   clear X0 Y0 H8
   generalize World.setCell _ _ _ = w9 at H9 ⊢
  case' inr.inl =>
   go_upto_region 10 with fail
   obtain ⟨X0, Y0, X1, Y1, -⟩ := H7.out.1.rd
   have HX9 := HX
   clear HX
   go_region_with (go_at_call 31; refine (below_st v g A l cap 2 _ HN.out ?_ (by omega)).mono ?_; exact H7.out.1.2.1.drew; rintro e w8 ⟨m, rfl, im, s8, g8⟩; have H8 := hid (H7.out.drew.step s8 g8); clear s8 g8 im; obtain ⟨mc0, mf0, mc1, mf1, -⟩ := H8.out.1.rd)
   all_goals
    have H9 := hid (H8.out.c0 (i64_wrap (t.clock + m)))
    go_upto_region 21 with fail
    generalize World.setCell _ _ _ = w9 at H9 ⊢
    generalize IntKind.i64.wrap (t.clock + m) = zz at H9 ⊢
    clear X0 Y0 X1 Y1 mc0 mf0 mc1 mf1 H8 H7
  case' inr.inr.inl =>
   go_upto_region 12 with fail
   obtain ⟨X0, Y0, X1, Y1, -⟩ := H7.out.1.rd
   have H9 := hid H7.out.t7
   have HX9 := HX
   clear HX
   go_upto_region 21 with fail
   clear X0 Y0 X1 Y1 H7
   generalize World.setCell _ _ _ = w9 at H9 ⊢
  case' inr.inr.inr.inl =>
   go_wp2_with fail
   refine (below_st v g A l cap 2 w7 HN.out H7.out.1.2.1 (by omega)).mono ?_; rintro e w8 ⟨m, rfl, im, s8, g8⟩
   have H8 := hid (H7.out.step s8 g8)
   obtain ⟨X0, Y0, X1, Y1, -⟩ := H8.out.1.rd
   have H9 := hid (H8.out.t0 (x := 100000 - m) ⟨by omega, by omega⟩)
   have hwr : IntKind.i64.wrap (100000 - m) = 100000 - m := IntWalk.i64_in _ (by omega)
   have HX9 := HX
   clear s8 g8 H7 im HX
   go_upto_region 21 with fail
   clear X0 Y0 X1 Y1 H8
   generalize World.setCell _ _ _ = w9 at H9 ⊢
  case' inr.inr.inr.inr.inl =>
   go_wp2_with fail
   refine (from_st v g A l cap (-1) 3 w7 HN.out H7.out.1.2.1 (by omega) (by omega) (by omega)).mono ?_; rintro e w8 ⟨m, rfl, im, s8, g8⟩
   have H8 := hid (H7.out.step s8 g8)
   obtain ⟨X0, Y0, X1, Y1, -⟩ := H8.out.1.rd
   have H9 := hid (H8.out.t2 (x := m) ⟨by omega, by omega⟩)
   have HX9 := HX
   clear s8 g8 H7 im HX
   go_upto_region 21 with fail
   clear X0 Y0 X1 Y1 H8
   generalize World.setCell _ _ _ = w9 at H9 ⊢
  case' inr.inr.inr.inr.inr.inr =>
   go_wp2_with fail
   refine (below_st v g A l cap 2 w7 HN.out H7.out.1.2.1 (by omega)).mono ?_; rintro e w8 ⟨m, rfl, im, s8, g8⟩
   have H8 := hid (H7.out.step s8 g8)
   obtain ⟨X0, Y0, X1, Y1, -⟩ := H8.out.1.rd
   have H9 := hid (H8.out.t3 (x := 4611686018427387903 - m) ⟨by omega, by omega⟩)
   have hwr : IntKind.i64.wrap (4611686018427387903 - m) = 4611686018427387903 - m := IntWalk.i64_in _ (by omega)
   have HX9 := HX
   clear s8 g8 H7 im HX
   go_upto_region 21 with fail
   clear X0 Y0 X1 Y1 H8
   generalize World.setCell _ _ _ = w9 at H9 ⊢
  case' inr.inr.inr.inr.inr.inl =>
   go_wp2_with fail
   refine (from_st v g A l cap (-1) 10 w7 HN.out H7.out.1.2.1 (by omega) (by omega) (by omega)).mono ?_; rintro e w8 ⟨x, rfl, im, s8, g8⟩
   have H9 := hid (H7.out.step s8 g8)
   have HX9 := hid (show I64 x from ⟨by omega, by omega⟩)
   clear s8 g8 H7 im HX
   go_upto_region 21 with fail
  all_goals
   obtain ⟨X0, Y0, X1, Y1, X2, Y2, X3, Y3, X4, Y4, X5, Y5, -⟩ := H9.out.1.rd
   obtain ⟨q1, q2, q3⟩ := H9.out.2.2.1
   obtain ⟨ne0, ne1, ne2, ne3, ne4, ne5, ne6, ne7, ne8, ne9, ne10, ne11⟩ : ¬ w.heap.size = bt ∧ ¬ bt = w.heap.size ∧ ¬ w.heap.size + 1 = bt ∧ ¬ bt = w.heap.size + 1 ∧ ¬ w.heap.size + 1 + 1 = bt ∧ ¬ bt = w.heap.size + 1 + 1 ∧ ¬ w.heap.size = bc ∧ ¬ bc = w.heap.size ∧ ¬ w.heap.size + 1 = bc ∧ ¬ bc = w.heap.size + 1 ∧ ¬ w.heap.size + 1 + 1 = bc ∧ ¬ bc = w.heap.size + 1 + 1 := by omega
   clear q1 q2 q3
   subst hVC
   go_region
   go_wp2_with fail
   obtain ⟨wz, ez, ⟨d0, d1, d2⟩, hz⟩ := H9.out.end_ (key := y.key) HX9.out
   rw [ez]
   have HZ := hid hz.drew
   clear ez hz
   exact bodyPost_ret (v := .tuple #[.agg (pA y.key A' y.counts.length c'), .agg _, .int .i64 x, .agg _]) (by simp [results, Tryz.results28, go_sem, d0, d1, d2]) rfl HZ.out
open Go.RowKit
namespace HoldC
variable {k q j : Nat} {P : Value → World → Prop} {D : Nat → Bool} {γ γ' : Nat → Value} {u u' : World} {x : Value}
end HoldC
def ShP (ss : List (Nat × (Value → Prop))) : Nat → Value → Prop := fun i v => ((ss.lookup i).getD (fun v => v = undef)) v
theorem ShP.inh {ss : List (Nat × (Value → Prop))} (h : ∀ x ∈ ss, ∃ v, x.2 v) (i : Nat) : ∃ v, ShP ss i v := by
 unfold ShP
 induction ss with
 | nil => exact ⟨undef, rfl⟩
 | cons x r ih =>
   obtain ⟨k, S⟩ := x
   rw [List.lookup_cons]
   cases i == k
   ·exact ih (fun y hy => h y (List.mem_cons_of_mem _ hy))
   ·exact h _ (List.mem_cons_self ..)
def DRes (w v : World) (g : Nat) (A : Option Addr) (l : List Int) (cap lo hi : Nat) (Q : Option Addr) (zs : List Int) (c k0 k1 q : Nat) (L : List Box) (RS : List Res) (D : Nat → Bool) (u : World) : Prop :=
 Below w.heap.size w u ∧ (D q = false → St v g A l cap u) ∧ (∀ x ∈ L, CellsAt u x.1 x.2.1 x.2.2) ∧ RowB u lo hi Q zs c ∧ ((D q = true → D k1 = true) ∧ (D k1 = true → D k0 = true)) ∧
 (∀ x ∈ RS, ∃ z, CellsAt u x.2.1 x.2.2.1 z ∧ z.size = x.2.2.2.size ∧ (D x.1 = true → z = x.2.2.2)) ∧ (∀ x ∈ L, x.1 ≠ g) ∧ (∀ x ∈ RS, w.heap.size ≤ x.2.1 ∧ x.2.1 < g ∧ x.2.1 < lo ∧ ∀ y ∈ L, y.1 ≠ x.2.1) ∧ g < lo ∧ w.heap.size ≤ g
namespace DRes
variable {w v u u' : World} {g : Nat} {A : Option Addr} {l : List Int} {cap lo hi : Nat} {Q : Option Addr} {zs : List Int} {c k0 k1 q k p : Nat} {L : List Box} {RS : List Res} {D : Nat → Bool} {t : TypeId} {V : Array Value}
theorem early1 (h : DRes w v g A l cap lo hi Q zs c k0 k1 q L RS D u) (hD : D k1 = false) : D q = false := by
 cases e : D q with
 | false => rfl
 | true => have := h.2.2.2.2.1.1 e; rw [this] at hD; cases hD
theorem early0 (h : DRes w v g A l cap lo hi Q zs c k0 k1 q L RS D u) (hD : D k0 = false) : D q = false := by
 refine h.early1 ?_
 cases e : D k1 with
 | false => rfl
 | true => have := h.2.2.2.2.1.2 e; rw [this] at hD; cases hD
theorem turn (h : DRes w v g A l cap lo hi Q zs c k0 k1 q L RS D u) (hg : u.grownBy u' (some g)) (hs : D q = false → St v g A l cap u') (k : Nat) (hk : k ≠ q ∧ ∀ x ∈ RS, x.1 ≠ k) (hk1 : k = k1 → setD D k k0 = true) : DRes w v g A l cap lo hi Q zs c k0 k1 q L RS (setD D k) u' := by
 obtain ⟨h1, h2, h3, h4, h5, h6, h7, h8, h9, h10⟩ := h
 have hq : setD D k q = D q := by unfold setD; simp [Ne.symm hk.1]
 refine ⟨bgb h1 hg h1.size h10, fun e => hs (by rwa [hq] at e), fun x hx => (h3 x hx).grown hg (by intro e; injection e with e; exact h7 x hx e), h4.grown hg (.inl h9), ⟨fun e => ?_, fun e => ?_⟩, fun x hx => ?_, h7, h8, h9, h10⟩
 ·rw [hq] at e; have := h5.1 e; unfold setD; simp [this]
 ·by_cases e1 : k = k1
  ·exact hk1 e1
  ·have e2 : D k1 = true := by unfold setD at e; simpa [Ne.symm e1] using e
   have := h5.2 e2; unfold setD; simp [this]
 ·obtain ⟨z, e1, e2, e3⟩ := h6 x hx
  exact ⟨z, e1.grown hg (by intro e; injection e with e; have := (h8 x hx).2.1; omega), e2, fun e => e3 (by unfold setD at e; simpa [hk.2 x hx] using e)⟩
theorem at_ (h : DRes w v g A l cap lo hi Q zs c k0 k1 q L RS D u) (hm : (k, p, t, V) ∈ RS) : ∃ z, CellsAt u p t z ∧ z.size = V.size := by
 obtain ⟨z, e1, e2, _⟩ := h.2.2.2.2.2.1 _ hm
 exact ⟨z, e1, e2⟩
theorem stored (h : DRes w v g A l cap lo hi Q zs c k0 k1 q L RS D u) (hm : (k, p, t, V) ∈ RS) (hd : ∀ x ∈ RS, x = (k, p, t, V) ∨ (x.1 ≠ k ∧ x.2.1 ≠ p)) (hq : (k = q ∧ D k1 = true) ∨ D q = true) (hk1 : k ≠ k1) (hg : u.grownBy u' (some p)) (hc : CellsAt u' p t V) : DRes w v g A l cap lo hi Q zs c k0 k1 q L RS (setD D k) u' := by
 obtain ⟨h1, h2, h3, h4, h5, h6, h7, h8, h9, h10⟩ := h
 obtain ⟨r1, r2, r3, r4⟩ := h8 _ hm
 simp only at r1 r2 r3 r4
 refine ⟨bgb h1 hg h1.size r1, fun e => ?_, fun x hx => (h3 x hx).grown hg (by intro e; injection e with e; exact r4 x hx e), h4.grown hg (.inl r3), ⟨fun _ => ?_, fun e => ?_⟩, fun x hx => ?_, h7, h8, h9, h10⟩
 ·exfalso
  unfold setD at e
  rcases hq with ⟨rfl, -⟩ | hq
  ·simp at e
  ·simp [hq] at e
 ·have : D k1 = true := hq.elim (fun h => h.2) h5.1
  unfold setD; simp [this]
 ·have e2 : D k1 = true := by unfold setD at e; simpa [Ne.symm hk1] using e
  have := h5.2 e2; unfold setD; simp [this]
 ·obtain ⟨z, e1, e2, e3⟩ := h6 x hx
  rcases hd x hx with rfl | ⟨n1, n2⟩
  ·exact ⟨V, hc, rfl, fun _ => rfl⟩
  ·exact ⟨z, e1.grown hg (by intro e; injection e with e; exact n2 e), e2, fun e => e3 (by unfold setD at e; simpa [n1] using e)⟩
theorem rd (h : DRes w v g A l cap lo hi Q zs c k0 k1 q L RS D u) : Rd u L := Rd.of h.2.2.1
theorem done (h : DRes w v g A l cap lo hi Q zs c k0 k1 q L RS D u) (hm : (k, p, t, V) ∈ RS) (hD : D k = true) : CellsAt u p t V := by
 obtain ⟨z, e1, _, e3⟩ := h.2.2.2.2.2.1 _ hm
 have := e3 hD
 simp only at this e1
 rw [this] at e1; exact e1
end DRes
theorem tou_end {w u : World} {key : Int} {Q : Option Addr} {zs : List Int} {c : Nat} {t : Tru} {ct cv : Int} {lo hi : Nat} {u0 u1 z0 z1 z2 z3 z4 z5 z6 z7 y0 y1 : Value} (hb : Below w.heap.size w u)
    (k0 : CellsAt u w.heap.size 26 #[u0, u1]) (k1 : CellsAt u (w.heap.size + 1) 28 #[z0, z1, z2, z3, z4, z5, z6, z7]) (k2 : CellsAt u (w.heap.size + 1 + 1) 30 #[y0, y1]) (hlo : w.heap.size + 1 + 1 < lo) (R : RowB u lo hi Q zs c) :
    ∃ w4, ((((((((((((u.setCell ⟨w.heap.size, 0, none⟩ (.int .i64 key)).setCell ⟨w.heap.size, 1, none⟩ (.slice Q zs.length c)).setCell ⟨w.heap.size + 1, 0, none⟩ (.int .i64 t.clock)).setCell ⟨w.heap.size + 1, 1, none⟩ (.int .i64 t.epoch)).setCell ⟨w.heap.size + 1, 2, none⟩ (.int .i64 t.cursor)).setCell ⟨w.heap.size + 1, 3, none⟩ (.int .i64 t.read)).setCell ⟨w.heap.size + 1, 4, none⟩ (.int .i64 t.written)).setCell ⟨w.heap.size + 1, 5, none⟩ (.int .i64 t.nread)).setCell ⟨w.heap.size + 1, 6, none⟩ (.int .i64 t.nwritten)).setCell ⟨w.heap.size + 1, 7, none⟩ (.bool t.failed)).setCell ⟨w.heap.size + 1 + 1, 0, none⟩ (.int .i64 ct)).setCell ⟨w.heap.size + 1 + 1, 1, none⟩ (.int .i64 cv)) = w4 ∧ ((∀ i, w4.cell? ⟨w.heap.size, i, none⟩ = (pA key Q zs.length c)[i]?) ∧ (∀ i, w4.cell? ⟨w.heap.size + 1, i, none⟩ = (tR t)[i]?) ∧ (∀ i, w4.cell? ⟨w.heap.size + 1 + 1, i, none⟩ = (cA ct cv)[i]?)) ∧ Ints w4 .i64 w4.heap.size Q zs ∧ Below w.heap.size w w4 := by
 have p1 := plan_put (x0 := .int .i64 key) (x1 := .slice Q zs.length c) k0
 have p2 := tru_put (x0 := .int .i64 t.clock) (x1 := .int .i64 t.epoch) (x2 := .int .i64 t.cursor) (x3 := .int .i64 t.read) (x4 := .int .i64 t.written) (x5 := .int .i64 t.nread) (x6 := .int .i64 t.nwritten) (x7 := .bool t.failed) (k1.grown p1.2 (by intro e; injection e; omega))
 have p3 := plan_put (x0 := .int .i64 ct) (x1 := .int .i64 cv) ((k2.grown p1.2 (by intro e; injection e; omega)).grown p2.2 (by intro e; injection e; omega))
 have c1 := (p1.1.grown p2.2 (by intro e; injection e; omega)).grown p3.2 (by intro e; injection e; omega)
 have c2 := p2.1.grown p3.2 (by intro e; injection e; omega)
 have r3 := ((R.grown p1.2 (.inl (by omega))).grown p2.2 (.inl (by omega))).grown p3.2 (.inl (by omega))
 have b3 := bgb (bgb (bgb hb p1.2 hb.size (Nat.le_refl _)) p2.2 (Nat.le_trans hb.size p1.2.size) (by omega)) p3.2 (Nat.le_trans (Nat.le_trans hb.size p1.2.size) p2.2.size) (by omega)
 obtain ⟨Q', c', hq', hI⟩ := r3.1.reads
 injection hq' with hq1 hq2 hq3
 subst hq1
 exact ⟨_, rfl, ⟨c1.cell, c2.cell, p3.1.cell⟩, hI, b3⟩
end Go.Proofs.YteopplldbcgjjaaGreatDoor.Mx

import Derived.Test.YteopplldbcgjjaaGreatDoorH31
import Derived.Test.YteopplldbcgjjaaGreatDoorH01
import Derived.Test.YteopplldbcgjjaaGreatDoorProg
import Derived.WalkKit
import Derived.LaidEql
import Derived.Stop.Asserts
import Derived.RowKitTokens
import Derived.Test.YteopplldbcgjjaaGreatDoorH06
import Derived.Test.YteopplldbcgjjaaGreatDoorH03
import Derived.Test.YteopplldbcgjjaaGreatDoorH05
import Derived.Test.YteopplldbcgjjaaGreatDoorH07
namespace Go.Proofs.YteopplldbcgjjaaGreatDoor.Mx
open Go.ChangeShapes Go.WideShapes Go.ChangeAt Go.RowKit
set_option linter.unusedVariables false
open Go.Lib (hid)
set_option maxHeartbeats 64000000
theorem KB.putT {w v u u' : World} {g k p : Nat} {A : Option Addr} {l : List Int} {cap : Nat} {L : List Box} {t : TypeId} {cs cs' : Array Value} (h : KB w v g A l cap L u) (hg : u.grownBy u' (some p)) (hgp : g < p) (hk : L[k]? = some (p, t, cs)) (ha : Apart L) (hc : CellsAt u' p t cs') : KB w v g A l cap (putBox L k cs') u' := by
 have hm : (p, t, cs) ∈ L := List.mem_of_getElem? hk
 have hp : w.heap.size ≤ p := (h.2.2.2 _ hm).1.1
 refine ⟨bgb h.1 hg h.1.size hp, h.2.1.off hg hgp, h.2.2.1, fun x hx => ?_⟩
 unfold putBox at hx
 obtain ⟨j, hj⟩ := List.mem_iff_getElem?.1 hx
 rw [List.getElem?_modify] at hj
 by_cases hkj : k = j
 ·subst hkj
  rw [hk] at hj
  simp only [if_true, Option.map_eq_map, Option.map_some, Option.some.injEq] at hj
  subst hj
  exact ⟨(h.2.2.2 _ hm).1, hc⟩
 ·simp only [hkj, if_false, Option.map_eq_map, Option.map_id_fun', id_eq] at hj
  have hxm := List.mem_of_getElem? hj
  refine ⟨(h.2.2.2 x hxm).1, (h.2.2.2 x hxm).2.grown hg ?_⟩
  intro e
  injection e with e
  unfold Apart at ha
  have h1 : (L.map (·.1))[j]? = some x.1 := by rw [List.getElem?_map, hj]; rfl
  have h2 : (L.map (·.1))[k]? = some p := by rw [List.getElem?_map, hk]; rfl
  rw [← e] at h2
  have hjl : j < (L.map (·.1)).length := (List.getElem?_eq_some_iff.1 h1).1
  exact hkj ((List.getElem?_inj hjl ha).1 (h1.trans h2.symm)).symm
def ScaD (w : World) (e : Ending) (w' : World) : Prop :=
 ∃ (key : Int) (Q : Option Addr) (zs : List Int) (c : Nat) (t : Tru) (rr ct cv : Int), e = .returned (.tuple #[.agg (pA key Q zs.length c), .int .i64 rr, .agg (tR t), .agg (cA ct cv)]) ∧ I64 ct ∧ I64 cv ∧ zs.length ≤ 5 ∧ zs.length ≤ c ∧ TruI t ∧ Ints w' .i64 w'.heap.size Q zs ∧ Below w.heap.size w w'
set_option maxRecDepth 20000 in
theorem drawScanned_calls (A : Option Addr) (l : List Int) (cap : Nat) (w : World) (hn : l.length ≤ 4096) (hA : Ints w .u8 w.heap.size A l) :
    Calls Tryz.prog 14 #[.slice A l.length cap] w (ScaD w) := by
 have HN := hid (show l.length ≤ maxLen by unfold maxLen; omega)
 have HM := hid hn
 have K0 := hid (show Kept w [(w.heap.size + 1 + 1, 30, zC), (w.heap.size + 1, 28, zT), (w.heap.size, 26, zP)] _ from ((((Kept.refl w).put1 _ _ zP rfl).put1 _ _ zT (by simp)).put1 _ _ zC (by simp)))
 have HA := hid (fun (u : World) (hb : Below w.heap.size w u) => (hA.below hb (Nat.le_refl _)).more hb.size)
 have Z0 := hid (show (((w.alloc (.cells zP 26)).alloc (.cells zT 28)).alloc (.cells zC 30)).heap.size = w.heap.size + 1 + 1 + 1 by simp)
 clear hn hA
 go_enter Tryz.func14, Tryz.ntmps14
 go_upto_region 1 with fail
 have k0 := K0.out
 have z0 := Z0.out
 clear K0 Z0
 generalize World.alloc (World.alloc _ _) _ = w0 at k0 z0 ⊢
 have HZ := hid z0
 clear z0
 go_wp2_with fail
 refine (new_calls A l cap _ HN.out (HA.out _ k0.1)).mono ?_; rintro e w1 ⟨rfl, b1, c1⟩
 rw [HZ.out]
 rw [HZ.out] at c1
 have s1 : St w0 (w.heap.size + 1 + 1 + 1) A l cap w1 := ⟨by rw [← HZ.out]; exact b1, c1⟩
 have k1 := k0.below b1
 have H1 := hid (show KB w w0 (w.heap.size + 1 + 1 + 1) A l cap [(w.heap.size + 1 + 1, 30, zC), (w.heap.size + 1, 28, zT), (w.heap.size, 26, zP)] w1 from ⟨k1.1, s1, by omega, fun x hx => ⟨⟨(k1.2 x hx).1, by simp at hx; rcases hx with rfl | rfl | rfl <;> (simp only []; omega)⟩, (k1.2 x hx).2⟩⟩)
 clear b1 c1 s1 k1 k0 HA
 have z1 : w.heap.size + 1 + 1 + 1 < w1.heap.size := H1.out.2.1.2.lt
 go_wp2_with fail
 refine (draw8_calls w0 (w.heap.size + 1 + 1 + 1) A l cap w1 HM.out H1.out.2.1).mono ?_; rintro e w2 ⟨key, Q, zs, c, t, x, ct, cv, rfl, hx, hct, hcv, h5, hc, ht, hr, s2, g2⟩
 have z2 : w1.heap.size ≤ w2.heap.size := g2.size
 have h2 := (H1.out.step s2 g2)
 have rb := RowB.of hr
 have h3 := ((h2.put1 w2.heap.size 26 (pA key Q zs.length c) rfl).put1 (w2.heap.size + 1) 28 (tR t) (by simp)).put1 (w2.heap.size + 1 + 1) 30 (cA ct cv) (by simp)
 have rb3 := ((rb.below ((Below.refl _ _).alloc (Nat.le_refl _) (.cells (pA key Q zs.length c) 26))).below ((Below.refl _ _).alloc (Nat.le_refl _) (.cells (tR t) 28))).below ((Below.refl _ _).alloc (Nat.le_refl _) (.cells (cA ct cv) 30))
 have HI := hid (show I64 ct ∧ I64 cv ∧ zs.length ≤ 5 ∧ zs.length ≤ c ∧ TruI t from ⟨hct, hcv, h5, hc, ht⟩)
 have HX := hid hx
 clear h2 rb hr s2 g2 H1 hx hct hcv h5 hc ht
 go_upto_region 3 with fail
 generalize World.alloc (World.alloc _ _) _ = w3 at h3 rb3 ⊢
 have H3 := hid h3
 have R3 := hid rb3
 clear h3 rb3
 obtain ⟨X0, Y0, X1, Y1, X2, Y2, X3, Y3, X4, Y4, X5, Y5, -⟩ := H3.out.rd
 go_wp2_with fail
 obtain ⟨Q0, c0, hq0, hI0⟩ := R3.out.1.reads
 injection hq0 with q1 q2 q3
 subst q1
 refine (specRegion_calls key x Q zs c _ (by have := HI.out.2.2.1; unfold maxLen; omega) HI.out.2.2.2.1 hI0).mono ?_; rintro e wr ⟨rfl, br⟩
 clear hI0 X0 Y0 X1 Y1 X2 Y2 X3 Y3 X4 Y4 X5 Y5 q2 q3
 generalize regionOf key zs x = rr
 have HR := hid (H3.out.below br)
 have RR := hid (R3.out.below br)
 clear br H3 R3 HX
 go_wp2_with fail
 refine (once_st w0 (w.heap.size + 1 + 1 + 1) A l cap 12 _ HN.out HR.out.2.1 (by omega)).mono ?_; rintro e w5 ⟨b, rfl, s4, g4⟩
 have H5 := hid (HR.out.step s4 g4)
 have R5 := hid (RR.out.grown g4 (.inl (by omega)))
 clear s4 g4 HR RR
 rcases b with _ | _
 ·go_wp2_with fail
  refine (once_st w0 (w.heap.size + 1 + 1 + 1) A l cap 12 _ HN.out H5.out.2.1 (by omega)).mono ?_; rintro e w6 ⟨b, rfl, s5, g5⟩
  have H6 := hid (H5.out.step s5 g5)
  have R6 := hid (R5.out.grown g5 (.inl (by omega)))
  clear s5 g5 H5 R5
  rcases b with _ | _
  ·go_upto_region 8 with fail
   obtain ⟨X0, Y0, X1, Y1, X2, Y2, X3, Y3, X4, Y4, X5, Y5, -⟩ := H6.out.rd
   go_region
   go_wp2_with fail
   obtain ⟨wz, ez, ⟨d0, d1, d2⟩, hI, hb⟩ := tou_end (key := key) (t := (t : Tru)) (ct := ct) (cv := cv) H6.out.1 (H6.out.at_ (p := w.heap.size) (t := 26) (cs := zP) (by simp)) (H6.out.at_ (p := w.heap.size + 1) (t := 28) (cs := zT) (by simp)) (H6.out.at_ (p := w.heap.size + 1 + 1) (t := 30) (cs := zC) (by simp)) (by omega) R6.out
   try simp only [] at ez d1
   rw [ez]
   clear ez
   have IZ := hid hI
   have BZ := hid hb
   clear hI hb
   exact bodyPost_ret (v := .tuple #[.agg (pA key Q zs.length c), .int .i64 rr, .agg (tR t), .agg (cA ct cv)]) (by simp [results, Tryz.results14, go_sem, d0, d1, d2]) rfl ⟨key, Q, zs, c, t, rr, ct, cv, rfl, HI.out.1, HI.out.2.1, HI.out.2.2.1, HI.out.2.2.2.1, HI.out.2.2.2.2, IZ.out, BZ.out.drew⟩
  ·go_wp2_with fail
   refine (below_st w0 (w.heap.size + 1 + 1 + 1) A l cap 2 _ HN.out H6.out.2.1 (by omega)).mono ?_; rintro e w7 ⟨n, rfl, ⟨n0, n1⟩, s7, g7⟩
   have H7 := hid (H6.out.step s7 g7)
   have R7 := hid (R6.out.grown g7 (.inl (by omega)))
   clear s7 g7 H6 R6
   have hw : IntKind.i64.wrap (1000 - n) = 1000 - n := IntWalk.i64_in _ (by omega)
   obtain ⟨X0, Y0, X1, Y1, X2, Y2, X3, Y3, X4, Y4, X5, Y5, -⟩ := H7.out.rd
   have m1 : w2.heap.size + 1 ≠ w.heap.size + 1 + 1 + 1 := by omega
   have hg8 := gb_set (gb_refl w7 (some (w2.heap.size + 1))) 1 (.int .i64 (1000 - n))
   have H8 := hid (show KB w w0 (w.heap.size + 1 + 1 + 1) A l cap [(w2.heap.size + 1 + 1, 30, (cA ct cv)), (w2.heap.size + 1, 28, (tA t.clock (1000 - n) t.cursor t.read t.written t.nread t.nwritten t.failed)), (w2.heap.size, 26, (pA key Q zs.length c)), (w.heap.size + 1 + 1, 30, zC), (w.heap.size + 1, 28, zT), (w.heap.size, 26, zP)] _ from H7.out.putT hg8 (by omega) (k := 1) (p := w2.heap.size + 1) (t := 28) (cs := (tR t)) (cs' := (tA t.clock (1000 - n) t.cursor t.read t.written t.nread t.nwritten t.failed)) rfl (by unfold Apart; simp <;> omega) ((H7.out.at_ (p := w2.heap.size + 1) (t := 28) (cs := (tR t)) (by simp)).set_ 1 _))
   have R8 := hid (R7.out.grown hg8 (.inr (by omega)))
   clear hg8
   go_upto_region 8 with fail
   clear H7 R7 X0 Y0 X1 Y1 X2 Y2 X3 Y3 X4 Y4 X5 Y5
   have h8 := H8.out
   have r8 := R8.out
   clear H8 R8
   generalize World.setCell _ _ _ = w8 at h8 r8 ⊢
   obtain ⟨X0, Y0, X1, Y1, X2, Y2, X3, Y3, X4, Y4, X5, Y5, -⟩ := h8.rd
   have H8 := hid h8
   have R8 := hid r8
   clear h8 r8
   go_region
   go_wp2_with fail
   obtain ⟨wz, ez, ⟨d0, d1, d2⟩, hI, hb⟩ := tou_end (key := key) (t := ({ t with epoch := 1000 - n } : Tru)) (ct := ct) (cv := cv) H8.out.1 (H8.out.at_ (p := w.heap.size) (t := 26) (cs := zP) (by simp)) (H8.out.at_ (p := w.heap.size + 1) (t := 28) (cs := zT) (by simp)) (H8.out.at_ (p := w.heap.size + 1 + 1) (t := 30) (cs := zC) (by simp)) (by omega) R8.out
   try simp only [] at ez d1
   rw [ez]
   clear ez
   have IZ := hid hI
   have BZ := hid hb
   clear hI hb
   exact bodyPost_ret (v := .tuple #[.agg (pA key Q zs.length c), .int .i64 rr, .agg (tA t.clock (1000 - n) t.cursor t.read t.written t.nread t.nwritten t.failed), .agg (cA ct cv)]) (by simp [results, Tryz.results14, go_sem, d0, d1, d2]) rfl ⟨key, Q, zs, c, { t with epoch := 1000 - n }, rr, ct, cv, rfl, HI.out.1, HI.out.2.1, HI.out.2.2.1, HI.out.2.2.2.1, ⟨HI.out.2.2.2.2.1, ⟨(show (-9223372036854775808 : Int) ≤ 1000 - n by omega), (show (1000 : Int) - n ≤ 9223372036854775807 by omega)⟩, HI.out.2.2.2.2.2.2⟩, IZ.out, BZ.out.drew⟩
 ·go_upto_region 5 with fail
  have hst : DRes w w0 (w.heap.size + 1 + 1 + 1) A l cap w1.heap.size w2.heap.size Q zs c 2 2 5 [(w2.heap.size + 1 + 1, 30, (cA ct cv)), (w2.heap.size + 1, 28, (tR t)), (w2.heap.size, 26, (pA key Q zs.length c))] [(5, w.heap.size, 26, (pA key Q zs.length c)), (7, w.heap.size + 1, 28, (tR t)), (8, w.heap.size + 1 + 1, 30, (cA ct cv))] (fun _ => false) w5.drew := by
   refine ⟨H5.out.1.drew, fun _ => H5.out.2.1.drew, fun x hx => ?_, R5.out.drew, ⟨fun e => (by cases e), fun e => (by cases e)⟩, fun x hx => ?_, fun x hx => ?_, fun x hx => ?_, by omega, by omega⟩
   ·exact (H5.out.2.2.2 x (by simp at hx ⊢; rcases hx with rfl | rfl | rfl <;> simp)).2.drew
   ·simp only [List.mem_cons, List.not_mem_nil, or_false] at hx
    rcases hx with rfl | rfl | rfl
    ·exact ⟨_, (H5.out.at_ (p := w.heap.size) (t := 26) (cs := zP) (by simp)).drew, rfl, fun e => (by cases e)⟩
    ·exact ⟨_, (H5.out.at_ (p := w.heap.size + 1) (t := 28) (cs := zT) (by simp)).drew, rfl, fun e => (by cases e)⟩
    ·exact ⟨_, (H5.out.at_ (p := w.heap.size + 1 + 1) (t := 30) (cs := zC) (by simp)).drew, rfl, fun e => (by cases e)⟩
   ·simp only [List.mem_cons, List.not_mem_nil, or_false] at hx
    rcases hx with rfl | rfl | rfl <;> (simp only []; omega)
   ·simp only [List.mem_cons, List.not_mem_nil, or_false] at hx
    rcases hx with rfl | rfl | rfl <;> exact ⟨by simp only [] <;> omega, by simp only [] <;> omega, by simp only [] <;> omega, by intro y hy; simp only [List.mem_cons, List.not_mem_nil, or_false] at hy; rcases hy with rfl | rfl | rfl <;> (simp only []; omega)⟩
  refine wp_region_free [false, false, true, false, false, true, false, true, true] (ShP [(2, fun v => ∃ n : Int, v = .int .i64 n ∧ I64 n)]) (fun D γ u => DRes w w0 (w.heap.size + 1 + 1 + 1) A l cap w1.heap.size w2.heap.size Q zs c 2 2 5 [(w2.heap.size + 1 + 1, 30, (cA ct cv)), (w2.heap.size + 1, 28, (tR t)), (w2.heap.size, 26, (pA key Q zs.length c))] [(5, w.heap.size, 26, (pA key Q zs.length c)), (7, w.heap.size + 1, 28, (tR t)), (8, w.heap.size + 1 + 1, 30, (cA ct cv))] D u) (by kernel_rfl) (by kernel_rfl) (fun γ => by kernel_rfl) (fun D γ γ' w ha h => h) (ShP.inh ?inh) (fun γ => hst) (fun γ hγ => ?_)
  case inh =>
   intro y hy
   simp only [List.mem_cons, List.not_mem_nil, or_false] at hy
   subst hy
   ·exact ⟨_, 0, rfl, by exact ⟨by omega, by omega⟩⟩
  clear hst
  obtain ⟨n2, g2, i2⟩ : ∃ n : Int, γ 2 = .int .i64 n ∧ I64 n := hγ 2 rfl
  have g5 : γ 5 = undef := hγ 5 rfl
  have g7 : γ 7 = undef := hγ 7 rfl
  have g8 : γ 8 = undef := hγ 8 rfl
  apply Exists.intro
  refine ⟨fun D => ?_, ?_, ?_⟩
  ·simp only [hushL, cond_true, cond_false, Nat.reduceAdd, g2, g5, g7, g8]
   iterate 9 (first
    | go_big_quiet_skip
    | (go_big_quiet_want
       go_big_quiet_op
       first
        | go_big_quiet_on
        | (apply Exists.intro
           refine ⟨fun u hu => ?_, ?_⟩
           ·first
              | with_reducible rfl
              | (obtain ⟨X0, Y0, X1, Y1, X2, Y2, -⟩ := hu.rd; go_simp; first | done | with_reducible rfl)
           go_big_quiet_on)))
   exact wpQuiet_nil rfl
  ·simp only [freeOk, Nat.reduceAdd]
   refine ⟨fun D u hD hd hu => ?_, fun D u hD hd hu => ?_, fun D u hD hd hu => ?_, fun D u hD hd hu => ?_, trivial⟩
   ·exact steps_call ((from_st w0 (w.heap.size + 1 + 1 + 1) A l cap (-1) 4 u HN.out (hu.2.1 (hu.early0 hD)) (by omega) (by omega) (by omega)).mono fun e w' ⟨n, he, hb, hs, hg⟩ => ⟨_, he, ⟨n, rfl, ⟨by omega, by omega⟩⟩, hu.turn hg (fun _ => hs) 2 (by simp) (fun _ => by unfold setD; simp)⟩) rfl rfl rfl rfl (by kernel_rfl)
   ·obtain ⟨z, hz, hzs⟩ := hu.at_ (k := 5) (p := w.heap.size) (t := 26) (V := (pA key Q zs.length c)) (by simp)
    have hq : (5 = 5 ∧ D 2 = true) ∨ D 5 = true := .inl ⟨rfl, hd { on := 2, ground := Ground.chain } (by simp) rfl rfl⟩
    exact steps_store hz rfl rfl rfl (by kernel_rfl) hzs (by simp [Value.oneCell']) (fun w' hc hg => ⟨rfl, hu.stored (k := 5) (by simp) (by simp <;> omega) hq (by decide) hg hc⟩)
   ·obtain ⟨z, hz, hzs⟩ := hu.at_ (k := 7) (p := w.heap.size + 1) (t := 28) (V := (tR t)) (by simp)
    have hq : (7 = 5 ∧ D 2 = true) ∨ D 5 = true := .inr (hd { on := 5, ground := Ground.phase } (by simp) rfl rfl)
    exact steps_store hz rfl rfl rfl (by kernel_rfl) hzs (by simp [Value.oneCell']) (fun w' hc hg => ⟨rfl, hu.stored (k := 7) (by simp) (by simp <;> omega) hq (by decide) hg hc⟩)
   ·obtain ⟨z, hz, hzs⟩ := hu.at_ (k := 8) (p := w.heap.size + 1 + 1) (t := 30) (V := (cA ct cv)) (by simp)
    have hq : (8 = 5 ∧ D 2 = true) ∨ D 5 = true := .inr (hd { on := 5, ground := Ground.phase } (by simp) rfl rfl)
    exact steps_store hz rfl rfl rfl (by kernel_rfl) hzs (by simp [Value.oneCell']) (fun w' hc hg => ⟨rfl, hu.stored (k := 8) (by simp) (by simp <;> omega) hq (by decide) hg hc⟩)
  ·intro D uf hD hu
   have c0 := hu.done (k := 5) (p := w.heap.size) (t := 26) (V := (pA key Q zs.length c)) (by simp) (hD 5 (by simp) rfl)
   have d0 : ∀ i, uf.cell? ⟨w.heap.size, i, none⟩ = (pA key Q zs.length c)[i]? := c0.cell
   have c1 := hu.done (k := 7) (p := w.heap.size + 1) (t := 28) (V := (tR t)) (by simp) (hD 7 (by simp) rfl)
   have d1 : ∀ i, uf.cell? ⟨w.heap.size + 1, i, none⟩ = (tR t)[i]? := c1.cell
   have c2 := hu.done (k := 8) (p := w.heap.size + 1 + 1) (t := 30) (V := (cA ct cv)) (by simp) (hD 8 (by simp) rfl)
   have d2 : ∀ i, uf.cell? ⟨w.heap.size + 1 + 1, i, none⟩ = (cA ct cv)[i]? := c2.cell
   obtain ⟨Q', c', hq', hI⟩ := hu.2.2.2.1.1.reads
   injection hq' with hq1 hq2 hq3
   subst hq1
   have IZ := hid hI
   have BZ := hid hu.1
   clear hu hI c0 c1 c2
   go_wp2_with fail
   exact bodyPost_ret (v := .tuple #[.agg (pA key Q zs.length c), .int .i64 n2, .agg (tR t), .agg (cA ct cv)]) (by simp [results, Tryz.results14, go_sem, d0, d1, d2]) rfl ⟨key, Q, zs, c, t, n2, ct, cv, rfl, HI.out.1, HI.out.2.1, HI.out.2.2.1, HI.out.2.2.2.1, HI.out.2.2.2.2, IZ.out, BZ.out⟩
open Go.RowKit Go.Extern.Stop Go.Stop Go.Extern
abbrev hErr : Value := .iface 178 (.agg #[.pointer (some ⟨5, 69, none⟩)])
theorem xValueOfPP (t : Addr) (w : World) : (ReflectliteValue.unpack (.iface 120 (.pointer (some t)))).run Tryz.prog w
    = .ok (.agg #[.pointer (some ⟨5, 120, none⟩), .pointer (some ⟨w.heap.size, 0, none⟩), .int .u64 150]) (w.alloc (.cells #[.pointer (some t)] 120)) := by kernel_rfl
theorem xTypePP (a : Addr) (w : World) : (ReflectliteValue.methodAny (ReflectliteValue.valueError "reflectlite.Value.Type" 0) (fun t _ _ _ => ReflectliteType.toType t) #[.agg #[.pointer (some ⟨5, 120, none⟩), .pointer (some a), .int .u64 150]]).run Tryz.prog w
    = .ok (.iface 178 (.agg #[.pointer (some ⟨5, 120, none⟩)])) w := by kernel_rfl
theorem xMethodKind (h : Value) (w : World) : (Go.method 346 178 (.agg #[h]) "Kind").run Tryz.prog w = .ok (177, h) w := by kernel_rfl
theorem xKindPP (w : World) : ((ReflectliteType.abiMethod fun t => (fun a : Nat => Value.int IntKind.u8 (a : Int)) <$> Rtype.kind t) #[.pointer (some ⟨5, 120, none⟩)]).run Tryz.prog w = .ok (.int .u8 22) w := by kernel_rfl
theorem xKindP (w : World) : ((ReflectliteType.abiMethod fun t => (fun a : Nat => Value.int IntKind.u8 (a : Int)) <$> Rtype.kind t) #[.pointer (some ⟨5, 118, none⟩)]).run Tryz.prog w = .ok (.int .u8 22) w := by kernel_rfl
theorem xRlm (z : Sem Value) (f : TypeId → Addr → Nat → Nat → Sem Value) (v : Value) :
    ReflectliteValue.method z f #[v] = (do match ← ReflectliteValue.parts v with | none => z | some (t, a, fl) => f t a fl (fl % 32)) := rfl
theorem xPartsPP (a : Addr) (w : World) : (ReflectliteValue.parts (.agg #[.pointer (some ⟨5, 120, none⟩), .pointer (some a), .int .u64 150])).run Tryz.prog w = .ok (some (120, a, 150)) w := by kernel_rfl
theorem xIsNilPP (a p : Addr) (W : World) (ha : W.cell? a = some (.pointer (some p))) :
    (ReflectliteValue.method (ReflectliteValue.valueError "reflectlite.Value.IsNil" 0) ReflectliteValue.isNil #[.agg #[.pointer (some ⟨5, 120, none⟩), .pointer (some a), .int .u64 150]]).run Tryz.prog W = .ok (.bool false) W := by
 rw [xRlm]
 simp only [Sem.run_bind, xPartsPP, Result.andThen]
 simp [ReflectliteValue.isNil, loadVar, isAgg, underlying, Tryz.underlying120, ha, Result.andThen]
theorem xMethodElem (h : Value) (w : World) : (Go.method 346 178 (.agg #[h]) "Elem").run Tryz.prog w = .ok (188, .agg #[h]) w := by kernel_rfl
theorem xMethodImplements (h : Value) (w : World) : (Go.method 346 178 (.agg #[h]) "Implements").run Tryz.prog w = .ok (189, .agg #[h]) w := by kernel_rfl
theorem xMethodAssignableTo (h : Value) (w : World) : (Go.method 346 178 (.agg #[h]) "AssignableTo").run Tryz.prog w = .ok (186, .agg #[h]) w := by kernel_rfl
theorem xElemPP (w : World) : (ReflectliteType.method ReflectliteType.elem #[.agg #[.pointer (some ⟨5, 120, none⟩)]]).run Tryz.prog w = .ok (.iface 178 (.agg #[.pointer (some ⟨5, 118, none⟩)])) w := by kernel_rfl
theorem xImplementsP (w : World) : (ReflectliteType.relation "Implements" ReflectliteType.implements_ #[.agg #[.pointer (some ⟨5, 118, none⟩)], hErr]).run Tryz.prog w = .ok (.bool true) w := by kernel_rfl
theorem xTypeOfP (v : Value) (w : World) : (ReflectliteType.typeOf #[.iface 118 v]).run Tryz.prog w = .ok (.iface 178 (.agg #[.pointer (some ⟨5, 118, none⟩)])) w := by kernel_rfl
theorem xAssignableP (w : World) : (ReflectliteType.relation "AssignableTo" ReflectliteType.assignableTo #[.agg #[.pointer (some ⟨5, 118, none⟩)], .iface 178 (.agg #[.pointer (some ⟨5, 118, none⟩)])]).run Tryz.prog w = .ok (.bool true) w := by kernel_rfl
theorem xValueOfP (e : Addr) (w : World) : (ReflectliteValue.unpack (.iface 118 (.pointer (some e)))).run Tryz.prog w
    = .ok (.agg #[.pointer (some ⟨5, 118, none⟩), .pointer (some ⟨w.heap.size, 0, none⟩), .int .u64 150]) (w.alloc (.cells #[.pointer (some e)] 118)) := by kernel_rfl
theorem xElemOfPP (w : World) : (Rtype.elem? 120).run Tryz.prog w = .ok (some 118) w := by kernel_rfl
theorem xMkP (p : Addr) (w : World) : (ReflectliteValue.mk 118 p ReflectliteValue.flagAddr).run Tryz.prog w = .ok (.agg #[.pointer (some ⟨5, 118, none⟩), .pointer (some p), .int .u64 406]) w := by kernel_rfl
theorem xElemVPP (a p : Addr) (W : World) (ha : W.cell? a = some (.pointer (some p))) :
    (ReflectliteValue.method (ReflectliteValue.valueError "reflectlite.Value.Elem" 0) ReflectliteValue.elem #[.agg #[.pointer (some ⟨5, 120, none⟩), .pointer (some a), .int .u64 150]]).run Tryz.prog W
     = .ok (.agg #[.pointer (some ⟨5, 118, none⟩), .pointer (some p), .int .u64 406]) W := by
 rw [xRlm]
 simp only [Sem.run_bind, xPartsPP, Result.andThen]
 simp [ReflectliteValue.elem, loadVar, isAgg, underlying, Tryz.underlying120, ha, Result.andThen, xElemOfPP, xMkP]
theorem xRls (v x : Value) : ReflectliteValue.set #[v, x] = (do
    let (some (dst, a, fl), some (src, b, _)) := (← ReflectliteValue.parts v, ← ReflectliteValue.parts x)
     | unsupported (.noEntry "extern/(internal/reflectlite.Value).Set.zeroValue")
    if fl / ReflectliteValue.flagAddr % 2 == 0 then unsupported (.noEntry "extern/(internal/reflectlite.Value).Set.unaddressable")
    let val ← loadVar src b
    if ← Rtype.directlyAssignable dst src then storeVar dst a val
    else if ← Rtype.implements dst src then
     if (← Rtype.kind src) == 20 then
      match val with
      | .nilIface => unsupported (.noEntry "extern/reflectlite: a nil value of one interface type handed on as a value of another")
      | _ => storeVar dst a val
     else storeVar dst a (.iface src val)
    else panicString ("reflectlite.Set: value of type " ++ (← Rtype.spelt src) ++ " is not assignable to type " ++ (← Rtype.spelt dst))
    pure (.tuple #[])) := rfl
theorem xPartsPa (a : Addr) (w : World) : (ReflectliteValue.parts (.agg #[.pointer (some ⟨5, 118, none⟩), .pointer (some a), .int .u64 406])).run Tryz.prog w = .ok (some (118, a, 406)) w := by kernel_rfl
theorem xPartsP (a : Addr) (w : World) : (ReflectliteValue.parts (.agg #[.pointer (some ⟨5, 118, none⟩), .pointer (some a), .int .u64 150])).run Tryz.prog w = .ok (some (118, a, 150)) w := by kernel_rfl
theorem xDirectP (w : World) : (Rtype.directlyAssignable 118 118).run Tryz.prog w = .ok true w := by kernel_rfl
theorem xSetP (ta b e : Addr) (old : Value) (W : World) (hb : W.cell? b = some (.pointer (some e))) (ht : W.cell? ta = some old) (hf : W.frozen? ta = false) :
    (ReflectliteValue.set #[.agg #[.pointer (some ⟨5, 118, none⟩), .pointer (some ta), .int .u64 406], .agg #[.pointer (some ⟨5, 118, none⟩), .pointer (some b), .int .u64 150]]).run Tryz.prog W
     = .ok (.tuple #[]) (W.setCell ta (.pointer (some e))) := by
 rw [xRls]
 simp only [Sem.run_bind, xPartsPa, xPartsP, Result.andThen]
 simp [ReflectliteValue.flagAddr, loadVar, isAgg, underlying, Tryz.underlying118, hb, Result.andThen, xDirectP, storeVar, Value.cells, storeCells, Addr.add]
 rw [run_store Tryz.prog W ta _ _ (by rfl)]
 simp [ht, hf]
theorem as_hit (e t : Addr) (old : Value) (w : World) (hg : w.cell? ⟨4, 0, none⟩ = some hErr) (ht0 : w.cell? t = some old) (hf0 : w.frozen? t = false) :
    Calls Tryz.prog 71 #[.iface 118 (.pointer (some e)), .iface 120 (.pointer (some t))] w fun ev w' => ev = .returned (.bool true) ∧ w' = ((((w.alloc (.cells #[.pointer (some t)] 120)).alloc (.cells #[.pointer (some ⟨5, 120, none⟩), .pointer (some ⟨w.heap.size, 0, none⟩), .int .u64 150] 150)).alloc (.cells #[.pointer (some ⟨5, 120, none⟩), .pointer (some ⟨w.heap.size, 0, none⟩), .int .u64 150] 150)).alloc (.cells #[.pointer (some e)] 118)).setCell t (.pointer (some e)) := by
 have h6 := @run_callFunc_extern Tryz.prog 107 _ (fun args => ReflectliteValue.unpack (args.getD 0 (.tuple #[]))) Tryz.func107 (by kernel_rfl) (by kernel_rfl) (by kernel_rfl) (by kernel_rfl)
 have h7 := @run_callFunc_extern Tryz.prog 108 _ (ReflectliteValue.methodAny (ReflectliteValue.valueError "reflectlite.Value.Type" 0) (fun t _ _ _ => ReflectliteType.toType t)) Tryz.func108 (by kernel_rfl) (by kernel_rfl) (by kernel_rfl) (by kernel_rfl)
 have h8 := @run_callFunc_extern Tryz.prog 109 _ (ReflectliteValue.method (ReflectliteValue.valueError "reflectlite.Value.IsNil" 0) ReflectliteValue.isNil) Tryz.func109 (by kernel_rfl) (by kernel_rfl) (by kernel_rfl) (by kernel_rfl)
 have h27 := @run_callFunc_extern Tryz.prog 177 _ (ReflectliteType.abiMethod fun t => do pure (.int .u8 (← Rtype.kind t))) Tryz.func177 (by kernel_rfl) (by kernel_rfl) (by kernel_rfl) (by kernel_rfl)
 have h37 := @run_callFunc_extern Tryz.prog 188 _ (ReflectliteType.method ReflectliteType.elem) Tryz.func188 (by kernel_rfl) (by kernel_rfl) (by kernel_rfl) (by kernel_rfl)
 have h38 := @run_callFunc_extern Tryz.prog 189 _ (ReflectliteType.relation "Implements" ReflectliteType.implements_) Tryz.func189 (by kernel_rfl) (by kernel_rfl) (by kernel_rfl) (by kernel_rfl)
 have h10 := @run_callFunc_extern Tryz.prog 111 _ ReflectliteType.typeOf Tryz.func111 (by kernel_rfl) (by kernel_rfl) (by kernel_rfl) (by kernel_rfl)
 have h35 := @run_callFunc_extern Tryz.prog 186 _ (ReflectliteType.relation "AssignableTo" ReflectliteType.assignableTo) Tryz.func186 (by kernel_rfl) (by kernel_rfl) (by kernel_rfl) (by kernel_rfl)
 have h11 := @run_callFunc_extern Tryz.prog 141 _ (ReflectliteValue.method (ReflectliteValue.valueError "reflectlite.Value.Elem" 0) ReflectliteValue.elem) Tryz.func141 (by kernel_rfl) (by kernel_rfl) (by kernel_rfl) (by kernel_rfl)
 have h12 := @run_callFunc_extern Tryz.prog 142 _ ReflectliteValue.set Tryz.func142 (by kernel_rfl) (by kernel_rfl) (by kernel_rfl) (by kernel_rfl)
 have tO := xTypeOfP
 have mA := xMethodAssignableTo
 have a25 := xAssignableP
 have v25 := xValueOfP
 have f6 := xValueOfPP
 have f7 := xTypePP
 have mK := xMethodKind
 have mE := xMethodElem
 have mI := xMethodImplements
 have k27 := xKindPP
 have k25 := xKindP
 have e27 := xElemPP
 have i25 := xImplementsP
 have n8 := xIsNilPP ⟨w.heap.size, 0, none⟩ t ((w.alloc (.cells #[.pointer (some t)] 120)).alloc (.cells #[.pointer (some ⟨5, 120, none⟩), .pointer (some ⟨w.heap.size, 0, none⟩), .int .u64 150] 150)) (by simp)
 have hlt : 4 < w.heap.size := by
  rcases Nat.lt_or_ge 4 w.heap.size with h | h
  ·exact h
  ·simp [World.cell?, Array.getElem?_eq_none h] at hg
 have hg2 : ((w.alloc (.cells #[.pointer (some t)] 120)).alloc (.cells #[.pointer (some ⟨5, 120, none⟩), .pointer (some ⟨w.heap.size, 0, none⟩), .int .u64 150] 150)).cell? ⟨4, 0, none⟩ = some hErr := by
  rw [World.cell?_alloc_lt _ _ ⟨4, 0, none⟩ (by simp; omega), World.cell?_alloc_lt _ _ ⟨4, 0, none⟩ hlt]; exact hg
 have htl : t.block < w.heap.size := by
  rcases Nat.lt_or_ge t.block w.heap.size with h | h
  ·exact h
  ·simp [World.cell?, Array.getElem?_eq_none h] at ht0
 have el := xElemVPP ⟨w.heap.size, 0, none⟩ t (((w.alloc (.cells #[.pointer (some t)] 120)).alloc (.cells #[.pointer (some ⟨5, 120, none⟩), .pointer (some ⟨w.heap.size, 0, none⟩), .int .u64 150] 150)).alloc (.cells #[.pointer (some ⟨5, 120, none⟩), .pointer (some ⟨w.heap.size, 0, none⟩), .int .u64 150] 150)) (by rw [World.cell?_alloc_lt _ _ ⟨w.heap.size, 0, none⟩ (by simp; omega)]; simp)
 have st := xSetP t ⟨w.heap.size + 1 + 1 + 1, 0, none⟩ e old ((((w.alloc (.cells #[.pointer (some t)] 120)).alloc (.cells #[.pointer (some ⟨5, 120, none⟩), .pointer (some ⟨w.heap.size, 0, none⟩), .int .u64 150] 150)).alloc (.cells #[.pointer (some ⟨5, 120, none⟩), .pointer (some ⟨w.heap.size, 0, none⟩), .int .u64 150] 150)).alloc (.cells #[.pointer (some e)] 118))
  (by rw [World.cell?_alloc_at _ _ _ _ (by simp)]; rfl)
  (by rw [World.cell?_alloc_lt _ _ t (by simp; omega), World.cell?_alloc_lt _ _ t (by simp; omega), World.cell?_alloc_lt _ _ t (by simp; omega), World.cell?_alloc_lt _ _ t htl]; exact ht0)
  (by rw [World.frozen?_alloc_old _ _ t (by simp; omega), World.frozen?_alloc_old _ _ t (by simp; omega), World.frozen?_alloc_old _ _ t (by simp; omega), World.frozen?_alloc_old _ _ t (Nat.ne_of_lt htl)]; exact hf0)
 go_enter Tryz.func71, Tryz.ntmps71
 go_wp2
 refine wp_loop_rounds 1 ?_
 rw [rounds_succ]
 go_wp2
 go_ret
 exact ⟨rfl, rfl⟩
theorem as_box (e : Addr) (p : Nat) (x : Value) (w : World) (hg : w.cell? ⟨4, 0, none⟩ = some hErr) (hp : CellsAt w p 118 #[x]) :
    Calls Tryz.prog 71 #[.iface 118 (.pointer (some e)), .iface 120 (.pointer (some ⟨p, 0, none⟩))] w fun ev w' => ev = .returned (.bool true) ∧ w.grownBy w' (some p) ∧ CellsAt w' p 118 #[.pointer (some e)] := by
 refine (as_hit e ⟨p, 0, none⟩ x w hg (hp.cell 0) (hp.frozen 0)).mono ?_
 rintro ev w' ⟨he, rfl⟩
 refine ⟨he, gb_set (gb_alloc (gb_alloc (gb_alloc (gb_alloc (gb_refl w (some p)) _) _) _) _) 0 _, ?_⟩
 have h4 := (gb_alloc (gb_alloc (gb_alloc (gb_alloc (gb_refl w none) (.cells #[.pointer (some ⟨p, 0, none⟩)] 120)) (.cells #[.pointer (some ⟨5, 120, none⟩), .pointer (some ⟨w.heap.size, 0, none⟩), .int .u64 150] 150)) (.cells #[.pointer (some ⟨5, 120, none⟩), .pointer (some ⟨w.heap.size, 0, none⟩), .int .u64 150] 150)) (.cells #[.pointer (some e)] 118))
 exact (hp.grown h4 (by simp)).set_ 0 (.pointer (some e))
theorem xIsTypeOf (v : Value) (w : World) : (Extern.ReflectliteType.typeOf #[.iface 212 v]).run Tryz.prog w = .ok (.iface 178 (.agg #[.pointer (some ⟨5, 212, none⟩)])) w := by kernel_rfl
theorem xIsComparable (w : World) : ((Extern.ReflectliteType.method fun t => do Rtype.noPackHeld "Comparable" t; (fun a => Value.bool a.comparable) <$> typeInfo t) #[.agg #[.pointer (some ⟨5, 212, none⟩)]]).run Tryz.prog w = .ok (.bool true) w := by kernel_rfl
theorem xIsMethodComparable (v : Value) (w : World) : (Go.method 346 178 v "Comparable").run Tryz.prog w = .ok (187, v) w := by kernel_rfl
theorem xIsComp : (Tryz.prog.info? 212).map (·.comparable) = some true := by kernel_rfl
theorem xIsSize : (Tryz.prog.info? 234).map (·.size) = some 1 := by kernel_rfl
theorem xNoIsE (v : Value) (xT : TypeId) (w : World) : (Instr.typeAssert (.iface 212 v) xT 190 true).run Tryz.prog w = .ok (.tuple #[.nilIface, .bool false]) w := run_typeAssert_lacksB Tryz.underlying190 (by kernel_rfl) (by kernel_rfl) v xT w
theorem xNoUnwrapE (v : Value) (xT : TypeId) (w : World) : (Instr.typeAssert (.iface 212 v) xT 185 true).run Tryz.prog w = .ok (.tuple #[.nilIface, .bool false]) w := run_typeAssert_lacksB Tryz.underlying185 (by kernel_rfl) (by kernel_rfl) v xT w
theorem xNoUnwrapsE (v : Value) (xT : TypeId) (w : World) : (Instr.typeAssert (.iface 212 v) xT 187 true).run Tryz.prog w = .ok (.tuple #[.nilIface, .bool false]) w := run_typeAssert_lacksB Tryz.underlying187 (by kernel_rfl) (by kernel_rfl) v xT w
theorem xNoIsR (v : Value) (xT : TypeId) (w : World) : (Instr.typeAssert (.iface 118 v) xT 190 true).run Tryz.prog w = .ok (.tuple #[.nilIface, .bool false]) w := run_typeAssert_lacksB Tryz.underlying190 (by kernel_rfl) (by kernel_rfl) v xT w
theorem xHasUnwrapR (v : Value) (xT : TypeId) (w : World) : (Instr.typeAssert (.iface 118 v) xT 185 true).run Tryz.prog w = .ok (.tuple #[.iface 118 v, .bool true]) w := run_typeAssert_hasB Tryz.underlying185 (by kernel_rfl) v xT w
theorem xMethodUnwrap (v : Value) (w : World) : (Go.method 346 118 v "Unwrap").run Tryz.prog w = .ok (181, v) w := by kernel_rfl
theorem is_same (pb : Nat) (b : Addr) (w : World) (h1 : w.cell? ⟨pb, 0, none⟩ = some (.iface 212 (.pointer (some b)))) :
    Calls Tryz.prog 72 #[.iface 118 (.pointer (some ⟨pb, 0, none⟩)), .iface 212 (.pointer (some b))] w fun e w' => e = .returned (.bool true) ∧ w = w' := by
 obtain ⟨i, hi, hcmp⟩ := Option.map_eq_some_iff.1 xIsComp
 obtain ⟨j, hj, hjs⟩ := Option.map_eq_some_iff.1 xIsSize
 have h8 := @run_callFunc_extern Tryz.prog 111 _ Extern.ReflectliteType.typeOf Tryz.func111 (by kernel_rfl) (by kernel_rfl) (by kernel_rfl) (by kernel_rfl)
 have h32 := @run_callFunc_extern Tryz.prog 187 _ (Extern.ReflectliteType.method fun t => do Rtype.noPackHeld "Comparable" t; pure (.bool (← typeInfo t).comparable)) Tryz.func187 (by kernel_rfl) (by kernel_rfl) (by kernel_rfl) (by kernel_rfl)
 have tT := xIsTypeOf
 have cT := xIsComparable
 have mR := xIsMethodComparable
 have nW := xNoIsR
 have uW := xHasUnwrapR
 have mU := xMethodUnwrap
 have heq := run_eql_iface_ptr_same (P := Tryz.prog) w b Tryz.underlying69 Tryz.underlying212 hi hcmp hj
 have hty := run_eql_iface_types (P := Tryz.prog) 118 212 (.pointer (some ⟨pb, 0, none⟩)) (.pointer (some b)) Tryz.underlying69 (by decide) w
 go_enter Tryz.func72, Tryz.ntmps72
 go_wp2
 refine wp_loop_rounds 2 ?_
 rw [rounds_succ]
 go_wp2
 rw [rounds_succ]
 go_wp2
 go_ret
 exact ⟨rfl, rfl⟩
theorem is_other (pb : Nat) (b a : Addr) (ca cb : Array Value) (ta tb : TypeId) (w : World) (h1 : w.cell? ⟨pb, 0, none⟩ = some (.iface 212 (.pointer (some a)))) (hne : a ≠ b) (ha : w.heap[a.block]? = some (.cells ca ta (0, 0))) (hb : w.heap[b.block]? = some (.cells cb tb (0, 0))) :
    Calls Tryz.prog 72 #[.iface 118 (.pointer (some ⟨pb, 0, none⟩)), .iface 212 (.pointer (some b))] w fun e w' => e = .returned (.bool false) ∧ w = w' := by
 obtain ⟨i, hi, hcmp⟩ := Option.map_eq_some_iff.1 xIsComp
 obtain ⟨j, hj, hjs⟩ := Option.map_eq_some_iff.1 xIsSize
 have h8 := @run_callFunc_extern Tryz.prog 111 _ Extern.ReflectliteType.typeOf Tryz.func111 (by kernel_rfl) (by kernel_rfl) (by kernel_rfl) (by kernel_rfl)
 have h32 := @run_callFunc_extern Tryz.prog 187 _ (Extern.ReflectliteType.method fun t => do Rtype.noPackHeld "Comparable" t; pure (.bool (← typeInfo t).comparable)) Tryz.func187 (by kernel_rfl) (by kernel_rfl) (by kernel_rfl) (by kernel_rfl)
 have tT := xIsTypeOf
 have cT := xIsComparable
 have mR := xIsMethodComparable
 have nE := xNoIsE
 have uE := xNoUnwrapE
 have vE := xNoUnwrapsE
 have nW := xNoIsR
 have uW := xHasUnwrapR
 have mU := xMethodUnwrap
 have heq := run_eql_iface_ptr_other (P := Tryz.prog) w Tryz.underlying69 Tryz.underlying212 hi hcmp hj (by rw [hjs]; decide) hne ha hb
 have hty := run_eql_iface_types (P := Tryz.prog) 118 212 (.pointer (some ⟨pb, 0, none⟩)) (.pointer (some b)) Tryz.underlying69 (by decide) w
 go_enter Tryz.func72, Tryz.ntmps72
 go_wp2
 refine wp_loop_rounds 2 ?_
 rw [rounds_succ]
 go_wp2
 rw [rounds_succ]
 go_wp2
 go_ret
 exact ⟨rfl, rfl⟩
section
variable {b u w' : World} {p q r : Nat} {key : Int} {A G : Option Addr} {l : List Int} {cap : Nat} {t0 t1 t2 t3 t4 t5 t6 : Int} {t7 : Bool}
end
end Go.Proofs.YteopplldbcgjjaaGreatDoor.Mx

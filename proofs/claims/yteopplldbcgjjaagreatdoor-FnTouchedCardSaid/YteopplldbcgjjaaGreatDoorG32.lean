import Derived.Test.YteopplldbcgjjaaGreatDoorG31
import Derived.Test.YteopplldbcgjjaaGreatDoorG30
import Derived.Test.YteopplldbcgjjaaGreatDoorG01
import Derived.Test.YteopplldbcgjjaaGreatDoorProg
import Derived.WalkKit
import Derived.LaidEql
import Derived.Stop.Asserts
import Derived.RowKitTokens
namespace Go.Proofs.YteopplldbcgjjaaGreatDoor.Mx
open Go.ChangeShapes Go.WideShapes Go.ChangeAt Go.RowKit
set_option linter.unusedVariables false
def TouD (w : World) (e : Ending) (w' : World) : Prop :=
  ∃ (key : Int) (Q : Option Addr) (zs : List Int) (c : Nat) (t : Tru) (x ct cv value : Int), e = .returned (.tuple #[.agg (pA key Q zs.length c), .agg (tR t), .int .i64 x, .agg (cA ct cv), .int .i64 value]) ∧ I64 x ∧ I64 ct ∧ I64 cv ∧ I64 value ∧ zs.length ≤ 5 ∧ zs.length ≤ c ∧ TruI t ∧ Ints w' .i64 w'.heap.size Q zs ∧ Below w.heap.size w w'
theorem tou_end {w u : World} {key : Int} {Q : Option Addr} {zs : List Int} {c : Nat} {t : Tru} {ct cv : Int} {lo hi : Nat} {u0 u1 z0 z1 z2 z3 z4 z5 z6 z7 y0 y1 : Value} (hb : Below w.heap.size w u)
    (k0 : CellsAt u w.heap.size 26 #[u0, u1]) (k1 : CellsAt u (w.heap.size + 1) 28 #[z0, z1, z2, z3, z4, z5, z6, z7]) (k2 : CellsAt u (w.heap.size + 1 + 1) 30 #[y0, y1]) (hlo : w.heap.size + 1 + 1 < lo) (R : RowB u lo hi Q zs c) :
    ∃ w4, ((((((((((((u.setCell ⟨w.heap.size, 0, none⟩ (.int .i64 key)).setCell ⟨w.heap.size, 1, none⟩ (.slice Q zs.length c)).setCell ⟨w.heap.size + 1, 0, none⟩ (.int .i64 t.clock)).setCell ⟨w.heap.size + 1, 1, none⟩ (.int .i64 t.epoch)).setCell ⟨w.heap.size + 1, 2, none⟩ (.int .i64 t.cursor)).setCell ⟨w.heap.size + 1, 3, none⟩ (.int .i64 t.read)).setCell ⟨w.heap.size + 1, 4, none⟩ (.int .i64 t.written)).setCell ⟨w.heap.size + 1, 5, none⟩ (.int .i64 t.nread)).setCell ⟨w.heap.size + 1, 6, none⟩ (.int .i64 t.nwritten)).setCell ⟨w.heap.size + 1, 7, none⟩ (.bool t.failed)).setCell ⟨w.heap.size + 1 + 1, 0, none⟩ (.int .i64 ct)).setCell ⟨w.heap.size + 1 + 1, 1, none⟩ (.int .i64 cv)) = w4 ∧ ((∀ i, w4.cell? ⟨w.heap.size, i, none⟩ = (pA key Q zs.length c)[i]?) ∧ (∀ i, w4.cell? ⟨w.heap.size + 1, i, none⟩ = (tR t)[i]?) ∧ (∀ i, w4.cell? ⟨w.heap.size + 1 + 1, i, none⟩ = (cA ct cv)[i]?)) ∧ Ints w4 .i64 w4.heap.size Q zs ∧ Below w.heap.size w w4 := by
  have p1 := plan_put (x0 := .int .i64 key) (x1 := .slice Q zs.length c) k0
  have p2 := tru_put (x0 := .int .i64 t.clock) (x1 := .int .i64 t.epoch) (x2 := .int .i64 t.cursor) (x3 := .int .i64 t.read) (x4 := .int .i64 t.written) (x5 := .int .i64 t.nread) (x6 := .int .i64 t.nwritten) (x7 := .bool t.failed) (k1.grown p1.2 (by intro e; injection e; omega))
  have p3 := plan_put (x0 := .int .i64 ct) (x1 := .int .i64 cv) ((k2.grown p1.2 (by intro e; injection e; omega)).grown p2.2 (by intro e; injection e; omega))
  have c1 := (p1.1.grown p2.2 (by intro e; injection e; omega)).grown p3.2 (by intro e; injection e; omega)
  have c2 := p2.1.grown p3.2 (by intro e; injection e; omega)
  have r3 := ((R.grown p1.2 (.inl (by omega))).grown p2.2 (.inl (by omega))).grown p3.2 (.inl (by omega))
  have b3 := bgb (bgb (bgb hb p1.2 hb.size (Nat.le_refl _)) p2.2 (Nat.le_trans hb.size p1.2.size) (by omega)) p3.2 (Nat.le_trans (Nat.le_trans hb.size p1.2.size) p2.2.size) (by omega)
  obtain ⟨Q', c', hq', hI⟩ := r3.1.reads
  injection hq' with hq1 hq2 hq3
  subst hq1
  exact ⟨_, rfl, ⟨c1.cell, c2.cell, p3.1.cell⟩, hI, b3⟩
def Three (g : Nat) (v : Value) (u : World) : Prop := ∃ (G : Nat) (z0 z1 z2 : Int), v = .slice (some ⟨G, 0, none⟩) 3 3 ∧ g < G ∧ CellsAt u G 2 #[.int .i64 z0, .int .i64 z1, .int .i64 z2] ∧ I64 z0 ∧ I64 z1 ∧ I64 z2
def Spot (g : Nat) (v : Value) (u : World) : Prop := ∃ (G m : Nat) (z0 z1 z2 : Int), v = .pointer (some ⟨G, m, none⟩) ∧ m < 3 ∧ g < G ∧ CellsAt u G 2 #[.int .i64 z0, .int .i64 z1, .int .i64 z2] ∧ I64 z0 ∧ I64 z1 ∧ I64 z2
theorem spot_turn {g : Nat} : ∀ v (u u' : World) (p : Nat), p ≤ g → u.grownBy u' (some p) → Spot g v u → Spot g v u' := fun v u u' p hp hg ⟨G, m, z0, z1, z2, e, hm, hG, hc, h⟩ => ⟨G, m, z0, z1, z2, e, hm, hG, hc.grown hg (by intro e; injection e; omega), h⟩
theorem spot_step {g : Nat} : ∀ v (u u' : World), Below u.heap.size u u' → Spot g v u → Spot g v u' := fun v u u' hb ⟨G, m, z0, z1, z2, e, hm, hG, hc, h⟩ => ⟨G, m, z0, z1, z2, e, hm, hG, hc.below hb hc.lt, h⟩
theorem three_turn {g : Nat} : ∀ v (u u' : World) (p : Nat), p ≤ g → u.grownBy u' (some p) → Three g v u → Three g v u' := fun v u u' p hp hg ⟨G, z0, z1, z2, e, hG, hc, h⟩ => ⟨G, z0, z1, z2, e, hG, hc.grown hg (by intro e; injection e; omega), h⟩
set_option maxRecDepth 20000 in
set_option maxHeartbeats 16000000 in
theorem drawTouched_calls (A : Option Addr) (l : List Int) (cap : Nat) (w : World) (hn : l.length ≤ 4096) (hA : Ints w .u8 w.heap.size A l) :
    Calls Tryz.prog 8 #[.slice A l.length cap] w (TouD w) := by
  have HN := Lib.hid (show l.length ≤ maxLen by unfold maxLen; omega)
  have HM := Lib.hid hn
  have K0 := Lib.hid (show Kept w [(w.heap.size + 1 + 1, 30, zC), (w.heap.size + 1, 28, zT), (w.heap.size, 26, zP)] _ from ((((Kept.refl w).put1 _ _ zP rfl).put1 _ _ zT (by simp)).put1 _ _ zC (by simp)))
  have HA := Lib.hid (fun (u : World) (hb : Below w.heap.size w u) => (hA.below hb (Nat.le_refl _)).more hb.size)
  have Z0 := Lib.hid (show (((w.alloc (.cells zP 26)).alloc (.cells zT 28)).alloc (.cells zC 30)).heap.size = w.heap.size + 1 + 1 + 1 by simp)
  clear hn hA
  go_enter Tryz.func8, Tryz.ntmps8
  go_upto_region 1 with fail
  have k0 := K0.out
  have z0 := Z0.out
  clear K0 Z0
  generalize World.alloc (World.alloc _ _) _ = w0 at k0 z0 ⊢
  have HZ := Lib.hid z0
  clear z0
  go_wp2_with fail
  refine (new_calls A l cap _ HN.out (HA.out _ k0.1)).mono ?_; rintro e w1 ⟨rfl, b1, c1⟩
  rw [HZ.out]
  rw [HZ.out] at c1
  have s1 : St w0 (w.heap.size + 1 + 1 + 1) A l cap w1 := ⟨by rw [← HZ.out]; exact b1, c1⟩
  have k1 := k0.below b1
  have H1 := Lib.hid (show KB w w0 (w.heap.size + 1 + 1 + 1) A l cap [(w.heap.size + 1 + 1, 30, zC), (w.heap.size + 1, 28, zT), (w.heap.size, 26, zP)] w1 from ⟨k1.1, s1, by omega, fun x hx => ⟨⟨(k1.2 x hx).1, by simp at hx; rcases hx with rfl | rfl | rfl <;> (simp only []; omega)⟩, (k1.2 x hx).2⟩⟩)
  clear b1 c1 s1 k1 k0 HA
  have z1 : w.heap.size + 1 + 1 + 1 < w1.heap.size := H1.out.2.1.2.lt
  go_wp2_with fail
  refine (draw8_calls w0 (w.heap.size + 1 + 1 + 1) A l cap w1 HM.out H1.out.2.1).mono ?_; rintro e w2 ⟨key, Q, zs, c, t, x, ct, cv, rfl, hx, hct, hcv, h5, hc, ht, hr, s2, g2⟩
  have z2 : w1.heap.size ≤ w2.heap.size := g2.size
  have h2 := (H1.out.step s2 g2)
  have rb := RowB.of hr
  have h3 := ((h2.put1 w2.heap.size 26 (pA key Q zs.length c) rfl).put1 (w2.heap.size + 1) 28 (tR t) (by simp)).put1 (w2.heap.size + 1 + 1) 30 (cA ct cv) (by simp)
  have rb3 := ((rb.below ((Below.refl _ _).alloc (Nat.le_refl _) (.cells (pA key Q zs.length c) 26))).below ((Below.refl _ _).alloc (Nat.le_refl _) (.cells (tR t) 28))).below ((Below.refl _ _).alloc (Nat.le_refl _) (.cells (cA ct cv) 30))
  have HI := Lib.hid (show I64 x ∧ I64 ct ∧ I64 cv ∧ zs.length ≤ 5 ∧ zs.length ≤ c ∧ TruI t from ⟨hx, hct, hcv, h5, hc, ht⟩)
  clear h2 rb hr s2 g2 H1 hx hct hcv h5 hc ht
  go_upto_region 3 with fail
  generalize World.alloc (World.alloc _ _) _ = w3 at h3 rb3 ⊢
  have H3 := Lib.hid h3
  have R3 := Lib.hid rb3
  clear h3 rb3
  go_wp2_with fail
  refine (once_st w0 (w.heap.size + 1 + 1 + 1) A l cap 2 _ HN.out H3.out.2.1 (by omega)).mono ?_; rintro e w4 ⟨b, rfl, s4, g4⟩
  have H4 := Lib.hid (H3.out.step s4 g4)
  have R4 := Lib.hid (R3.out.grown g4 (.inl (by omega)))
  clear s4 g4 H3 R3
  rcases b with _ | _
  · go_wp2_with fail
    refine (once_st w0 (w.heap.size + 1 + 1 + 1) A l cap 10 _ HN.out H4.out.2.1 (by omega)).mono ?_; rintro e w5 ⟨b, rfl, s5, g5⟩
    have H5 := Lib.hid (H4.out.step s5 g5)
    have R5 := Lib.hid (R4.out.grown g5 (.inl (by omega)))
    clear s5 g5 H4 R4
    rcases b with _ | _
    · go_upto_region 7 with fail
      have hst : DRes w w0 (w.heap.size + 1 + 1 + 1) A l cap w1.heap.size w2.heap.size Q zs c 5 5 6 [(w2.heap.size + 1 + 1, 30, (cA ct cv)), (w2.heap.size + 1, 28, (tR t)), (w2.heap.size, 26, (pA key Q zs.length c))] [(6, w.heap.size, 26, (pA key Q zs.length c)), (7, w.heap.size + 1, 28, (tR t)), (9, w.heap.size + 1 + 1, 30, (cA ct cv))] (fun _ => false) w5.drew := by
        refine ⟨H5.out.1.drew, fun _ => H5.out.2.1.drew, fun x hx => ?_, R5.out.drew, ⟨fun e => (by cases e), fun e => (by cases e)⟩, fun x hx => ?_, fun x hx => ?_, fun x hx => ?_, by omega, by omega⟩
        · exact (H5.out.2.2.2 x (by simp at hx ⊢; rcases hx with rfl | rfl | rfl <;> simp)).2.drew
        · simp only [List.mem_cons, List.not_mem_nil, or_false] at hx
          rcases hx with rfl | rfl | rfl
          · exact ⟨_, (H5.out.at_ (p := w.heap.size) (t := 26) (cs := zP) (by simp)).drew, rfl, fun e => (by cases e)⟩
          · exact ⟨_, (H5.out.at_ (p := w.heap.size + 1) (t := 28) (cs := zT) (by simp)).drew, rfl, fun e => (by cases e)⟩
          · exact ⟨_, (H5.out.at_ (p := w.heap.size + 1 + 1) (t := 30) (cs := zC) (by simp)).drew, rfl, fun e => (by cases e)⟩
        · simp only [List.mem_cons, List.not_mem_nil, or_false] at hx
          rcases hx with rfl | rfl | rfl <;> (simp only []; omega)
        · simp only [List.mem_cons, List.not_mem_nil, or_false] at hx
          rcases hx with rfl | rfl | rfl <;> exact ⟨by simp only [] <;> omega, by simp only [] <;> omega, by simp only [] <;> omega, by intro y hy; simp only [List.mem_cons, List.not_mem_nil, or_false] at hy; rcases hy with rfl | rfl | rfl <;> (simp only []; omega)⟩
      refine wp_region_free [false, false, false, false, false, true, true, true, false, true, false] (ShP [(5, fun v => ∃ n : Int, v = .int .i64 n ∧ I64 n)]) (fun D γ u => DRes w w0 (w.heap.size + 1 + 1 + 1) A l cap w1.heap.size w2.heap.size Q zs c 5 5 6 [(w2.heap.size + 1 + 1, 30, (cA ct cv)), (w2.heap.size + 1, 28, (tR t)), (w2.heap.size, 26, (pA key Q zs.length c))] [(6, w.heap.size, 26, (pA key Q zs.length c)), (7, w.heap.size + 1, 28, (tR t)), (9, w.heap.size + 1 + 1, 30, (cA ct cv))] D u) (by kernel_rfl) (by kernel_rfl) (fun γ => by kernel_rfl) (fun D γ γ' w ha h => h) (ShP.inh ?inh) (fun γ => hst) (fun γ hγ => ?_)
      case inh =>
        intro y hy
        simp only [List.mem_cons, List.not_mem_nil, or_false] at hy
        subst hy
        · exact ⟨_, 0, rfl, by exact ⟨by omega, by omega⟩⟩
      clear hst
      obtain ⟨n5, g5, i5⟩ : ∃ n : Int, γ 5 = .int .i64 n ∧ I64 n := hγ 5 rfl
      have g6 : γ 6 = undef := hγ 6 rfl
      have g7 : γ 7 = undef := hγ 7 rfl
      have g9 : γ 9 = undef := hγ 9 rfl
      apply Exists.intro
      refine ⟨fun D => ?_, ?_, ?_⟩
      · simp only [hushL, cond_true, cond_false, Nat.reduceAdd, g5, g6, g7, g9]
        iterate 11 (first
          | go_big_quiet_skip
          | (go_big_quiet_want
             go_big_quiet_op
             first
               | go_big_quiet_on
               | (apply Exists.intro
                  refine ⟨fun u hu => ?_, ?_⟩
                  · first
                      | with_reducible rfl
                      | (obtain ⟨kc0, kf0, kc1, kf1, kc2, kf2, -⟩ := hu.rd; go_simp; first | done | with_reducible rfl)
                  go_big_quiet_on)))
        exact wpQuiet_nil rfl
      · simp only [freeOk, Nat.reduceAdd]
        refine ⟨fun D u hD hd hu => ?_, fun D u hD hd hu => ?_, fun D u hD hd hu => ?_, fun D u hD hd hu => ?_, trivial⟩
        · exact steps_call ((below_st w0 (w.heap.size + 1 + 1 + 1) A l cap 10007 u HN.out (hu.2.1 (hu.early0 hD)) (by omega)).mono fun e w' ⟨n, he, hb, hs, hg⟩ => ⟨_, he, ⟨n, rfl, ⟨by omega, by omega⟩⟩, hu.turn hg (fun _ => hs) 5 (by simp) (fun _ => by unfold setD; simp)⟩) rfl rfl rfl rfl (by kernel_rfl)
        · obtain ⟨z, hz, hzs⟩ := hu.at_ (k := 6) (p := w.heap.size) (t := 26) (V := (pA key Q zs.length c)) (by simp)
          have hq : (6 = 6 ∧ D 5 = true) ∨ D 6 = true := .inl ⟨rfl, hd { on := 5, ground := Ground.chain } (by simp) rfl rfl⟩
          exact steps_store hz rfl rfl rfl (by kernel_rfl) hzs (by simp [Value.oneCell']) (fun w' hc hg => ⟨rfl, hu.stored (k := 6) (by simp) (by simp <;> omega) hq (by decide) hg hc⟩)
        · obtain ⟨z, hz, hzs⟩ := hu.at_ (k := 7) (p := w.heap.size + 1) (t := 28) (V := (tR t)) (by simp)
          have hq : (7 = 6 ∧ D 5 = true) ∨ D 6 = true := .inr (hd { on := 6, ground := Ground.phase } (by simp) rfl rfl)
          exact steps_store hz rfl rfl rfl (by kernel_rfl) hzs (by simp [Value.oneCell']) (fun w' hc hg => ⟨rfl, hu.stored (k := 7) (by simp) (by simp <;> omega) hq (by decide) hg hc⟩)
        · obtain ⟨z, hz, hzs⟩ := hu.at_ (k := 9) (p := w.heap.size + 1 + 1) (t := 30) (V := (cA ct cv)) (by simp)
          have hq : (9 = 6 ∧ D 5 = true) ∨ D 6 = true := .inr (hd { on := 6, ground := Ground.phase } (by simp) rfl rfl)
          exact steps_store hz rfl rfl rfl (by kernel_rfl) hzs (by simp [Value.oneCell']) (fun w' hc hg => ⟨rfl, hu.stored (k := 9) (by simp) (by simp <;> omega) hq (by decide) hg hc⟩)
      · intro D uf hD hu
        have c0 := hu.done (k := 6) (p := w.heap.size) (t := 26) (V := (pA key Q zs.length c)) (by simp) (hD 6 (by simp) rfl)
        have c1 := hu.done (k := 7) (p := w.heap.size + 1) (t := 28) (V := (tR t)) (by simp) (hD 7 (by simp) rfl)
        have c2 := hu.done (k := 9) (p := w.heap.size + 1 + 1) (t := 30) (V := (cA ct cv)) (by simp) (hD 9 (by simp) rfl)
        have d0 : ∀ i, uf.cell? ⟨w.heap.size, i, none⟩ = (pA key Q zs.length c)[i]? := c0.cell
        have d1 : ∀ i, uf.cell? ⟨w.heap.size + 1, i, none⟩ = (tR t)[i]? := c1.cell
        have d2 : ∀ i, uf.cell? ⟨w.heap.size + 1 + 1, i, none⟩ = (cA ct cv)[i]? := c2.cell
        obtain ⟨Q', c', hq', hI⟩ := hu.2.2.2.1.1.reads
        injection hq' with hq1 hq2 hq3
        subst hq1
        have IZ := Lib.hid hI
        have BZ := Lib.hid hu.1
        clear hu hI c0 c1 c2
        go_wp2_with fail
        exact bodyPost_ret (v := .tuple #[.agg (pA key Q zs.length c), .agg (tR t), .int .i64 x, .agg (cA ct cv), .int .i64 n5]) (by simp [results, Tryz.results8, go_sem, d0, d1, d2]) rfl ⟨key, Q, zs, c, t, x, ct, cv, n5, rfl, HI.out.1, HI.out.2.1, HI.out.2.2.1, i5, HI.out.2.2.2.1, HI.out.2.2.2.2.1, HI.out.2.2.2.2.2, IZ.out, BZ.out⟩
    · go_upto_region 6 with fail
      have hst : DRes w w0 (w.heap.size + 1 + 1 + 1) A l cap w1.heap.size w2.heap.size Q zs c 5 8 11 [(w2.heap.size + 1 + 1, 30, (cA ct cv)), (w2.heap.size + 1, 28, (tR t)), (w2.heap.size, 26, (pA key Q zs.length c))] [(11, w.heap.size, 26, (pA key Q zs.length c)), (12, w.heap.size + 1, 28, (tR t)), (14, w.heap.size + 1 + 1, 30, (cA ct cv))] (fun _ => false) w5.drew := by
        refine ⟨H5.out.1.drew, fun _ => H5.out.2.1.drew, fun x hx => ?_, R5.out.drew, ⟨fun e => (by cases e), fun e => (by cases e)⟩, fun x hx => ?_, fun x hx => ?_, fun x hx => ?_, by omega, by omega⟩
        · exact (H5.out.2.2.2 x (by simp at hx ⊢; rcases hx with rfl | rfl | rfl <;> simp)).2.drew
        · simp only [List.mem_cons, List.not_mem_nil, or_false] at hx
          rcases hx with rfl | rfl | rfl
          · exact ⟨_, (H5.out.at_ (p := w.heap.size) (t := 26) (cs := zP) (by simp)).drew, rfl, fun e => (by cases e)⟩
          · exact ⟨_, (H5.out.at_ (p := w.heap.size + 1) (t := 28) (cs := zT) (by simp)).drew, rfl, fun e => (by cases e)⟩
          · exact ⟨_, (H5.out.at_ (p := w.heap.size + 1 + 1) (t := 30) (cs := zC) (by simp)).drew, rfl, fun e => (by cases e)⟩
        · simp only [List.mem_cons, List.not_mem_nil, or_false] at hx
          rcases hx with rfl | rfl | rfl <;> (simp only []; omega)
        · simp only [List.mem_cons, List.not_mem_nil, or_false] at hx
          rcases hx with rfl | rfl | rfl <;> exact ⟨by simp only [] <;> omega, by simp only [] <;> omega, by simp only [] <;> omega, by intro y hy; simp only [List.mem_cons, List.not_mem_nil, or_false] at hy; rcases hy with rfl | rfl | rfl <;> (simp only []; omega)⟩
      refine wp_region_free [false, false, false, false, false, true, true, false, true, true, true, true, true, false, true, false] (ShP [(5, fun v => ∃ n : Int, v = .int .i64 n ∧ I64 n), (8, fun v => ∃ n : Int, v = .int .i64 n ∧ (0 ≤ n ∧ n ≤ 2)), (6, fun v => ∃ G : Nat, v = .slice (some ⟨G, 0, none⟩) 3 3), (9, fun v => ∃ G m : Nat, v = .pointer (some ⟨G, m, none⟩)), (10, fun v => ∃ n : Int, v = .int .i64 n ∧ I64 n)]) (AndC (fun D γ u => DRes w w0 (w.heap.size + 1 + 1 + 1) A l cap w1.heap.size w2.heap.size Q zs c 5 8 11 [(w2.heap.size + 1 + 1, 30, (cA ct cv)), (w2.heap.size + 1, 28, (tR t)), (w2.heap.size, 26, (pA key Q zs.length c))] [(11, w.heap.size, 26, (pA key Q zs.length c)), (12, w.heap.size + 1, 28, (tR t)), (14, w.heap.size + 1 + 1, 30, (cA ct cv))] D u) (AndC (HoldC 6 9 (Three (w.heap.size + 1 + 1 + 1))) (HoldC 9 10 (Spot (w.heap.size + 1 + 1 + 1))))) (by kernel_rfl) (by kernel_rfl) (fun γ => by kernel_rfl) (fun D γ γ' w ha h => ⟨h.1, h.2.1.loc ha, h.2.2.loc ha⟩) (ShP.inh ?inh) (fun γ => ⟨hst, HoldC.start, HoldC.start⟩) (fun γ hγ => ?_)
      case inh =>
        intro y hy
        simp only [List.mem_cons, List.not_mem_nil, or_false] at hy
        rcases hy with rfl | rfl | rfl | rfl | rfl
        · exact ⟨_, 0, rfl, by exact ⟨by omega, by omega⟩⟩
        · exact ⟨_, 0, rfl, by omega⟩
        · exact ⟨_, 0, rfl⟩
        · exact ⟨_, 0, 0, rfl⟩
        · exact ⟨_, 0, rfl, by exact ⟨by omega, by omega⟩⟩
      clear hst
      obtain ⟨n5, g5, i5⟩ : ∃ n : Int, γ 5 = .int .i64 n ∧ I64 n := hγ 5 rfl
      obtain ⟨n8, g8, i8⟩ : ∃ n : Int, γ 8 = .int .i64 n ∧ (0 ≤ n ∧ n ≤ 2) := hγ 8 rfl
      obtain ⟨GG, g6⟩ : ∃ G : Nat, γ 6 = .slice (some ⟨G, 0, none⟩) 3 3 := hγ 6 rfl
      obtain ⟨GP, mP, g9⟩ : ∃ G m : Nat, γ 9 = .pointer (some ⟨G, m, none⟩) := hγ 9 rfl
      obtain ⟨nl, g10, il⟩ : ∃ n : Int, γ 10 = .int .i64 n ∧ I64 n := hγ 10 rfl
      have g11 : γ 11 = undef := hγ 11 rfl
      have g12 : γ 12 = undef := hγ 12 rfl
      have g14 : γ 14 = undef := hγ 14 rfl
      obtain ⟨m, rfl⟩ := Int.eq_ofNat_of_zero_le i8.1
      have hm3 : m < 3 := by omega
      have hm3z : (m : Int) < 3 := by omega
      have hm0 : (0 : Int) ≤ m := by omega
      apply Exists.intro
      refine ⟨fun D => ?_, ?_, ?_⟩
      · simp only [hushL, cond_true, cond_false, Nat.reduceAdd, g5, g8, g6, g9, g10, g11, g12, g14]
        iterate 16 (first
          | go_big_quiet_skip
          | (go_big_quiet_want
             go_big_quiet_op
             first
               | go_big_quiet_on
               | (apply Exists.intro
                  refine ⟨fun u hu => ?_, ?_⟩
                  · first
                      | with_reducible rfl
                      | (obtain ⟨kc0, kf0, kc1, kf1, kc2, kf2, -⟩ := hu.1.rd; go_simp; first | done | with_reducible rfl)
                  go_big_quiet_on)))
        exact wpQuiet_nil rfl
      · simp only [freeOk, Nat.reduceAdd]
        refine ⟨fun D u hD hd hu => ?_, fun D u hD hd hu => ?_, fun D u hD hd hu => ?_, fun D u hD hd hu => ?_, fun D u hD hd hu => ?_, fun D u hD hd hu => ?_, fun D u hD hd hu => ?_, fun D u hD hd hu => ?_, trivial⟩
        · exact steps_call ((odd_st w0 (w.heap.size + 1 + 1 + 1) A l cap u HN.out (hu.1.2.1 (hu.1.early0 hD))).mono fun e w' ⟨n, he, hb, hs, hg⟩ => ⟨_, he, ⟨n, rfl, ⟨by omega, by omega⟩⟩, ⟨hu.1.turn hg (fun _ => hs) 5 (by simp) (fun e => by cases e), hu.2.1.turn three_turn hg (Nat.le_refl _) (Nat.ne_of_beq_eq_false rfl), hu.2.2.turn spot_turn hg (Nat.le_refl _) (Nat.ne_of_beq_eq_false rfl)⟩⟩) rfl rfl rfl rfl (by kernel_rfl)
        · have hb : Below u.heap.size u (u.alloc (.cells #[.int .i64 (-2), .int .i64 10007, .int .i64 n5] 2)) := (Below.refl _ _).alloc (Nat.le_refl _) _
          refine steps_build 24 2 3 1 8 (.int .i64 0) _ #[.int .i64 (-2), .int .i64 10007, .int .i64 n5] rfl Tryz.underlying24 info_i64 (by omega) (by omega) (by simp [Instr.fill, go_sem]) ⟨⟨_, rfl⟩, hu.1.below hb 6 (by simp) (by decide), HoldC.put ⟨_, -2, 10007, n5, rfl, ?_, CellsAt.new u _ _, ⟨by omega, by omega⟩, ⟨by omega, by omega⟩, i5⟩, hu.2.2.step spot_step hb (by decide)⟩
          have hlt := (hu.1.2.2.1 (w2.heap.size, 26, (pA key Q zs.length c)) (by simp)).lt
          simp only at hlt
          omega
        · exact steps_call ((below_st w0 (w.heap.size + 1 + 1 + 1) A l cap 3 u HN.out (hu.1.2.1 (hu.1.early1 hD)) (by omega)).mono fun e w' ⟨n, he, hb, hs, hg⟩ => ⟨_, he, ⟨n, rfl, ⟨by omega, by omega⟩⟩, ⟨hu.1.turn hg (fun _ => hs) 8 (by simp) (fun _ => by have := hd { on := 5, ground := Ground.chain } (by simp) rfl rfl; unfold setD; simp [this]), hu.2.1.turn three_turn hg (Nat.le_refl _) (Nat.ne_of_beq_eq_false rfl), hu.2.2.turn spot_turn hg (Nat.le_refl _) (Nat.ne_of_beq_eq_false rfl)⟩⟩) rfl rfl rfl rfl (by kernel_rfl)
        · obtain ⟨G9, z0, z1, z2, e9, hG9, hc9, q0, q1, q2⟩ := hu.2.1 (hd { on := 6, ground := Ground.data } (by simp) rfl rfl) hD
          obtain rfl : GG = G9 := by rw [g6] at e9; simpa using e9
          exact steps_indexI (e := 2) (G := GG) (m := m) (n := 3) (cap := 3) rfl rfl rfl Tryz.underlying24 (by kernel_rfl) hm3 ⟨⟨_, _, rfl⟩, hu.1.below (Below.refl _ _) 9 (by simp) (by decide), HoldC.used, HoldC.put ⟨GG, m, z0, z1, z2, rfl, hm3, hG9, hc9, q0, q1, q2⟩⟩
        · have h9 := hd { on := 9, ground := Ground.data } (by simp) rfl rfl
          obtain ⟨G9, m9, z0, z1, z2, e9, hm9, hG9, hc9, q0, q1, q2⟩ := hu.2.2 h9 hD
          obtain ⟨z, hz, hzI⟩ : ∃ z, u.cell? ⟨G9, m9, none⟩ = some (.int .i64 z) ∧ I64 z := by
            have hm : m9 = 0 ∨ m9 = 1 ∨ m9 = 2 := by omega
            rcases hm with rfl | rfl | rfl
            · exact ⟨z0, hc9.cell 0, q0⟩
            · exact ⟨z1, hc9.cell 1, q1⟩
            · exact ⟨z2, hc9.cell 2, q2⟩
          obtain ⟨rfl, rfl⟩ : GP = G9 ∧ mP = m9 := by rw [g9] at e9; simpa using e9
          exact steps_loadI hz rfl rfl ⟨_, Tryz.underlying2⟩ ⟨⟨z, rfl, hzI⟩, hu.1.below (Below.refl _ _) 10 (by simp) (by decide), HoldC.over h9, HoldC.used⟩
        · obtain ⟨z, hz, hzs⟩ := hu.1.at_ (k := 11) (p := w.heap.size) (t := 26) (V := (pA key Q zs.length c)) (by simp)
          have hq : (11 = 11 ∧ D 8 = true) ∨ D 11 = true := .inl ⟨rfl, hd { on := 8, ground := Ground.chain } (by simp) rfl rfl⟩
          exact steps_store hz rfl rfl rfl (by kernel_rfl) hzs (by simp [Value.oneCell']) (fun w' hc hg => ⟨rfl, ⟨hu.1.stored (k := 11) (by simp) (by simp <;> omega) hq (by decide) hg hc, hu.2.1.turn three_turn hg (by omega) (Nat.ne_of_beq_eq_false rfl), hu.2.2.turn spot_turn hg (by omega) (Nat.ne_of_beq_eq_false rfl)⟩⟩)
        · obtain ⟨z, hz, hzs⟩ := hu.1.at_ (k := 12) (p := w.heap.size + 1) (t := 28) (V := (tR t)) (by simp)
          have hq : (12 = 11 ∧ D 8 = true) ∨ D 11 = true := .inr (hd { on := 11, ground := Ground.phase } (by simp) rfl rfl)
          exact steps_store hz rfl rfl rfl (by kernel_rfl) hzs (by simp [Value.oneCell']) (fun w' hc hg => ⟨rfl, ⟨hu.1.stored (k := 12) (by simp) (by simp <;> omega) hq (by decide) hg hc, hu.2.1.turn three_turn hg (by omega) (Nat.ne_of_beq_eq_false rfl), hu.2.2.turn spot_turn hg (by omega) (Nat.ne_of_beq_eq_false rfl)⟩⟩)
        · obtain ⟨z, hz, hzs⟩ := hu.1.at_ (k := 14) (p := w.heap.size + 1 + 1) (t := 30) (V := (cA ct cv)) (by simp)
          have hq : (14 = 11 ∧ D 8 = true) ∨ D 11 = true := .inr (hd { on := 11, ground := Ground.phase } (by simp) rfl rfl)
          exact steps_store hz rfl rfl rfl (by kernel_rfl) hzs (by simp [Value.oneCell']) (fun w' hc hg => ⟨rfl, ⟨hu.1.stored (k := 14) (by simp) (by simp <;> omega) hq (by decide) hg hc, hu.2.1.turn three_turn hg (by omega) (Nat.ne_of_beq_eq_false rfl), hu.2.2.turn spot_turn hg (by omega) (Nat.ne_of_beq_eq_false rfl)⟩⟩)
      · intro D uf hD hu
        have c0 := hu.1.done (k := 11) (p := w.heap.size) (t := 26) (V := (pA key Q zs.length c)) (by simp) (hD 11 (by simp) rfl)
        have c1 := hu.1.done (k := 12) (p := w.heap.size + 1) (t := 28) (V := (tR t)) (by simp) (hD 12 (by simp) rfl)
        have c2 := hu.1.done (k := 14) (p := w.heap.size + 1 + 1) (t := 30) (V := (cA ct cv)) (by simp) (hD 14 (by simp) rfl)
        have d0 : ∀ i, uf.cell? ⟨w.heap.size, i, none⟩ = (pA key Q zs.length c)[i]? := c0.cell
        have d1 : ∀ i, uf.cell? ⟨w.heap.size + 1, i, none⟩ = (tR t)[i]? := c1.cell
        have d2 : ∀ i, uf.cell? ⟨w.heap.size + 1 + 1, i, none⟩ = (cA ct cv)[i]? := c2.cell
        obtain ⟨Q', c', hq', hI⟩ := hu.1.2.2.2.1.1.reads
        injection hq' with hq1 hq2 hq3
        subst hq1
        have IZ := Lib.hid hI
        have BZ := Lib.hid hu.1.1
        clear hu hI c0 c1 c2
        go_wp2_with fail
        exact bodyPost_ret (v := .tuple #[.agg (pA key Q zs.length c), .agg (tR t), .int .i64 x, .agg (cA ct cv), .int .i64 nl]) (by simp [results, Tryz.results8, go_sem, d0, d1, d2]) rfl ⟨key, Q, zs, c, t, x, ct, cv, nl, rfl, HI.out.1, HI.out.2.1, HI.out.2.2.1, il, HI.out.2.2.2.1, HI.out.2.2.2.2.1, HI.out.2.2.2.2.2, IZ.out, BZ.out⟩
  · go_upto_region 4 with fail
    obtain ⟨kc0, kf0, kc1, kf1, kc2, kf2, kc3, kf3, kc4, kf4, kc5, kf5, -⟩ := H4.out.rd
    have IN := Lib.hid (show I64 (-1) from ⟨by omega, by omega⟩)
    go_region
    go_wp2_with fail
    obtain ⟨wz, ez, ⟨d0, d1, d2⟩, hI, hb⟩ := tou_end (key := key) (t := t) (ct := ct) (cv := cv) H4.out.1 (H4.out.at_ (p := w.heap.size) (t := 26) (cs := zP) (by simp)) (H4.out.at_ (p := w.heap.size + 1) (t := 28) (cs := zT) (by simp)) (H4.out.at_ (p := w.heap.size + 1 + 1) (t := 30) (cs := zC) (by simp)) (by omega) R4.out
    rw [ez]
    clear ez
    have IZ := Lib.hid hI
    have BZ := Lib.hid hb
    clear hI hb
    exact bodyPost_ret (v := .tuple #[.agg (pA key Q zs.length c), .agg (tR t), .int .i64 x, .agg (cA ct cv), .int .i64 (-1)]) (by simp [results, Tryz.results8, go_sem, d0, d1, d2]) rfl ⟨key, Q, zs, c, t, x, ct, cv, (-1), rfl, HI.out.1, HI.out.2.1, HI.out.2.2.1, IN.out, HI.out.2.2.2.1, HI.out.2.2.2.2.1, HI.out.2.2.2.2.2, IZ.out, BZ.out.drew⟩
open Go.RowKit Go.Extern.Stop Go.Stop Go.Extern
abbrev hErr : Value := .iface 178 (.agg #[.pointer (some ⟨5, 69, none⟩)])
theorem xValueOfPP (t : Addr) (w : World) : (ReflectliteValue.unpack (.iface 120 (.pointer (some t)))).run Tryz.prog w
    = .ok (.agg #[.pointer (some ⟨5, 120, none⟩), .pointer (some ⟨w.heap.size, 0, none⟩), .int .u64 150]) (w.alloc (.cells #[.pointer (some t)] 120)) := by kernel_rfl
theorem xTypePP (a : Addr) (w : World) : (ReflectliteValue.methodAny (ReflectliteValue.valueError "reflectlite.Value.Type" 0) (fun t _ _ _ => ReflectliteType.toType t) #[.agg #[.pointer (some ⟨5, 120, none⟩), .pointer (some a), .int .u64 150]]).run Tryz.prog w
    = .ok (.iface 178 (.agg #[.pointer (some ⟨5, 120, none⟩)])) w := by kernel_rfl
theorem xMethodKind (h : Value) (w : World) : (Go.method 346 178 (.agg #[h]) "Kind").run Tryz.prog w = .ok (177, h) w := by kernel_rfl
theorem xKindPP (w : World) : ((ReflectliteType.abiMethod fun t => (fun a : Nat => Value.int IntKind.u8 (a : Int)) <$> Rtype.kind t) #[.pointer (some ⟨5, 120, none⟩)]).run Tryz.prog w = .ok (.int .u8 22) w := by kernel_rfl
theorem xKindP (w : World) : ((ReflectliteType.abiMethod fun t => (fun a : Nat => Value.int IntKind.u8 (a : Int)) <$> Rtype.kind t) #[.pointer (some ⟨5, 118, none⟩)]).run Tryz.prog w = .ok (.int .u8 22) w := by kernel_rfl
theorem xRlm (z : Sem Value) (f : TypeId → Addr → Nat → Nat → Sem Value) (v : Value) :
    ReflectliteValue.method z f #[v] = (do match ← ReflectliteValue.parts v with | none => z | some (t, a, fl) => f t a fl (fl % 32)) := rfl
theorem xPartsPP (a : Addr) (w : World) : (ReflectliteValue.parts (.agg #[.pointer (some ⟨5, 120, none⟩), .pointer (some a), .int .u64 150])).run Tryz.prog w = .ok (some (120, a, 150)) w := by kernel_rfl
theorem xIsNilPP (a p : Addr) (W : World) (ha : W.cell? a = some (.pointer (some p))) :
    (ReflectliteValue.method (ReflectliteValue.valueError "reflectlite.Value.IsNil" 0) ReflectliteValue.isNil #[.agg #[.pointer (some ⟨5, 120, none⟩), .pointer (some a), .int .u64 150]]).run Tryz.prog W = .ok (.bool false) W := by
  rw [xRlm]
  simp only [Sem.run_bind, xPartsPP, Result.andThen]
  simp [ReflectliteValue.isNil, loadVar, isAgg, underlying, Tryz.underlying120, ha, Result.andThen]
theorem xMethodElem (h : Value) (w : World) : (Go.method 346 178 (.agg #[h]) "Elem").run Tryz.prog w = .ok (188, .agg #[h]) w := by kernel_rfl
theorem xMethodImplements (h : Value) (w : World) : (Go.method 346 178 (.agg #[h]) "Implements").run Tryz.prog w = .ok (189, .agg #[h]) w := by kernel_rfl
theorem xMethodAssignableTo (h : Value) (w : World) : (Go.method 346 178 (.agg #[h]) "AssignableTo").run Tryz.prog w = .ok (186, .agg #[h]) w := by kernel_rfl
theorem xElemPP (w : World) : (ReflectliteType.method ReflectliteType.elem #[.agg #[.pointer (some ⟨5, 120, none⟩)]]).run Tryz.prog w = .ok (.iface 178 (.agg #[.pointer (some ⟨5, 118, none⟩)])) w := by kernel_rfl
theorem xImplementsP (w : World) : (ReflectliteType.relation "Implements" ReflectliteType.implements_ #[.agg #[.pointer (some ⟨5, 118, none⟩)], hErr]).run Tryz.prog w = .ok (.bool true) w := by kernel_rfl
theorem xTypeOfP (v : Value) (w : World) : (ReflectliteType.typeOf #[.iface 118 v]).run Tryz.prog w = .ok (.iface 178 (.agg #[.pointer (some ⟨5, 118, none⟩)])) w := by kernel_rfl
theorem xAssignableP (w : World) : (ReflectliteType.relation "AssignableTo" ReflectliteType.assignableTo #[.agg #[.pointer (some ⟨5, 118, none⟩)], .iface 178 (.agg #[.pointer (some ⟨5, 118, none⟩)])]).run Tryz.prog w = .ok (.bool true) w := by kernel_rfl
theorem xValueOfP (e : Addr) (w : World) : (ReflectliteValue.unpack (.iface 118 (.pointer (some e)))).run Tryz.prog w
    = .ok (.agg #[.pointer (some ⟨5, 118, none⟩), .pointer (some ⟨w.heap.size, 0, none⟩), .int .u64 150]) (w.alloc (.cells #[.pointer (some e)] 118)) := by kernel_rfl
theorem xElemOfPP (w : World) : (Rtype.elem? 120).run Tryz.prog w = .ok (some 118) w := by kernel_rfl
theorem xMkP (p : Addr) (w : World) : (ReflectliteValue.mk 118 p ReflectliteValue.flagAddr).run Tryz.prog w = .ok (.agg #[.pointer (some ⟨5, 118, none⟩), .pointer (some p), .int .u64 406]) w := by kernel_rfl
theorem xElemVPP (a p : Addr) (W : World) (ha : W.cell? a = some (.pointer (some p))) :
    (ReflectliteValue.method (ReflectliteValue.valueError "reflectlite.Value.Elem" 0) ReflectliteValue.elem #[.agg #[.pointer (some ⟨5, 120, none⟩), .pointer (some a), .int .u64 150]]).run Tryz.prog W
      = .ok (.agg #[.pointer (some ⟨5, 118, none⟩), .pointer (some p), .int .u64 406]) W := by
  rw [xRlm]
  simp only [Sem.run_bind, xPartsPP, Result.andThen]
  simp [ReflectliteValue.elem, loadVar, isAgg, underlying, Tryz.underlying120, ha, Result.andThen, xElemOfPP, xMkP]
theorem xRls (v x : Value) : ReflectliteValue.set #[v, x] = (do
    let (some (dst, a, fl), some (src, b, _)) := (← ReflectliteValue.parts v, ← ReflectliteValue.parts x)
      | unsupported (.noEntry "extern/(internal/reflectlite.Value).Set.zeroValue")
    if fl / ReflectliteValue.flagAddr % 2 == 0 then unsupported (.noEntry "extern/(internal/reflectlite.Value).Set.unaddressable")
    let val ← loadVar src b
    if ← Rtype.directlyAssignable dst src then storeVar dst a val
    else if ← Rtype.implements dst src then
      if (← Rtype.kind src) == 20 then
        match val with
        | .nilIface => unsupported (.noEntry "extern/reflectlite: a nil value of one interface type handed on as a value of another")
        | _ => storeVar dst a val
      else storeVar dst a (.iface src val)
    else panicString ("reflectlite.Set: value of type " ++ (← Rtype.spelt src) ++ " is not assignable to type " ++ (← Rtype.spelt dst))
    pure (.tuple #[])) := rfl
theorem xPartsPa (a : Addr) (w : World) : (ReflectliteValue.parts (.agg #[.pointer (some ⟨5, 118, none⟩), .pointer (some a), .int .u64 406])).run Tryz.prog w = .ok (some (118, a, 406)) w := by kernel_rfl
theorem xPartsP (a : Addr) (w : World) : (ReflectliteValue.parts (.agg #[.pointer (some ⟨5, 118, none⟩), .pointer (some a), .int .u64 150])).run Tryz.prog w = .ok (some (118, a, 150)) w := by kernel_rfl
theorem xDirectP (w : World) : (Rtype.directlyAssignable 118 118).run Tryz.prog w = .ok true w := by kernel_rfl
theorem xSetP (ta b e : Addr) (old : Value) (W : World) (hb : W.cell? b = some (.pointer (some e))) (ht : W.cell? ta = some old) (hf : W.frozen? ta = false) :
    (ReflectliteValue.set #[.agg #[.pointer (some ⟨5, 118, none⟩), .pointer (some ta), .int .u64 406], .agg #[.pointer (some ⟨5, 118, none⟩), .pointer (some b), .int .u64 150]]).run Tryz.prog W
      = .ok (.tuple #[]) (W.setCell ta (.pointer (some e))) := by
  rw [xRls]
  simp only [Sem.run_bind, xPartsPa, xPartsP, Result.andThen]
  simp [ReflectliteValue.flagAddr, loadVar, isAgg, underlying, Tryz.underlying118, hb, Result.andThen, xDirectP, storeVar, Value.cells, storeCells, Addr.add]
  rw [run_store Tryz.prog W ta _ _ (by rfl)]
  simp [ht, hf]
set_option maxHeartbeats 4000000 in
theorem as_hit (e t : Addr) (old : Value) (w : World) (hg : w.cell? ⟨4, 0, none⟩ = some hErr) (ht0 : w.cell? t = some old) (hf0 : w.frozen? t = false) :
    Calls Tryz.prog 71 #[.iface 118 (.pointer (some e)), .iface 120 (.pointer (some t))] w fun ev w' => ev = .returned (.bool true) ∧ w' = ((((w.alloc (.cells #[.pointer (some t)] 120)).alloc (.cells #[.pointer (some ⟨5, 120, none⟩), .pointer (some ⟨w.heap.size, 0, none⟩), .int .u64 150] 150)).alloc (.cells #[.pointer (some ⟨5, 120, none⟩), .pointer (some ⟨w.heap.size, 0, none⟩), .int .u64 150] 150)).alloc (.cells #[.pointer (some e)] 118)).setCell t (.pointer (some e)) := by
  have h6 := @run_callFunc_extern Tryz.prog 107 _ (fun args => ReflectliteValue.unpack (args.getD 0 (.tuple #[]))) Tryz.func107 (by kernel_rfl) (by kernel_rfl) (by kernel_rfl) (by kernel_rfl)
  have h7 := @run_callFunc_extern Tryz.prog 108 _ (ReflectliteValue.methodAny (ReflectliteValue.valueError "reflectlite.Value.Type" 0) (fun t _ _ _ => ReflectliteType.toType t)) Tryz.func108 (by kernel_rfl) (by kernel_rfl) (by kernel_rfl) (by kernel_rfl)
  have h8 := @run_callFunc_extern Tryz.prog 109 _ (ReflectliteValue.method (ReflectliteValue.valueError "reflectlite.Value.IsNil" 0) ReflectliteValue.isNil) Tryz.func109 (by kernel_rfl) (by kernel_rfl) (by kernel_rfl) (by kernel_rfl)
  have h27 := @run_callFunc_extern Tryz.prog 177 _ (ReflectliteType.abiMethod fun t => do pure (.int .u8 (← Rtype.kind t))) Tryz.func177 (by kernel_rfl) (by kernel_rfl) (by kernel_rfl) (by kernel_rfl)
  have h37 := @run_callFunc_extern Tryz.prog 188 _ (ReflectliteType.method ReflectliteType.elem) Tryz.func188 (by kernel_rfl) (by kernel_rfl) (by kernel_rfl) (by kernel_rfl)
  have h38 := @run_callFunc_extern Tryz.prog 189 _ (ReflectliteType.relation "Implements" ReflectliteType.implements_) Tryz.func189 (by kernel_rfl) (by kernel_rfl) (by kernel_rfl) (by kernel_rfl)
  have h10 := @run_callFunc_extern Tryz.prog 111 _ ReflectliteType.typeOf Tryz.func111 (by kernel_rfl) (by kernel_rfl) (by kernel_rfl) (by kernel_rfl)
  have h35 := @run_callFunc_extern Tryz.prog 186 _ (ReflectliteType.relation "AssignableTo" ReflectliteType.assignableTo) Tryz.func186 (by kernel_rfl) (by kernel_rfl) (by kernel_rfl) (by kernel_rfl)
  have h11 := @run_callFunc_extern Tryz.prog 141 _ (ReflectliteValue.method (ReflectliteValue.valueError "reflectlite.Value.Elem" 0) ReflectliteValue.elem) Tryz.func141 (by kernel_rfl) (by kernel_rfl) (by kernel_rfl) (by kernel_rfl)
  have h12 := @run_callFunc_extern Tryz.prog 142 _ ReflectliteValue.set Tryz.func142 (by kernel_rfl) (by kernel_rfl) (by kernel_rfl) (by kernel_rfl)
  have tO := xTypeOfP
  have mA := xMethodAssignableTo
  have a25 := xAssignableP
  have v25 := xValueOfP
  have f6 := xValueOfPP
  have f7 := xTypePP
  have mK := xMethodKind
  have mE := xMethodElem
  have mI := xMethodImplements
  have k27 := xKindPP
  have k25 := xKindP
  have e27 := xElemPP
  have i25 := xImplementsP
  have n8 := xIsNilPP ⟨w.heap.size, 0, none⟩ t ((w.alloc (.cells #[.pointer (some t)] 120)).alloc (.cells #[.pointer (some ⟨5, 120, none⟩), .pointer (some ⟨w.heap.size, 0, none⟩), .int .u64 150] 150)) (by simp)
  have hlt : 4 < w.heap.size := by
    rcases Nat.lt_or_ge 4 w.heap.size with h | h
    · exact h
    · simp [World.cell?, Array.getElem?_eq_none h] at hg
  have hg2 : ((w.alloc (.cells #[.pointer (some t)] 120)).alloc (.cells #[.pointer (some ⟨5, 120, none⟩), .pointer (some ⟨w.heap.size, 0, none⟩), .int .u64 150] 150)).cell? ⟨4, 0, none⟩ = some hErr := by
    rw [World.cell?_alloc_lt _ _ ⟨4, 0, none⟩ (by simp; omega), World.cell?_alloc_lt _ _ ⟨4, 0, none⟩ hlt]; exact hg
  have htl : t.block < w.heap.size := by
    rcases Nat.lt_or_ge t.block w.heap.size with h | h
    · exact h
    · simp [World.cell?, Array.getElem?_eq_none h] at ht0
  have el := xElemVPP ⟨w.heap.size, 0, none⟩ t (((w.alloc (.cells #[.pointer (some t)] 120)).alloc (.cells #[.pointer (some ⟨5, 120, none⟩), .pointer (some ⟨w.heap.size, 0, none⟩), .int .u64 150] 150)).alloc (.cells #[.pointer (some ⟨5, 120, none⟩), .pointer (some ⟨w.heap.size, 0, none⟩), .int .u64 150] 150)) (by rw [World.cell?_alloc_lt _ _ ⟨w.heap.size, 0, none⟩ (by simp; omega)]; simp)
  have st := xSetP t ⟨w.heap.size + 1 + 1 + 1, 0, none⟩ e old ((((w.alloc (.cells #[.pointer (some t)] 120)).alloc (.cells #[.pointer (some ⟨5, 120, none⟩), .pointer (some ⟨w.heap.size, 0, none⟩), .int .u64 150] 150)).alloc (.cells #[.pointer (some ⟨5, 120, none⟩), .pointer (some ⟨w.heap.size, 0, none⟩), .int .u64 150] 150)).alloc (.cells #[.pointer (some e)] 118))
    (by rw [World.cell?_alloc_at _ _ _ _ (by simp)]; rfl)
    (by rw [World.cell?_alloc_lt _ _ t (by simp; omega), World.cell?_alloc_lt _ _ t (by simp; omega), World.cell?_alloc_lt _ _ t (by simp; omega), World.cell?_alloc_lt _ _ t htl]; exact ht0)
    (by rw [World.frozen?_alloc_old _ _ t (by simp; omega), World.frozen?_alloc_old _ _ t (by simp; omega), World.frozen?_alloc_old _ _ t (by simp; omega), World.frozen?_alloc_old _ _ t (Nat.ne_of_lt htl)]; exact hf0)
  go_enter Tryz.func71, Tryz.ntmps71
  go_wp2
  refine wp_loop_rounds 1 ?_
  rw [rounds_succ]
  go_wp2
  go_ret
  exact ⟨rfl, rfl⟩
theorem as_box (e : Addr) (p : Nat) (x : Value) (w : World) (hg : w.cell? ⟨4, 0, none⟩ = some hErr) (hp : CellsAt w p 118 #[x]) :
    Calls Tryz.prog 71 #[.iface 118 (.pointer (some e)), .iface 120 (.pointer (some ⟨p, 0, none⟩))] w fun ev w' => ev = .returned (.bool true) ∧ w.grownBy w' (some p) ∧ CellsAt w' p 118 #[.pointer (some e)] := by
  refine (as_hit e ⟨p, 0, none⟩ x w hg (hp.cell 0) (hp.frozen 0)).mono ?_
  rintro ev w' ⟨he, rfl⟩
  refine ⟨he, gb_set (gb_alloc (gb_alloc (gb_alloc (gb_alloc (gb_refl w (some p)) _) _) _) _) 0 _, ?_⟩
  have h4 := (gb_alloc (gb_alloc (gb_alloc (gb_alloc (gb_refl w none) (.cells #[.pointer (some ⟨p, 0, none⟩)] 120)) (.cells #[.pointer (some ⟨5, 120, none⟩), .pointer (some ⟨w.heap.size, 0, none⟩), .int .u64 150] 150)) (.cells #[.pointer (some ⟨5, 120, none⟩), .pointer (some ⟨w.heap.size, 0, none⟩), .int .u64 150] 150)) (.cells #[.pointer (some e)] 118))
  exact (hp.grown h4 (by simp)).set_ 0 (.pointer (some e))
end Go.Proofs.YteopplldbcgjjaaGreatDoor.Mx

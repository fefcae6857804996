import Derived.Test.YtgaecedhkbneaaaGreatDoorG24
import Derived.Test.YtgaecedhkbneaaaGreatDoorG25
import Derived.Test.YtgaecedhkbneaaaGreatDoorG14
import Derived.Test.YtgaecedhkbneaaaGreatDoorRows
import Derived.LaidLaws
import Derived.LaidMore
import Derived.LaidHandle
import Derived.Test.YtgaecedhkbneaaaGreatDoorG08
import Derived.Test.YtgaecedhkbneaaaGreatDoorG06
namespace Go.Proofs.YtgaecedhkbneaaaGreatDoor.Mx
open Go.ChangeShapes Go.WideShapes Go.ChangeAt Go.RowKit
set_option linter.unusedVariables false
def Errs (w : World) (a0 a1 a2 a3 : Addr) : Prop :=
  w.cell? ⟨4, 0, none⟩ = some hErr ∧ (w.cell? ⟨0, 0, none⟩ = some (.iface 264 (.pointer (some a0))) ∧ w.cell? ⟨1, 0, none⟩ = some (.iface 264 (.pointer (some a1))) ∧ w.cell? ⟨2, 0, none⟩ = some (.iface 264 (.pointer (some a2))) ∧ w.cell? ⟨3, 0, none⟩ = some (.iface 264 (.pointer (some a3)))) ∧
  (a0 ≠ a1 ∧ a0 ≠ a2 ∧ a0 ≠ a3 ∧ a1 ≠ a2 ∧ a1 ≠ a3 ∧ a2 ≠ a3) ∧
  (∃ c t, w.heap[a0.block]? = some (.cells c t (0, 0))) ∧ (∃ c t, w.heap[a1.block]? = some (.cells c t (0, 0))) ∧ (∃ c t, w.heap[a2.block]? = some (.cells c t (0, 0))) ∧ (∃ c t, w.heap[a3.block]? = some (.cells c t (0, 0)))
theorem cell_lt {w : World} {a : Addr} {v : Value} (h : w.cell? a = some v) : a.block < w.heap.size := by
  rcases Nat.lt_or_ge a.block w.heap.size with h' | h'
  · exact h'
  · simp [World.cell?, Array.getElem?_eq_none h'] at h
theorem Errs.below {w u : World} {a0 a1 a2 a3 : Addr} (h : Errs w a0 a1 a2 a3) (hb : Below w.heap.size w u) : Errs u a0 a1 a2 a3 := by
  obtain ⟨h0, ⟨g0, g1, g2, g3⟩, hn, ⟨c0, s0, r0⟩, ⟨c1, s1, r1⟩, ⟨c2, s2, r2⟩, ⟨c3, s3, r3⟩⟩ := h
  have K : ∀ {a : Addr} {v : Value}, w.cell? a = some v → u.cell? a = some v := fun hc => (hb.cell (cell_lt hc)).trans hc
  have R : ∀ {b : Nat} {o : Obj}, w.heap[b]? = some o → u.heap[b]? = some o := fun hc => (hb.block _ (Array.getElem?_eq_some_iff.1 hc).1).trans hc
  exact ⟨K h0, ⟨K g0, K g1, K g2, K g3⟩, hn, ⟨c0, s0, R r0⟩, ⟨c1, s1, R r1⟩, ⟨c2, s2, R r2⟩, ⟨c3, s3, R r3⟩⟩
theorem isValueB (s : Int) (w : World) : Calls Tryz.prog 38 #[.int .i64 s] w fun e w' => e = .returned (.bool (decide (isVal s))) ∧ w = w' := by
  by_cases h : isVal s
  · rw [decide_eq_true h]; exact isValue_yes s w h
  · rw [decide_eq_false h]; exact isValue_no s w h
open Classical in
noncomputable def touchB (key : Int) (l : List Int) (t : Tru) (x ct cv value : Int) : Bool := decide (touchOk key l t x ct cv value)
open Classical in
theorem touchB_yes {key : Int} {l : List Int} {t : Tru} {x ct cv value : Int} (h : touchOk key l t x ct cv value) : touchB key l t x ct cv value = true := by unfold touchB; exact decide_eq_true h
open Classical in
theorem touchB_no {key : Int} {l : List Int} {t : Tru} {x ct cv value : Int} (h : ¬ touchOk key l t x ct cv value) : touchB key l t x ct cv value = false := by unfold touchB; exact decide_eq_false h
set_option maxRecDepth 20000 in
set_option maxHeartbeats 2000000 in
theorem sumsAt_calls (p : Nat) (b : Bool) (w : World) :
    Calls Tryz.prog 158 #[.pointer (some ⟨p, 0, none⟩), .bool b] w fun e w' => e = .returned (.tuple #[.pointer (some ⟨p, bif b then 5 else 3, none⟩), .pointer (some ⟨p, bif b then 6 else 4, none⟩)]) ∧ Below w.heap.size w w' := by
  cases b
  · go_enter Tryz.func158, Tryz.ntmps158
    go_upto_region 3 with fail
    refine wp_region_class (C := fun u => Below w.heap.size w u) (by kernel_rfl) (by kernel_rfl) (Below.refl _ _).drew ?_
    iterate 8 (first
      | go_big_quiet_skip
      | (go_big_quiet_want
         go_big_quiet_op
         first
           | go_big_quiet_on
           | (apply Exists.intro
              refine ⟨fun u hu => ?_, ?_⟩
              · first
                  | with_reducible rfl
                  | (go_simp; first | done | with_reducible rfl)
              go_big_quiet_on)))
    refine wpQuiet_nil ?_
    intro wz hz
    go_wp2_with fail
    go_ret2
    exact ⟨rfl, hz⟩
  · go_enter Tryz.func158, Tryz.ntmps158
    go_upto_region 2 with fail
    refine wp_region_class (C := fun u => Below w.heap.size w u) (by kernel_rfl) (by kernel_rfl) (Below.refl _ _).drew ?_
    iterate 8 (first
      | go_big_quiet_skip
      | (go_big_quiet_want
         go_big_quiet_op
         first
           | go_big_quiet_on
           | (apply Exists.intro
              refine ⟨fun u hu => ?_, ?_⟩
              · first
                  | with_reducible rfl
                  | (go_simp; first | done | with_reducible rfl)
              go_big_quiet_on)))
    refine wpQuiet_nil ?_
    intro wz hz
    go_wp2_with fail
    go_ret2
    exact ⟨rfl, hz⟩
set_option maxRecDepth 20000 in
set_option maxHeartbeats 4000000 in
theorem take_calls (key a s ct cv : Int) (p k : Nat) (cs : Array Value) (w : World) (hkey : I64 key) (ha : I64 a) (hct : I64 ct) (hcv : I64 cv) (hp : CellsAt w p 80 cs) (ek : cs[k]? = some (.int .i64 s)) :
    Calls Tryz.prog 160 #[.pointer (some ⟨p, k, none⟩), .int .i64 key, .int .i64 a, .agg (cA ct cv)] w fun e w' =>
      e = .returned (.int .i64 (valueIn key a ct cv)) ∧ w.grownBy w' (some p) ∧ CellsAt w' p 80 (cs.setIfInBounds k (.int .i64 (addOf s (tagIn key a ct cv)))) := by
  have CA := Lib.hid (fun u => added_calls s key a ct cv u ha hct hcv)
  have CV := Lib.hid (fun u => ansValueIn key a ct cv u hkey ha hct hcv)
  generalize addOf s (tagIn key a ct cv) = z at CA ⊢
  generalize valueIn key a ct cv = y at CV ⊢
  have lp := hp.lt
  have P0 := Lib.hid (show CellsAt (w.alloc (.cells (cA ct cv) 112)) p 80 cs from hp.below (allocP w _) lp)
  have G0 := Lib.hid (show w.grownBy (w.alloc (.cells (cA ct cv) 112)) (some p) from gb_alloc (gb_refl w (some p)) _)
  have R0 := Lib.hid (show CellsAt (w.alloc (.cells (cA ct cv) 112)) w.heap.size 112 (cA ct cv) from CellsAt.new w _ _)
  have EK := Lib.hid ek
  clear hp hkey ha hct hcv ek
  go_enter Tryz.func160, Tryz.ntmps160
  go_upto_region 1 with fail
  have hp0 := P0.out
  have hg0 := G0.out
  have hr0 := R0.out
  clear P0 G0 R0
  generalize World.alloc _ _ = w0 at hp0 hg0 hr0 ⊢
  have CK : ∀ u, Below w0.heap.size w0 u → u.cell? ⟨p, k, none⟩ = some (.int .i64 s) ∧ (∀ i, u.frozen? ⟨p, i, none⟩ = false) ∧ (∀ i, u.cell? ⟨w.heap.size, i, none⟩ = (cA ct cv)[i]?) := fun u hu =>
    ⟨((hp0.below hu hp0.lt).cell k).trans EK.out, (hp0.below hu hp0.lt).frozen, (hr0.below hu hr0.lt).cell⟩
  have HK := Lib.hid CK
  have HP := Lib.hid hp0
  have HG := Lib.hid hg0
  have HR := Lib.hid hr0
  clear CK hp0 hg0 hr0
  refine wp_region_class_tail (C := fun u => Below w0.heap.size w0 u) 9 (by kernel_rfl) (by kernel_rfl) (Below.refl _ _).drew ?_
  simp only [List.take_succ_cons, List.take_zero, List.drop_succ_cons, List.drop_zero]
  iterate 9 (first
    | go_big_quiet_skip
    | (go_big_quiet_want
       go_big_quiet_op
       first
         | go_big_quiet_on
         | (apply Exists.intro
            refine ⟨fun u hu => ?_, ?_⟩
            · first
                | with_reducible rfl
                | (go_at_call 200; refine (CA.out u).mono ?_; rintro e wx ⟨rfl, bx⟩; exact ⟨rfl, hu.trans (bx.mono hu.size)⟩)
                | (obtain ⟨ck, cf, cq⟩ := HK.out u hu; go_simp; first | done | with_reducible rfl)
            go_big_quiet_on)))
  refine wpQuiet_nil ?_
  intro w4 hb4
  obtain ⟨ck, cf, cq⟩ := HK.out w4 hb4
  have hne : ¬ p = w.heap.size := by omega
  have hp4 := HP.out.below hb4 HP.out.lt
  have hr4 := HR.out.below hb4 HR.out.lt
  have hg4 := gb_belowP HG.out (hb4.mono HG.out.size)
  clear HP HR HG HK CA hb4
  go_upto_region 2 with fail
  have hp5 := hp4.set_ k (.int .i64 z)
  have hr5 := hr4.grown (gb_set (gb_refl w4 (some p)) k (.int .i64 z)) (by intro e; injection e; omega)
  have hg5 := gb_set hg4 k (.int .i64 z)
  clear hp4 hr4 hg4 ck cf cq
  generalize World.setCell _ _ _ = w5 at hp5 hr5 hg5 ⊢
  have rc : ∀ i, w5.cell? ⟨w.heap.size, i, none⟩ = (cA ct cv)[i]? := hr5.cell
  go_wp2_with fail
  refine (CV.out _).mono ?_; rintro e w6 ⟨rfl, b6⟩
  have hp6 := hp5.below b6 hp5.lt
  have hg6 := gb_belowP hg5 (b6.mono hg5.size)
  clear hp5 hg5 hr5 rc b6
  go_wp2_with fail
  go_ret
  exact ⟨rfl, hg6, hp6⟩
-- codeOf: of the sentinels, by their places
set_option maxRecDepth 20000 in
set_option maxHeartbeats 2000000 in
theorem codeOf_0 (r : Nat) (a0 a1 a2 a3 : Addr) (zs : List Value) (w : World) (he : Errs w a0 a1 a2 a3) (hr : CellsAt w r 211 (.iface 264 (.pointer (some a0)) :: zs).toArray) :
    Calls Tryz.prog 157 #[.iface 207 (.pointer (some ⟨r, 0, none⟩))] w fun e w' => e = .returned (.int .i64 1) ∧ w = w' := by
  obtain ⟨h0, ⟨g0, g1, g2, g3⟩, ⟨n01, n02, n03, n12, n13, n23⟩, ⟨c0, s0, r0⟩, ⟨c1, s1, r1⟩, ⟨c2, s2, r2⟩, ⟨c3, s3, r3⟩⟩ := he
  have hc : w.cell? ⟨r, 0, none⟩ = some (.iface 264 (.pointer (some a0))) := by rw [hr.cell 0]; simp
  have I1 := Lib.hid (is_other r a1 a0 c0 c1 s0 s1 w hc n01 r0 r1)
  have I2 := Lib.hid (is_other r a2 a0 c0 c2 s0 s2 w hc n02 r0 r2)
  have I3 := Lib.hid (is_other r a3 a0 c0 c3 s0 s3 w hc n03 r0 r3)
  clear hr hc h0 r0 r1 r2 r3 n01 n02 n03 n12 n13 n23
  go_enter Tryz.func157, Tryz.ntmps157
  go_wp2_with fail
  refine (I1.out).mono ?_; rintro e w' ⟨rfl, rfl⟩
  go_wp2_with fail
  refine (I2.out).mono ?_; rintro e w' ⟨rfl, rfl⟩
  go_wp2_with fail
  refine (I3.out).mono ?_; rintro e w' ⟨rfl, rfl⟩
  go_wp2_with fail
  go_ret
  exact ⟨rfl, rfl⟩
set_option maxRecDepth 20000 in
set_option maxHeartbeats 2000000 in
theorem codeOf_1 (r : Nat) (a0 a1 a2 a3 : Addr) (zs : List Value) (w : World) (he : Errs w a0 a1 a2 a3) (hr : CellsAt w r 211 (.iface 264 (.pointer (some a1)) :: zs).toArray) :
    Calls Tryz.prog 157 #[.iface 207 (.pointer (some ⟨r, 0, none⟩))] w fun e w' => e = .returned (.int .i64 2) ∧ w = w' := by
  obtain ⟨h0, ⟨g0, g1, g2, g3⟩, ⟨n01, n02, n03, n12, n13, n23⟩, ⟨c0, s0, r0⟩, ⟨c1, s1, r1⟩, ⟨c2, s2, r2⟩, ⟨c3, s3, r3⟩⟩ := he
  have hc : w.cell? ⟨r, 0, none⟩ = some (.iface 264 (.pointer (some a1))) := by rw [hr.cell 0]; simp
  have I1 := Lib.hid (is_same r a1 w hc)
  have I2 := Lib.hid (is_other r a2 a1 c1 c2 s1 s2 w hc n12 r1 r2)
  have I3 := Lib.hid (is_other r a3 a1 c1 c3 s1 s3 w hc n13 r1 r3)
  clear hr hc h0 r0 r1 r2 r3 n01 n02 n03 n12 n13 n23
  go_enter Tryz.func157, Tryz.ntmps157
  go_wp2_with fail
  refine (I1.out).mono ?_; rintro e w' ⟨rfl, rfl⟩
  go_wp2_with fail
  go_ret
  exact ⟨rfl, rfl⟩
set_option maxRecDepth 20000 in
set_option maxHeartbeats 2000000 in
theorem codeOf_2 (r : Nat) (a0 a1 a2 a3 : Addr) (zs : List Value) (w : World) (he : Errs w a0 a1 a2 a3) (hr : CellsAt w r 211 (.iface 264 (.pointer (some a2)) :: zs).toArray) :
    Calls Tryz.prog 157 #[.iface 207 (.pointer (some ⟨r, 0, none⟩))] w fun e w' => e = .returned (.int .i64 3) ∧ w = w' := by
  obtain ⟨h0, ⟨g0, g1, g2, g3⟩, ⟨n01, n02, n03, n12, n13, n23⟩, ⟨c0, s0, r0⟩, ⟨c1, s1, r1⟩, ⟨c2, s2, r2⟩, ⟨c3, s3, r3⟩⟩ := he
  have hc : w.cell? ⟨r, 0, none⟩ = some (.iface 264 (.pointer (some a2))) := by rw [hr.cell 0]; simp
  have I1 := Lib.hid (is_other r a1 a2 c2 c1 s2 s1 w hc n12.symm r2 r1)
  have I2 := Lib.hid (is_same r a2 w hc)
  have I3 := Lib.hid (is_other r a3 a2 c2 c3 s2 s3 w hc n23 r2 r3)
  clear hr hc h0 r0 r1 r2 r3 n01 n02 n03 n12 n13 n23
  go_enter Tryz.func157, Tryz.ntmps157
  go_wp2_with fail
  refine (I1.out).mono ?_; rintro e w' ⟨rfl, rfl⟩
  go_wp2_with fail
  refine (I2.out).mono ?_; rintro e w' ⟨rfl, rfl⟩
  go_wp2_with fail
  go_ret
  exact ⟨rfl, rfl⟩
set_option maxRecDepth 20000 in
set_option maxHeartbeats 2000000 in
theorem codeOf_3 (r : Nat) (a0 a1 a2 a3 : Addr) (zs : List Value) (w : World) (he : Errs w a0 a1 a2 a3) (hr : CellsAt w r 211 (.iface 264 (.pointer (some a3)) :: zs).toArray) :
    Calls Tryz.prog 157 #[.iface 207 (.pointer (some ⟨r, 0, none⟩))] w fun e w' => e = .returned (.int .i64 4) ∧ w = w' := by
  obtain ⟨h0, ⟨g0, g1, g2, g3⟩, ⟨n01, n02, n03, n12, n13, n23⟩, ⟨c0, s0, r0⟩, ⟨c1, s1, r1⟩, ⟨c2, s2, r2⟩, ⟨c3, s3, r3⟩⟩ := he
  have hc : w.cell? ⟨r, 0, none⟩ = some (.iface 264 (.pointer (some a3))) := by rw [hr.cell 0]; simp
  have I1 := Lib.hid (is_other r a1 a3 c3 c1 s3 s1 w hc n13.symm r3 r1)
  have I2 := Lib.hid (is_other r a2 a3 c3 c2 s3 s2 w hc n23.symm r3 r2)
  have I3 := Lib.hid (is_same r a3 w hc)
  clear hr hc h0 r0 r1 r2 r3 n01 n02 n03 n12 n13 n23
  go_enter Tryz.func157, Tryz.ntmps157
  go_wp2_with fail
  refine (I1.out).mono ?_; rintro e w' ⟨rfl, rfl⟩
  go_wp2_with fail
  refine (I2.out).mono ?_; rintro e w' ⟨rfl, rfl⟩
  go_wp2_with fail
  refine (I3.out).mono ?_; rintro e w' ⟨rfl, rfl⟩
  go_wp2_with fail
  go_ret
  exact ⟨rfl, rfl⟩
set_option maxRecDepth 20000 in
set_option maxHeartbeats 8000000 in
theorem leftBy_calls (r : Nat) (a : Addr) (t0 t1 t2 t3 t4 t5 t6 : Int) (t7 : Bool) (ct cv : Int) (w : World) (hg : w.cell? ⟨4, 0, none⟩ = some hErr) (hr : CellsAt w r 211 #[.iface 264 (.pointer (some a)), .int .i64 t0, .int .i64 t1, .int .i64 t2, .int .i64 t3, .int .i64 t4, .int .i64 t5, .int .i64 t6, .bool t7, .int .i64 ct, .int .i64 cv]) :
    Calls Tryz.prog 156 #[.iface 207 (.pointer (some ⟨r, 0, none⟩))] w fun e w' => e = .returned (.tuple #[.agg (tA t0 t1 t2 t3 t4 t5 t6 t7), .agg (cA ct cv)]) ∧ Below w.heap.size w w' := by
  have hlt := hr.lt
  have K0 := Lib.hid (show Kept w [(w.heap.size + 1 + 1, 207, #[.pointer none]), (w.heap.size + 1, 112, zC), (w.heap.size, 80, zT)] _ from ((((Kept.refl w).put1 _ _ zT rfl).put1 _ _ zC (by simp)).put1 _ _ #[.pointer none] (by simp)))
  have HA := Lib.hid (fun (u : World) (hb : Below w.heap.size w u) (hp : CellsAt u (w.heap.size + 1 + 1) 207 #[.pointer none]) => as_box ⟨r, 0, none⟩ (w.heap.size + 1 + 1) (.pointer none) u ((hb.cell (cell_lt hg)).trans hg) hp)
  have HR := Lib.hid (fun (u : World) (hb : Below w.heap.size w u) => hr.below hb hlt)
  clear hg hr
  go_enter Tryz.func156, Tryz.ntmps156
  go_upto_region 2 with fail
  have k0 := K0.out
  clear K0
  generalize World.alloc (World.alloc _ _) _ = w0 at k0 ⊢
  go_wp2_with fail
  refine (HA.out _ k0.1 (k0.at_ (by simp))).mono ?_; rintro e w1 ⟨rfl, hg1, hc1⟩
  have k1 := k0.put (k := 0) rfl (by unfold Apart; simp <;> omega) hg1 hc1
  clear k0 hg1 hc1 HA
  have k1' : Kept w [(w.heap.size + 1 + 1, 207, #[.pointer (some ⟨r, 0, none⟩)]), (w.heap.size + 1, 112, zC), (w.heap.size, 80, zT)] w1 := k1
  clear k1
  have hr1 := HR.out _ k1'.1
  have c1 : ∀ i, w1.cell? ⟨r, i, none⟩ = #[.iface 264 (.pointer (some a)), .int .i64 t0, .int .i64 t1, .int .i64 t2, .int .i64 t3, .int .i64 t4, .int .i64 t5, .int .i64 t6, .bool t7, .int .i64 ct, .int .i64 cv][i]? := hr1.cell
  obtain ⟨kc0, kf0, kc1, kf1, kc2, kf2, -⟩ := k1'.rd
  go_upto_region 4 with fail
  have K4 := Lib.hid k1'
  clear k1' hr1 HR
  go_region
  all_goals
    go_wp2_with fail
    obtain ⟨w9, e9, ⟨d0, d1, d2, d3, d4, d5, d6, d7, d8, d9⟩, hb⟩ := touch_end (x0 := .int .i64 t0) (x1 := .int .i64 t1) (x2 := .int .i64 t2) (x3 := .int .i64 t3) (x4 := .int .i64 t4) (x5 := .int .i64 t5) (x6 := .int .i64 t6) (x7 := .bool t7) (y0 := .int .i64 ct) (y1 := .int .i64 cv) (K4.out.at_ (p := w.heap.size) (t := 80) (cs := zT) (by simp)) (K4.out.at_ (p := w.heap.size + 1) (t := 112) (cs := zC) (by simp)) (by omega) K4.out.1 (by omega) (by omega)
    rw [e9]
    clear e9
    exact bodyPost_ret (v := (.tuple #[.agg (tA t0 t1 t2 t3 t4 t5 t6 t7), .agg (cA ct cv)])) (by simp [results, Tryz.results156, go_sem, d0, d1, d2, d3, d4, d5, d6, d7, d8, d9]) rfl ⟨rfl, hb.drew⟩
open Go.ChangeShapes Go.WideShapes Go.RowKit
def Laid5 : List (String × DataW Unit) := [("errors.errorType", Rows.laid_errors_errorType), ("loop.example/g00775/impl.errBad", Rows.laid_loop_example_g00775_impl_errBad), ("loop.example/g00775/impl.errFailed", Rows.laid_loop_example_g00775_impl_errFailed), ("loop.example/g00775/impl.errSpent", Rows.laid_loop_example_g00775_impl_errSpent), ("loop.example/g00775/impl.errCaught", Rows.laid_loop_example_g00775_impl_errCaught)]
theorem xStar : "*" ++ "errors.errorString" = "*errors.errorString" := by decide
theorem xRowES (u : TypeId) (h : Tryz.prog.typeName? 3 u = some "*errors.errorString") : u = 264 :=
  typeName_ptr_named (nm := "errors.errorString") (by rw [xStar]; kernel_rfl) (by kernel_rfl) (by decide) u (by rw [xStar]; exact h)
theorem xCellsE : Tryz.prog.cellsOf 286 = 1 := by kernel_rfl
theorem xCellsS : Tryz.prog.cellsOf 9 = 1 := by kernel_rfl
theorem xG0 : Tryz.prog.globalNamed "loop.example/g00775/impl.errBad" = some 0 := by kernel_rfl
theorem xT0 : (Tryz.prog.globals[0]?).map (·.type) = some 115 := by kernel_rfl
theorem xG1 : Tryz.prog.globalNamed "loop.example/g00775/impl.errFailed" = some 1 := by kernel_rfl
theorem xT1 : (Tryz.prog.globals[1]?).map (·.type) = some 115 := by kernel_rfl
theorem xG2 : Tryz.prog.globalNamed "loop.example/g00775/impl.errSpent" = some 2 := by kernel_rfl
theorem xT2 : (Tryz.prog.globals[2]?).map (·.type) = some 115 := by kernel_rfl
theorem xG3 : Tryz.prog.globalNamed "loop.example/g00775/impl.errCaught" = some 3 := by kernel_rfl
theorem xT3 : (Tryz.prog.globals[3]?).map (·.type) = some 115 := by kernel_rfl
theorem xGE : Tryz.prog.globalNamed "errors.errorType" = some 4 := by kernel_rfl
theorem xRtype : (Tryz.prog.cutTypes.find? (·.1 == "internal/reflectlite.rtype")).map (·.2) = some 242 := by kernel_rfl
theorem xOneRow : ((List.range Tryz.prog.types.size).filter fun t => Tryz.prog.rowNamed t [101, 114, 114, 111, 114]) = [115] := by kernel_rfl
theorem xHandle : typeHandle Tryz.prog 115 = .pointer (some ⟨5, 115, none⟩) := by kernel_rfl
set_option maxRecDepth 100000 in
theorem sentinel_one {W : World} {n : String} {g : Nat} {text : List UInt8} {r : List (String × DataW Unit)} {ps : List MemPlace} (hg : Tryz.prog.globalNamed n = some g) (ht : (Tryz.prog.globals[g]?).map (·.type) = some 115)
    (h : DataW.LaidVars Tryz.prog W ((n, .iface "*errors.errorString" (.ptr (.agg [.lit (.string text)]))) :: r) ps)
    (hrows : ∀ b off, MemPlace.cell b off ∈ ps → (∃ c t, W.heap[b]? = some (.cells c t (0, 0))) ∧ ∀ u v, W.cell? ⟨b, off, none⟩ = some (.iface u v) → Value.okWide Tryz.prog W .any 0 u v) :
    ∃ a q n0, W.cell? ⟨g, 0, none⟩ = some (.iface 264 (.pointer (some a))) ∧ ps = n0 ++ MemPlace.row a 1 ++ q ∧ (∃ c t, W.heap[a.block]? = some (.cells c t (0, 0))) ∧ DataW.LaidVars Tryz.prog W r q := by
  obtain ⟨g', t', cs, f, p, q, hg', ht', hv, hd, hr, rfl⟩ := h
  obtain rfl := Option.some.inj (hg.symm.trans hg')
  obtain rfl := Option.some.inj (ht.symm.trans ht')
  obtain ⟨l0⟩ := cs
  have ok0 : ∀ u v, l0 = [.iface u v] → Value.okWide Tryz.prog W .any 0 u v := fun u v e => by
    subst e
    exact (hrows g 0 (by simp [MemPlace.row])).2 u v (by simpa using World.var?_cell hg' hv 0)
  obtain ⟨a0, s0, rfl, hc0, hs0, hz0, rfl⟩ := errorString_of_trod Tryz.underlying115 xRowES Tryz.underlying264 Tryz.underlying286 rfl rfl Tryz.underlying9 xCellsE xCellsS hd ok0
  exact ⟨a0, q, _, by simpa using World.var?_cell hg' hv 0, rfl, (hrows a0.block a0.off (by simp [MemPlace.row])).1, hr⟩
set_option maxRecDepth 100000 in
theorem errs_of_laid {W : World} (h : laidMetH Tryz.prog Laid5 W) : ∃ a0 a1 a2 a3, Errs W a0 a1 a2 a3 := by
  have h' : laidMet Tryz.prog [("loop.example/g00775/impl.errBad", Rows.laid_loop_example_g00775_impl_errBad), ("loop.example/g00775/impl.errFailed", Rows.laid_loop_example_g00775_impl_errFailed), ("loop.example/g00775/impl.errSpent", Rows.laid_loop_example_g00775_impl_errSpent), ("loop.example/g00775/impl.errCaught", Rows.laid_loop_example_g00775_impl_errCaught)] W ∧ handlesMet Tryz.prog [("errors.errorType", Rows.laid_errors_errorType)] W := h
  obtain ⟨⟨ps, hv, hnd, hrows⟩, hh⟩ := h'
  obtain ⟨a0, q0, n0, c0, rfl, r0, v0⟩ := sentinel_one xG0 xT0 hv hrows
  obtain ⟨a1, q1, n1, c1, rfl, r1, v1⟩ := sentinel_one xG1 xT1 v0 (fun b off hm => hrows b off (List.mem_append_right _ hm))
  obtain ⟨a2, q2, n2, c2, rfl, r2, v2⟩ := sentinel_one xG2 xT2 v1 (fun b off hm => hrows b off (List.mem_append_right _ (List.mem_append_right _ hm)))
  obtain ⟨a3, q3, n3, c3, rfl, r3, v3⟩ := sentinel_one xG3 xT3 v2 (fun b off hm => hrows b off (List.mem_append_right _ (List.mem_append_right _ (List.mem_append_right _ hm))))
  obtain ⟨name, u, ty, e1, e2, e3, e4, e5⟩ := hh _ (List.mem_singleton.2 rfl)
  have en : name = [101, 114, 114, 111, 114] := (Option.some.inj e1).symm
  subst en
  obtain rfl := Option.some.inj (xRtype.symm.trans e2)
  have hm : ty ∈ (List.range Tryz.prog.types.size).filter fun t => Tryz.prog.rowNamed t [101, 114, 114, 111, 114] := List.mem_filter.2 ⟨List.mem_range.2 e3, e4⟩
  rw [xOneRow] at hm
  obtain rfl := List.mem_singleton.1 hm
  rw [xHandle] at e5
  have l : ∀ (a : Addr), MemPlace.row a 1 = [MemPlace.cell a.block a.off] := fun a => by simp [MemPlace.row]
  simp only [l, List.append_assoc, List.singleton_append] at hnd
  have k0 := (List.nodup_append.1 hnd).2.1
  have m0 := (List.nodup_cons.1 k0).1
  have k1 := (List.nodup_append.1 (List.nodup_cons.1 k0).2).2.1
  have m1 := (List.nodup_cons.1 k1).1
  have k2 := (List.nodup_append.1 (List.nodup_cons.1 k1).2).2.1
  have m2 := (List.nodup_cons.1 k2).1
  refine ⟨a0, a1, a2, a3, by simpa using World.var?_cell xGE e5 0, ⟨c0, c1, c2, c3⟩, ⟨fun e => m0 ?_, fun e => m0 ?_, fun e => m0 ?_, fun e => m1 ?_, fun e => m1 ?_, fun e => m2 ?_⟩, r0, r1, r2, r3⟩
  all_goals (subst e; simp)
theorem trodVars_four {H : Type} {enc : TypeId × Value → H} {P : Program} {W : World} {sp : Nat → Bool} {n0 n1 n2 n3 : String} {gs : List (DataW H)} {ps : List MemPlace} (h : DataW.TrodVars enc P W sp [n0, n1, n2, n3] gs ps) : ∃ d0 d1 d2 d3, gs = [d0, d1, d2, d3] := by
  match gs, h with
  | [], h => exact h.elim
  | [_], h => obtain ⟨_, _, _, _, _, _, _, _, _, _, h, _⟩ := h; exact h.elim
  | [_, _], h => obtain ⟨_, _, _, _, _, _, _, _, _, _, h, _⟩ := h; obtain ⟨_, _, _, _, _, _, _, _, _, _, h, _⟩ := h; exact h.elim
  | [_, _, _], h => obtain ⟨_, _, _, _, _, _, _, _, _, _, h, _⟩ := h; obtain ⟨_, _, _, _, _, _, _, _, _, _, h, _⟩ := h; obtain ⟨_, _, _, _, _, _, _, _, _, _, h, _⟩ := h; exact h.elim
  | [a, b, c, d], _ => exact ⟨a, b, c, d, rfl⟩
  | _ :: _ :: _ :: _ :: _ :: _, h => obtain ⟨_, _, _, _, _, _, _, _, _, _, h, _⟩ := h; obtain ⟨_, _, _, _, _, _, _, _, _, _, h, _⟩ := h; obtain ⟨_, _, _, _, _, _, _, _, _, _, h, _⟩ := h; obtain ⟨_, _, _, _, _, _, _, _, _, _, h, _⟩ := h; exact h.elim
theorem door_met (os : Os) (args : Array Value) : laidMetH Tryz.prog Laid5 ((World.doorLaid Tryz.prog 400 os).forCall (fun _ _ => 0) ⟨#[], args, []⟩).memory :=
  laidMetH_of_parts3 (fuel := 8) (laidMet_of_run' 8 (by kernel_rfl) (by kernel_rfl)) (by kernel_rfl) (by kernel_rfl)
theorem isSealCount_calls (n : Int) (w : World) (hn : I64 n) :
    Calls Tryz.prog 65 #[.int .i64 n] w fun e w' => e = .returned (.bool (decide (0 ≤ n ∧ n ≤ 10000))) ∧ w = w' := by
  obtain ⟨m0, m1⟩ := hn
  by_cases h0 : 0 ≤ n
  · by_cases h1 : n ≤ 10000
    · rw [decide_eq_true ⟨h0, h1⟩]
      go_enter Tryz.func65, Tryz.ntmps65
      go_wp2
      go_ret
      exact ⟨rfl, rfl⟩
    · rw [decide_eq_false (fun h => h1 h.2)]
      have h2 : 10000 < n := by omega
      go_enter Tryz.func65, Tryz.ntmps65
      go_wp2
      go_ret
      exact ⟨rfl, rfl⟩
  · rw [decide_eq_false (fun h => h0 h.1)]
    have h2 : n < 0 := by omega
    go_enter Tryz.func65, Tryz.ntmps65
    go_wp2
    go_ret
    exact ⟨rfl, rfl⟩
set_option maxRecDepth 20000 in
set_option maxHeartbeats 4000000 in
theorem implTrusts_calls (key : Int) (A C : Option Addr) (l : List Int) (cap : Nat) (hcap : l.length ≤ cap) (L : List Tru) (cap2 : Nat) (w : World) (hn : l.length ≤ 1048576) (hA : Ints w .i64 w.heap.size A l) (hN : L.length ≤ maxLen) (hC : Trs w w.heap.size C L) :
    Calls Tryz.prog 62 #[.agg #[.int .i64 key, .slice A l.length cap], .slice C L.length cap2] w fun e w' => e = .returned (.bool (trustsB key l L)) ∧ Below w.heap.size w w' := by
  have K0 := Lib.hid (show Kept w [(w.heap.size, 26, #[.int .i64 key, .slice A l.length cap])] _ from (Kept.refl w).put1 _ _ #[.int .i64 key, .slice A l.length cap] rfl)
  have hm2 : l.length ≤ maxLen := by unfold maxLen; omega
  have PO := Lib.hid (fun (u : World) (hb : Below w.heap.size w u) => planOk_calls key A l cap u hm2 hcap ((hA.below hb (Nat.le_refl _)).more hb.size))
  have TO := Lib.hid (fun (t : Tru) (x : Int) (u : World) (hb : Below w.heap.size w u) => implTrustOk_calls key x A l cap t.clock t.epoch t.cursor t.read t.written t.nread t.nwritten t.failed u hn hcap ((hA.below hb (Nat.le_refl _)).more hb.size))
  have HC := Lib.hid hC
  have hm := hN
  unfold maxLen at hm hm2
  clear hA hC hN hcap
  by_cases hp : planOk key l
  · rw [okB_yes hp] at PO
    by_cases hln : L.length = l.length
    · have hbl : ((L.length : Int) == (l.length : Int)) = true := beq_iff_eq.2 (by omega)
      have hbn : ((L.length : Int) != (l.length : Int)) = false := by rw [bne, hbl]; rfl
      have HP := Lib.hid hp
      have HL := Lib.hid hln
      clear hp hln
      go_enter Tryz.func62, Tryz.ntmps62
      go_wp2_with fail
      refine (PO.out _ K0.out.1).mono ?_; rintro e w1 ⟨rfl, b1⟩
      have h1 := K0.out.below b1
      clear b1 K0
      obtain ⟨kc0, kf0, -⟩ := h1.rd
      have H1 := Lib.hid h1
      clear h1
      go_wp2_with fail
      clear kc0 kf0
      go_loopw [20] (fun i wr => ∃ k : Nat, k ≤ L.length ∧ i = .int .i64 k ∧ UpToOk key l L k ∧ Kept w [(w.heap.size, 26, #[.int .i64 key, .slice A l.length cap])] wr) (fun i _ => L.length - (intOf i).toNat)
      case atStart => exact ⟨0, Nat.zero_le _, rfl, fun i hi => absurd hi (by omega), H1.out⟩
      case round =>
        obtain ⟨k, hk, rfl, hup, hz⟩ := hrel
        have HU := Lib.hid hup
        clear hup
        by_cases hlt : k < L.length
        · obtain ⟨b, off, rfl, hb, hc⟩ := HC.out.at_ hlt
          have hlt' : (k : Int) < L.length := by omega
          have hk0 : (0 : Int) ≤ k := by omega
          have TB := Lib.hid (TO.out (L.getD k default) k)
          obtain ⟨c0, c1, c2, c3, c4, c5, c6, c7⟩ := hc.below hz.1 hb
          by_cases hok : trustOk key l k (L.getD k default)
          · have NX := Lib.hid (show UpToOk key l L (k + 1) from fun i hi => by
              rcases Nat.lt_or_ge i k with h | h
              · exact HU.out i h
              · obtain rfl : i = k := by omega
                exact hok)
            rw [show (⟨(L.getD k default).clock, (L.getD k default).epoch, (L.getD k default).cursor, (L.getD k default).read, (L.getD k default).written, (L.getD k default).nread, (L.getD k default).nwritten, (L.getD k default).failed⟩ : Tru) = L.getD k default from rfl, trustB_yes hok] at TB
            clear hok HU hc
            generalize L.getD k default = t at c0 c1 c2 c3 c4 c5 c6 c7 TB
            go_upto_region 6 with fail
            have hz2 := hz.put1 wr.heap.size 80 #[.int .i64 t.clock, .int .i64 t.epoch, .int .i64 t.cursor, .int .i64 t.read, .int .i64 t.written, .int .i64 t.nread, .int .i64 t.nwritten, .bool t.failed] rfl
            obtain ⟨kc0, kf0, kc1, kf1, -⟩ := hz2.rd
            have HZ := Lib.hid hz2
            clear hz hz2 c0 c1 c2 c3 c4 c5 c6 c7
            go_wp2_with fail
            refine (TB.out _ HZ.out.1).mono ?_; rintro e w2 ⟨rfl, b2⟩
            have hz3 := (HZ.out.below b2).sub (L' := [(w.heap.size, 26, #[.int .i64 key, .slice A l.length cap])]) (by intro y hy; simp at hy ⊢; right; exact hy)
            clear b2 kc0 kf0 kc1 kf1 HZ
            go_wp2_with fail
            go_roundw
            case rel => exact ⟨k + 1, by omega, by go_num, NX.out, hz3⟩
            case measure => simp [intOf]; omega
          · rw [show (⟨(L.getD k default).clock, (L.getD k default).epoch, (L.getD k default).cursor, (L.getD k default).read, (L.getD k default).written, (L.getD k default).nread, (L.getD k default).nwritten, (L.getD k default).failed⟩ : Tru) = L.getD k default from rfl, trustB_no hok] at TB
            have HX := Lib.hid (trustsB_no (l := l) (L := L) (key := key) (fun h => hok (h.2.2 k hlt)))
            clear hok HU hc
            generalize L.getD k default = t at c0 c1 c2 c3 c4 c5 c6 c7 TB
            go_upto_region 6 with fail
            have hz2 := hz.put1 wr.heap.size 80 #[.int .i64 t.clock, .int .i64 t.epoch, .int .i64 t.cursor, .int .i64 t.read, .int .i64 t.written, .int .i64 t.nread, .int .i64 t.nwritten, .bool t.failed] rfl
            obtain ⟨kc0, kf0, kc1, kf1, -⟩ := hz2.rd
            have HZ := Lib.hid hz2
            clear hz hz2 c0 c1 c2 c3 c4 c5 c6 c7
            go_wp2_with fail
            refine (TB.out _ HZ.out.1).mono ?_; rintro e w2 ⟨rfl, b2⟩
            have hz3 := HZ.out.below b2
            clear b2 kc0 kf0 kc1 kf1 HZ
            go_wp2_with fail
            go_ret
            exact ⟨by rw [HX.out]; rfl, hz3.1⟩
        · have hk' : k = L.length := by omega
          subst hk'
          have HX := Lib.hid (trustsB_yes (show trustsOk key l L from ⟨HP.out, HL.out, HU.out⟩))
          go_wp2_with fail
          go_ret
          exact ⟨by rw [HX.out]; rfl, hz.1⟩
    · have hbl : ((L.length : Int) == (l.length : Int)) = false := beq_false_of_ne (by omega)
      have hbn : ((L.length : Int) != (l.length : Int)) = true := by rw [bne, hbl]; rfl
      have HX := Lib.hid (trustsB_no (show ¬ trustsOk key l L from fun h => hln h.2.1))
      clear hp hln
      go_enter Tryz.func62, Tryz.ntmps62
      go_wp2_with fail
      refine (PO.out _ K0.out.1).mono ?_; rintro e w1 ⟨rfl, b1⟩
      have h1 := K0.out.below b1
      clear b1 K0
      obtain ⟨kc0, kf0, -⟩ := h1.rd
      have H1 := Lib.hid h1
      clear h1
      go_wp2_with fail
      go_ret
      exact ⟨by rw [HX.out]; rfl, H1.out.1⟩
  · rw [okB_no hp] at PO
    have HX := Lib.hid (trustsB_no (show ¬ trustsOk key l L from fun h => hp h.1))
    clear hp
    go_enter Tryz.func62, Tryz.ntmps62
    go_wp2_with fail
    refine (PO.out _ K0.out.1).mono ?_; rintro e w1 ⟨rfl, b1⟩
    have h1 := K0.out.below b1
    clear b1 K0
    have H1 := Lib.hid h1
    clear h1
    go_wp2_with fail
    go_ret
    exact ⟨by rw [HX.out]; rfl, H1.out.1⟩
end Go.Proofs.YtgaecedhkbneaaaGreatDoor.Mx

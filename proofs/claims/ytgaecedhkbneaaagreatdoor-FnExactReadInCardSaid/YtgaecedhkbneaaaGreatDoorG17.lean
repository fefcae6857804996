import Derived.Test.YtgaecedhkbneaaaGreatDoorG14
import Derived.Test.YtgaecedhkbneaaaGreatDoorG04
import Derived.StillTail
import Derived.Test.YtgaecedhkbneaaaGreatDoorG15
import Derived.Test.YtgaecedhkbneaaaGreatDoorG16
import Derived.Test.YtgaecedhkbneaaaGreatDoorG13
namespace Go.Proofs.YtgaecedhkbneaaaGreatDoor.Mx
open Go.ChangeShapes Go.WideShapes Go.ChangeAt Go.RowKit
set_option linter.unusedVariables false
set_option maxRecDepth 20000 in
set_option maxHeartbeats 4000000 in
theorem specTouched_caught (key x ct cv value : Int) (A : Option Addr) (l : List Int) (cap : Nat) (t0 t1 t2 t3 t4 t5 t6 : Int) (w : World) (hn : l.length ≤ maxLen) (hcap : l.length ≤ cap) (hA : Ints w .i64 w.heap.size A l) (hr : 0 ≤ regionOf key l x) (ht : trustOk key l (regionOf key l x) ⟨t0, t1, t2, t3, t4, t5, t6, false⟩ ) (hc : isCell ct cv) (hv : ValOk value) (hcl : ¬ 100000 ≤ t0) (hct : t0 < ct) :
    Calls Tryz.prog 101 #[.agg (pA key A l.length cap), .agg (tA t0 t1 t2 t3 t4 t5 t6 false), .int .i64 x, .agg (cA ct cv), .int .i64 value] w fun e w' => e = .returned (.tuple #[.agg (tA t0 t1 t2 t3 t4 t5 t6 true), .agg (cA ct cv), .int .i64 0, .int .i64 4]) ∧ Below w.heap.size w w' := by
  have k0 := (((((Kept.refl w).new 26 (pA key A l.length cap)).new 80 (tA t0 t1 t2 t3 t4 t5 t6 false)).new 112 (cA ct cv)).new 80 zT).new 112 zC
  rw [show ((((w.alloc (.cells (pA key A l.length cap) 26)).alloc (.cells (tA t0 t1 t2 t3 t4 t5 t6 false) 80)).alloc (.cells (cA ct cv) 112)).alloc (.cells zT 80)).heap.size = w.heap.size + 1 + 1 + 1 + 1 by simp, show (((w.alloc (.cells (pA key A l.length cap) 26)).alloc (.cells (tA t0 t1 t2 t3 t4 t5 t6 false) 80)).alloc (.cells (cA ct cv) 112)).heap.size = w.heap.size + 1 + 1 + 1 by simp, show ((w.alloc (.cells (pA key A l.length cap) 26)).alloc (.cells (tA t0 t1 t2 t3 t4 t5 t6 false) 80)).heap.size = w.heap.size + 1 + 1 by simp, show (w.alloc (.cells (pA key A l.length cap) 26)).heap.size = w.heap.size + 1 by simp] at k0
  have R := Lib.hid (fun (u : World) (hb : Below w.heap.size w u) => specRegion_calls key x A l cap u hn hcap ((hA.below hb (Nat.le_refl _)).more hb.size))
  have TO := Lib.hid (fun (r : Int) (u : World) (h : Kept w [(w.heap.size + 1 + 1 + 1 + 1, 112, zC), (w.heap.size + 1 + 1 + 1, 80, zT), (w.heap.size + 1 + 1, 112, (cA ct cv)), (w.heap.size + 1, 80, (tA t0 t1 t2 t3 t4 t5 t6 false)), (w.heap.size, 26, (pA key A l.length cap))] u) => (specTrustOk_calls key r A l cap t0 t1 t2 t3 t4 t5 t6 false u hn ((hA.below h.1 (Nat.le_refl _)).more h.1.size)).mono (fun e w' ⟨he, hb⟩ => (⟨he, h.below hb⟩ : _ ∧ Kept w [(w.heap.size + 1 + 1 + 1 + 1, 112, zC), (w.heap.size + 1 + 1 + 1, 80, zT), (w.heap.size + 1 + 1, 112, (cA ct cv)), (w.heap.size + 1, 80, (tA t0 t1 t2 t3 t4 t5 t6 false)), (w.heap.size, 26, (pA key A l.length cap))] w')))
  have CO := Lib.hid (fun (u : World) (h : Kept w [(w.heap.size + 1 + 1 + 1 + 1, 112, zC), (w.heap.size + 1 + 1 + 1, 80, zT), (w.heap.size + 1 + 1, 112, (cA ct cv)), (w.heap.size + 1, 80, (tA t0 t1 t2 t3 t4 t5 t6 false)), (w.heap.size, 26, (pA key A l.length cap))] u) => (specCellOk_calls ct cv u).mono (fun e w' ⟨he, hb⟩ => (⟨he, h.below hb⟩ : _ ∧ Kept w [(w.heap.size + 1 + 1 + 1 + 1, 112, zC), (w.heap.size + 1 + 1 + 1, 80, zT), (w.heap.size + 1 + 1, 112, (cA ct cv)), (w.heap.size + 1, 80, (tA t0 t1 t2 t3 t4 t5 t6 false)), (w.heap.size, 26, (pA key A l.length cap))] w')))
  have K0 := Lib.hid k0
  clear k0
  clear hA
  have hd : decide (regionOf key l x < 0) = false := decide_eq_false (by omega)
  have PT := Lib.hid (TO.out (regionOf key l x))
  rw [trustB_yes ht] at PT
  have PC := CO
  rw [decide_eq_true hc] at PC
  have htm := ht.2.2.1
  generalize regionOf key l x = r at R hd PT
  clear hr ht hc TO CO
  unfold isTm at htm
  by_cases hv3 : value = -1
  · subst hv3
    clear hv
    go_enter Tryz.func101, Tryz.ntmps101
    go_wp2_with fail
    refine (R.out _ K0.out.1).mono ?_; rintro e wz ⟨rfl, b1⟩
    have hz := K0.out.below b1
    clear b1 R K0
    have p0 : wz.cell? ⟨w.heap.size, 0, none⟩ = some (.int .i64 key) := hz.cell (p := w.heap.size) (t := 26) (cs := (pA key A l.length cap)) (by simp) 0
    have p1 : wz.cell? ⟨w.heap.size, 1, none⟩ = some (.slice A l.length cap) := hz.cell (p := w.heap.size) (t := 26) (cs := (pA key A l.length cap)) (by simp) 1
    have q0 : wz.cell? ⟨w.heap.size + 1, 0, none⟩ = some (.int .i64 t0) := hz.cell (p := w.heap.size + 1) (t := 80) (cs := (tA t0 t1 t2 t3 t4 t5 t6 false)) (by simp) 0
    have q1 : wz.cell? ⟨w.heap.size + 1, 1, none⟩ = some (.int .i64 t1) := hz.cell (p := w.heap.size + 1) (t := 80) (cs := (tA t0 t1 t2 t3 t4 t5 t6 false)) (by simp) 1
    have q2 : wz.cell? ⟨w.heap.size + 1, 2, none⟩ = some (.int .i64 t2) := hz.cell (p := w.heap.size + 1) (t := 80) (cs := (tA t0 t1 t2 t3 t4 t5 t6 false)) (by simp) 2
    have q3 : wz.cell? ⟨w.heap.size + 1, 3, none⟩ = some (.int .i64 t3) := hz.cell (p := w.heap.size + 1) (t := 80) (cs := (tA t0 t1 t2 t3 t4 t5 t6 false)) (by simp) 3
    have q4 : wz.cell? ⟨w.heap.size + 1, 4, none⟩ = some (.int .i64 t4) := hz.cell (p := w.heap.size + 1) (t := 80) (cs := (tA t0 t1 t2 t3 t4 t5 t6 false)) (by simp) 4
    have q5 : wz.cell? ⟨w.heap.size + 1, 5, none⟩ = some (.int .i64 t5) := hz.cell (p := w.heap.size + 1) (t := 80) (cs := (tA t0 t1 t2 t3 t4 t5 t6 false)) (by simp) 5
    have q6 : wz.cell? ⟨w.heap.size + 1, 6, none⟩ = some (.int .i64 t6) := hz.cell (p := w.heap.size + 1) (t := 80) (cs := (tA t0 t1 t2 t3 t4 t5 t6 false)) (by simp) 6
    have q7 : wz.cell? ⟨w.heap.size + 1, 7, none⟩ = some (.bool false) := hz.cell (p := w.heap.size + 1) (t := 80) (cs := (tA t0 t1 t2 t3 t4 t5 t6 false)) (by simp) 7
    go_wp2_with fail
    refine (PT.out _ hz).mono ?_; rintro e wy ⟨rfl, hy⟩
    clear hz p0 p1 q0 q1 q2 q3 q4 q5 q6 q7 PT
    have s0 : wy.cell? ⟨w.heap.size + 1 + 1, 0, none⟩ = some (.int .i64 ct) := hy.cell (p := w.heap.size + 1 + 1) (t := 112) (cs := (cA ct cv)) (by simp) 0
    have s1 : wy.cell? ⟨w.heap.size + 1 + 1, 1, none⟩ = some (.int .i64 cv) := hy.cell (p := w.heap.size + 1 + 1) (t := 112) (cs := (cA ct cv)) (by simp) 1
    go_wp2_with fail
    refine (PC.out _ hy).mono ?_; rintro e wx ⟨rfl, hx⟩
    clear hy s0 s1 PC
    have q0 : wx.cell? ⟨w.heap.size + 1, 0, none⟩ = some (.int .i64 t0) := hx.cell (p := w.heap.size + 1) (t := 80) (cs := (tA t0 t1 t2 t3 t4 t5 t6 false)) (by simp) 0
    have q1 : wx.cell? ⟨w.heap.size + 1, 1, none⟩ = some (.int .i64 t1) := hx.cell (p := w.heap.size + 1) (t := 80) (cs := (tA t0 t1 t2 t3 t4 t5 t6 false)) (by simp) 1
    have q2 : wx.cell? ⟨w.heap.size + 1, 2, none⟩ = some (.int .i64 t2) := hx.cell (p := w.heap.size + 1) (t := 80) (cs := (tA t0 t1 t2 t3 t4 t5 t6 false)) (by simp) 2
    have q3 : wx.cell? ⟨w.heap.size + 1, 3, none⟩ = some (.int .i64 t3) := hx.cell (p := w.heap.size + 1) (t := 80) (cs := (tA t0 t1 t2 t3 t4 t5 t6 false)) (by simp) 3
    have q4 : wx.cell? ⟨w.heap.size + 1, 4, none⟩ = some (.int .i64 t4) := hx.cell (p := w.heap.size + 1) (t := 80) (cs := (tA t0 t1 t2 t3 t4 t5 t6 false)) (by simp) 4
    have q5 : wx.cell? ⟨w.heap.size + 1, 5, none⟩ = some (.int .i64 t5) := hx.cell (p := w.heap.size + 1) (t := 80) (cs := (tA t0 t1 t2 t3 t4 t5 t6 false)) (by simp) 5
    have q6 : wx.cell? ⟨w.heap.size + 1, 6, none⟩ = some (.int .i64 t6) := hx.cell (p := w.heap.size + 1) (t := 80) (cs := (tA t0 t1 t2 t3 t4 t5 t6 false)) (by simp) 6
    have q7 : wx.cell? ⟨w.heap.size + 1, 7, none⟩ = some (.bool false) := hx.cell (p := w.heap.size + 1) (t := 80) (cs := (tA t0 t1 t2 t3 t4 t5 t6 false)) (by simp) 7
    have s0 : wx.cell? ⟨w.heap.size + 1 + 1, 0, none⟩ = some (.int .i64 ct) := hx.cell (p := w.heap.size + 1 + 1) (t := 112) (cs := (cA ct cv)) (by simp) 0
    have s1 : wx.cell? ⟨w.heap.size + 1 + 1, 1, none⟩ = some (.int .i64 cv) := hx.cell (p := w.heap.size + 1 + 1) (t := 112) (cs := (cA ct cv)) (by simp) 1
    have fq7 := hx.frozen (p := w.heap.size + 1) (t := 80) (cs := (tA t0 t1 t2 t3 t4 t5 t6 false)) (by simp) 7
    have ks := (hx.sub (L' := [(w.heap.size + 1, 80, (tA t0 t1 t2 t3 t4 t5 t6 false)), (w.heap.size + 1 + 1 + 1 + 1, 112, zC), (w.heap.size + 1 + 1 + 1, 80, zT), (w.heap.size + 1 + 1, 112, (cA ct cv)), (w.heap.size, 26, (pA key A l.length cap))]) (by intro y hy; simp at hy ⊢; rcases hy with rfl | rfl | rfl | rfl | rfl <;> simp)).set (by intro y hy; simp at hy; rcases hy with rfl | rfl | rfl | rfl <;> simp <;> omega) 7 (.bool true)
    simp only [List.setIfInBounds_toArray, List.set_cons_zero, List.set_cons_succ] at ks
    have kq : Kept w [(w.heap.size + 1 + 1 + 1 + 1, 112, zC), (w.heap.size + 1 + 1 + 1, 80, zT), (w.heap.size + 1 + 1, 112, (cA ct cv)), (w.heap.size + 1, 80, (tA t0 t1 t2 t3 t4 t5 t6 true)), (w.heap.size, 26, (pA key A l.length cap))] _ := ks.sub (by intro y hy; simp at hy ⊢; rcases hy with rfl | rfl | rfl | rfl | rfl <;> simp)
    clear hx ks
    go_upto_region 10 with fail
    clear q0 q1 q2 q3 q4 q5 q6 q7 s0 s1 fq7
    generalize World.setCell _ _ _ = wq at kq ⊢
    have q0 : wq.cell? ⟨w.heap.size + 1, 0, none⟩ = some (.int .i64 t0) := kq.cell (p := w.heap.size + 1) (t := 80) (cs := (tA t0 t1 t2 t3 t4 t5 t6 true)) (by simp) 0
    have q1 : wq.cell? ⟨w.heap.size + 1, 1, none⟩ = some (.int .i64 t1) := kq.cell (p := w.heap.size + 1) (t := 80) (cs := (tA t0 t1 t2 t3 t4 t5 t6 true)) (by simp) 1
    have q2 : wq.cell? ⟨w.heap.size + 1, 2, none⟩ = some (.int .i64 t2) := kq.cell (p := w.heap.size + 1) (t := 80) (cs := (tA t0 t1 t2 t3 t4 t5 t6 true)) (by simp) 2
    have q3 : wq.cell? ⟨w.heap.size + 1, 3, none⟩ = some (.int .i64 t3) := kq.cell (p := w.heap.size + 1) (t := 80) (cs := (tA t0 t1 t2 t3 t4 t5 t6 true)) (by simp) 3
    have q4 : wq.cell? ⟨w.heap.size + 1, 4, none⟩ = some (.int .i64 t4) := kq.cell (p := w.heap.size + 1) (t := 80) (cs := (tA t0 t1 t2 t3 t4 t5 t6 true)) (by simp) 4
    have q5 : wq.cell? ⟨w.heap.size + 1, 5, none⟩ = some (.int .i64 t5) := kq.cell (p := w.heap.size + 1) (t := 80) (cs := (tA t0 t1 t2 t3 t4 t5 t6 true)) (by simp) 5
    have q6 : wq.cell? ⟨w.heap.size + 1, 6, none⟩ = some (.int .i64 t6) := kq.cell (p := w.heap.size + 1) (t := 80) (cs := (tA t0 t1 t2 t3 t4 t5 t6 true)) (by simp) 6
    have q7 : wq.cell? ⟨w.heap.size + 1, 7, none⟩ = some (.bool true) := kq.cell (p := w.heap.size + 1) (t := 80) (cs := (tA t0 t1 t2 t3 t4 t5 t6 true)) (by simp) 7
    have s0 : wq.cell? ⟨w.heap.size + 1 + 1, 0, none⟩ = some (.int .i64 ct) := kq.cell (p := w.heap.size + 1 + 1) (t := 112) (cs := (cA ct cv)) (by simp) 0
    have s1 : wq.cell? ⟨w.heap.size + 1 + 1, 1, none⟩ = some (.int .i64 cv) := kq.cell (p := w.heap.size + 1 + 1) (t := 112) (cs := (cA ct cv)) (by simp) 1
    have r0 : wq.cell? ⟨w.heap.size + 1 + 1 + 1, 0, none⟩ = some (.int .i64 0) := kq.cell (p := w.heap.size + 1 + 1 + 1) (t := 80) (cs := zT) (by simp) 0
    have r1 : wq.cell? ⟨w.heap.size + 1 + 1 + 1, 1, none⟩ = some (.int .i64 0) := kq.cell (p := w.heap.size + 1 + 1 + 1) (t := 80) (cs := zT) (by simp) 1
    have r2 : wq.cell? ⟨w.heap.size + 1 + 1 + 1, 2, none⟩ = some (.int .i64 0) := kq.cell (p := w.heap.size + 1 + 1 + 1) (t := 80) (cs := zT) (by simp) 2
    have r3 : wq.cell? ⟨w.heap.size + 1 + 1 + 1, 3, none⟩ = some (.int .i64 0) := kq.cell (p := w.heap.size + 1 + 1 + 1) (t := 80) (cs := zT) (by simp) 3
    have r4 : wq.cell? ⟨w.heap.size + 1 + 1 + 1, 4, none⟩ = some (.int .i64 0) := kq.cell (p := w.heap.size + 1 + 1 + 1) (t := 80) (cs := zT) (by simp) 4
    have r5 : wq.cell? ⟨w.heap.size + 1 + 1 + 1, 5, none⟩ = some (.int .i64 0) := kq.cell (p := w.heap.size + 1 + 1 + 1) (t := 80) (cs := zT) (by simp) 5
    have r6 : wq.cell? ⟨w.heap.size + 1 + 1 + 1, 6, none⟩ = some (.int .i64 0) := kq.cell (p := w.heap.size + 1 + 1 + 1) (t := 80) (cs := zT) (by simp) 6
    have r7 : wq.cell? ⟨w.heap.size + 1 + 1 + 1, 7, none⟩ = some (.bool false) := kq.cell (p := w.heap.size + 1 + 1 + 1) (t := 80) (cs := zT) (by simp) 7
    have fr0 := kq.frozen (p := w.heap.size + 1 + 1 + 1) (t := 80) (cs := zT) (by simp) 0
    have fr1 := kq.frozen (p := w.heap.size + 1 + 1 + 1) (t := 80) (cs := zT) (by simp) 1
    have fr2 := kq.frozen (p := w.heap.size + 1 + 1 + 1) (t := 80) (cs := zT) (by simp) 2
    have fr3 := kq.frozen (p := w.heap.size + 1 + 1 + 1) (t := 80) (cs := zT) (by simp) 3
    have fr4 := kq.frozen (p := w.heap.size + 1 + 1 + 1) (t := 80) (cs := zT) (by simp) 4
    have fr5 := kq.frozen (p := w.heap.size + 1 + 1 + 1) (t := 80) (cs := zT) (by simp) 5
    have fr6 := kq.frozen (p := w.heap.size + 1 + 1 + 1) (t := 80) (cs := zT) (by simp) 6
    have fr7 := kq.frozen (p := w.heap.size + 1 + 1 + 1) (t := 80) (cs := zT) (by simp) 7
    have z0 : wq.cell? ⟨w.heap.size + 1 + 1 + 1 + 1, 0, none⟩ = some (.int .i64 0) := kq.cell (p := w.heap.size + 1 + 1 + 1 + 1) (t := 112) (cs := zC) (by simp) 0
    have z1 : wq.cell? ⟨w.heap.size + 1 + 1 + 1 + 1, 1, none⟩ = some (.int .i64 0) := kq.cell (p := w.heap.size + 1 + 1 + 1 + 1) (t := 112) (cs := zC) (by simp) 1
    have fz0 := kq.frozen (p := w.heap.size + 1 + 1 + 1 + 1) (t := 112) (cs := zC) (by simp) 0
    have fz1 := kq.frozen (p := w.heap.size + 1 + 1 + 1 + 1) (t := 112) (cs := zC) (by simp) 1
    have KZ := Lib.hid kq
    clear kq
    go_region
    all_goals
      go_wp2_with fail
      first
        | (obtain ⟨w9, e9, ⟨d0, d1, d2, d3, d4, d5, d6, d7, d8, d9⟩, hb⟩ := touch_end (x0 := .int .i64 t0) (x1 := .int .i64 t1) (x2 := .int .i64 t2) (x3 := .int .i64 t3) (x4 := .int .i64 t4) (x5 := .int .i64 t5) (x6 := .int .i64 t6) (x7 := .bool true) (y0 := .int .i64 ct) (y1 := .int .i64 cv) (KZ.out.at_ (p := w.heap.size + 1 + 1 + 1) (t := 80) (cs := zT) (by simp)) (KZ.out.at_ (p := w.heap.size + 1 + 1 + 1 + 1) (t := 112) (cs := zC) (by simp)) (by omega) KZ.out.1 (by omega) (by omega); rw [e9]; clear e9; exact bodyPost_ret (v := (.tuple #[.agg (tA t0 t1 t2 t3 t4 t5 t6 true), .agg (cA ct cv), .int .i64 0, .int .i64 4])) (by simp [results, Tryz.results101, go_sem, d0, d1, d2, d3, d4, d5, d6, d7, d8, d9]) rfl ⟨rfl, hb.drew⟩)
        | (obtain ⟨w9, e9, ⟨d0, d1, d2, d3, d4, d5, d6, d7, d8, d9⟩, hb⟩ := touch_end2 (x0 := .int .i64 t0) (x1 := .int .i64 t1) (x2 := .int .i64 t2) (x3 := .int .i64 t3) (x4 := .int .i64 t4) (x5 := .int .i64 t5) (x6 := .int .i64 t6) (x7 := .bool true) (y0 := .int .i64 ct) (y1 := .int .i64 cv) (KZ.out.at_ (p := w.heap.size + 1 + 1 + 1) (t := 80) (cs := zT) (by simp)) (KZ.out.at_ (p := w.heap.size + 1 + 1 + 1 + 1) (t := 112) (cs := zC) (by simp)) (by omega) KZ.out.1 (by omega) (by omega); rw [e9]; clear e9; exact bodyPost_ret (v := (.tuple #[.agg (tA t0 t1 t2 t3 t4 t5 t6 true), .agg (cA ct cv), .int .i64 0, .int .i64 4])) (by simp [results, Tryz.results101, go_sem, d0, d1, d2, d3, d4, d5, d6, d7, d8, d9]) rfl ⟨rfl, hb.drew⟩)
  · have HVL := Lib.hid (show true = decide (isVal value) from (decide_eq_true (by rcases hv with h | h; exact absurd h hv3; exact h)).symm)
    have hv1 : (value == -1) = false := by simpa using hv3
    have hv2 : (value != -1) = true := by simpa using hv3
    clear hv
    go_enter Tryz.func101, Tryz.ntmps101
    go_wp2_with fail
    refine (R.out _ K0.out.1).mono ?_; rintro e wz ⟨rfl, b1⟩
    have hz := K0.out.below b1
    clear b1 R K0
    have p0 : wz.cell? ⟨w.heap.size, 0, none⟩ = some (.int .i64 key) := hz.cell (p := w.heap.size) (t := 26) (cs := (pA key A l.length cap)) (by simp) 0
    have p1 : wz.cell? ⟨w.heap.size, 1, none⟩ = some (.slice A l.length cap) := hz.cell (p := w.heap.size) (t := 26) (cs := (pA key A l.length cap)) (by simp) 1
    have q0 : wz.cell? ⟨w.heap.size + 1, 0, none⟩ = some (.int .i64 t0) := hz.cell (p := w.heap.size + 1) (t := 80) (cs := (tA t0 t1 t2 t3 t4 t5 t6 false)) (by simp) 0
    have q1 : wz.cell? ⟨w.heap.size + 1, 1, none⟩ = some (.int .i64 t1) := hz.cell (p := w.heap.size + 1) (t := 80) (cs := (tA t0 t1 t2 t3 t4 t5 t6 false)) (by simp) 1
    have q2 : wz.cell? ⟨w.heap.size + 1, 2, none⟩ = some (.int .i64 t2) := hz.cell (p := w.heap.size + 1) (t := 80) (cs := (tA t0 t1 t2 t3 t4 t5 t6 false)) (by simp) 2
    have q3 : wz.cell? ⟨w.heap.size + 1, 3, none⟩ = some (.int .i64 t3) := hz.cell (p := w.heap.size + 1) (t := 80) (cs := (tA t0 t1 t2 t3 t4 t5 t6 false)) (by simp) 3
    have q4 : wz.cell? ⟨w.heap.size + 1, 4, none⟩ = some (.int .i64 t4) := hz.cell (p := w.heap.size + 1) (t := 80) (cs := (tA t0 t1 t2 t3 t4 t5 t6 false)) (by simp) 4
    have q5 : wz.cell? ⟨w.heap.size + 1, 5, none⟩ = some (.int .i64 t5) := hz.cell (p := w.heap.size + 1) (t := 80) (cs := (tA t0 t1 t2 t3 t4 t5 t6 false)) (by simp) 5
    have q6 : wz.cell? ⟨w.heap.size + 1, 6, none⟩ = some (.int .i64 t6) := hz.cell (p := w.heap.size + 1) (t := 80) (cs := (tA t0 t1 t2 t3 t4 t5 t6 false)) (by simp) 6
    have q7 : wz.cell? ⟨w.heap.size + 1, 7, none⟩ = some (.bool false) := hz.cell (p := w.heap.size + 1) (t := 80) (cs := (tA t0 t1 t2 t3 t4 t5 t6 false)) (by simp) 7
    go_wp2_with fail
    refine (PT.out _ hz).mono ?_; rintro e wy ⟨rfl, hy⟩
    clear hz p0 p1 q0 q1 q2 q3 q4 q5 q6 q7 PT
    have s0 : wy.cell? ⟨w.heap.size + 1 + 1, 0, none⟩ = some (.int .i64 ct) := hy.cell (p := w.heap.size + 1 + 1) (t := 112) (cs := (cA ct cv)) (by simp) 0
    have s1 : wy.cell? ⟨w.heap.size + 1 + 1, 1, none⟩ = some (.int .i64 cv) := hy.cell (p := w.heap.size + 1 + 1) (t := 112) (cs := (cA ct cv)) (by simp) 1
    go_wp2_with fail
    refine (PC.out _ hy).mono ?_; rintro e wx ⟨rfl, hx⟩
    clear hy s0 s1 PC
    go_wp2_with fail
    refine (l2Value_b _ _ _ HVL.out).mono ?_; rintro e w' ⟨rfl, rfl⟩
    have q0 : wx.cell? ⟨w.heap.size + 1, 0, none⟩ = some (.int .i64 t0) := hx.cell (p := w.heap.size + 1) (t := 80) (cs := (tA t0 t1 t2 t3 t4 t5 t6 false)) (by simp) 0
    have q1 : wx.cell? ⟨w.heap.size + 1, 1, none⟩ = some (.int .i64 t1) := hx.cell (p := w.heap.size + 1) (t := 80) (cs := (tA t0 t1 t2 t3 t4 t5 t6 false)) (by simp) 1
    have q2 : wx.cell? ⟨w.heap.size + 1, 2, none⟩ = some (.int .i64 t2) := hx.cell (p := w.heap.size + 1) (t := 80) (cs := (tA t0 t1 t2 t3 t4 t5 t6 false)) (by simp) 2
    have q3 : wx.cell? ⟨w.heap.size + 1, 3, none⟩ = some (.int .i64 t3) := hx.cell (p := w.heap.size + 1) (t := 80) (cs := (tA t0 t1 t2 t3 t4 t5 t6 false)) (by simp) 3
    have q4 : wx.cell? ⟨w.heap.size + 1, 4, none⟩ = some (.int .i64 t4) := hx.cell (p := w.heap.size + 1) (t := 80) (cs := (tA t0 t1 t2 t3 t4 t5 t6 false)) (by simp) 4
    have q5 : wx.cell? ⟨w.heap.size + 1, 5, none⟩ = some (.int .i64 t5) := hx.cell (p := w.heap.size + 1) (t := 80) (cs := (tA t0 t1 t2 t3 t4 t5 t6 false)) (by simp) 5
    have q6 : wx.cell? ⟨w.heap.size + 1, 6, none⟩ = some (.int .i64 t6) := hx.cell (p := w.heap.size + 1) (t := 80) (cs := (tA t0 t1 t2 t3 t4 t5 t6 false)) (by simp) 6
    have q7 : wx.cell? ⟨w.heap.size + 1, 7, none⟩ = some (.bool false) := hx.cell (p := w.heap.size + 1) (t := 80) (cs := (tA t0 t1 t2 t3 t4 t5 t6 false)) (by simp) 7
    have s0 : wx.cell? ⟨w.heap.size + 1 + 1, 0, none⟩ = some (.int .i64 ct) := hx.cell (p := w.heap.size + 1 + 1) (t := 112) (cs := (cA ct cv)) (by simp) 0
    have s1 : wx.cell? ⟨w.heap.size + 1 + 1, 1, none⟩ = some (.int .i64 cv) := hx.cell (p := w.heap.size + 1 + 1) (t := 112) (cs := (cA ct cv)) (by simp) 1
    have fq7 := hx.frozen (p := w.heap.size + 1) (t := 80) (cs := (tA t0 t1 t2 t3 t4 t5 t6 false)) (by simp) 7
    have ks := (hx.sub (L' := [(w.heap.size + 1, 80, (tA t0 t1 t2 t3 t4 t5 t6 false)), (w.heap.size + 1 + 1 + 1 + 1, 112, zC), (w.heap.size + 1 + 1 + 1, 80, zT), (w.heap.size + 1 + 1, 112, (cA ct cv)), (w.heap.size, 26, (pA key A l.length cap))]) (by intro y hy; simp at hy ⊢; rcases hy with rfl | rfl | rfl | rfl | rfl <;> simp)).set (by intro y hy; simp at hy; rcases hy with rfl | rfl | rfl | rfl <;> simp <;> omega) 7 (.bool true)
    simp only [List.setIfInBounds_toArray, List.set_cons_zero, List.set_cons_succ] at ks
    have kq : Kept w [(w.heap.size + 1 + 1 + 1 + 1, 112, zC), (w.heap.size + 1 + 1 + 1, 80, zT), (w.heap.size + 1 + 1, 112, (cA ct cv)), (w.heap.size + 1, 80, (tA t0 t1 t2 t3 t4 t5 t6 true)), (w.heap.size, 26, (pA key A l.length cap))] _ := ks.sub (by intro y hy; simp at hy ⊢; rcases hy with rfl | rfl | rfl | rfl | rfl <;> simp)
    clear hx ks
    go_upto_region 10 with fail
    clear q0 q1 q2 q3 q4 q5 q6 q7 s0 s1 fq7
    generalize World.setCell _ _ _ = wq at kq ⊢
    have q0 : wq.cell? ⟨w.heap.size + 1, 0, none⟩ = some (.int .i64 t0) := kq.cell (p := w.heap.size + 1) (t := 80) (cs := (tA t0 t1 t2 t3 t4 t5 t6 true)) (by simp) 0
    have q1 : wq.cell? ⟨w.heap.size + 1, 1, none⟩ = some (.int .i64 t1) := kq.cell (p := w.heap.size + 1) (t := 80) (cs := (tA t0 t1 t2 t3 t4 t5 t6 true)) (by simp) 1
    have q2 : wq.cell? ⟨w.heap.size + 1, 2, none⟩ = some (.int .i64 t2) := kq.cell (p := w.heap.size + 1) (t := 80) (cs := (tA t0 t1 t2 t3 t4 t5 t6 true)) (by simp) 2
    have q3 : wq.cell? ⟨w.heap.size + 1, 3, none⟩ = some (.int .i64 t3) := kq.cell (p := w.heap.size + 1) (t := 80) (cs := (tA t0 t1 t2 t3 t4 t5 t6 true)) (by simp) 3
    have q4 : wq.cell? ⟨w.heap.size + 1, 4, none⟩ = some (.int .i64 t4) := kq.cell (p := w.heap.size + 1) (t := 80) (cs := (tA t0 t1 t2 t3 t4 t5 t6 true)) (by simp) 4
    have q5 : wq.cell? ⟨w.heap.size + 1, 5, none⟩ = some (.int .i64 t5) := kq.cell (p := w.heap.size + 1) (t := 80) (cs := (tA t0 t1 t2 t3 t4 t5 t6 true)) (by simp) 5
    have q6 : wq.cell? ⟨w.heap.size + 1, 6, none⟩ = some (.int .i64 t6) := kq.cell (p := w.heap.size + 1) (t := 80) (cs := (tA t0 t1 t2 t3 t4 t5 t6 true)) (by simp) 6
    have q7 : wq.cell? ⟨w.heap.size + 1, 7, none⟩ = some (.bool true) := kq.cell (p := w.heap.size + 1) (t := 80) (cs := (tA t0 t1 t2 t3 t4 t5 t6 true)) (by simp) 7
    have s0 : wq.cell? ⟨w.heap.size + 1 + 1, 0, none⟩ = some (.int .i64 ct) := kq.cell (p := w.heap.size + 1 + 1) (t := 112) (cs := (cA ct cv)) (by simp) 0
    have s1 : wq.cell? ⟨w.heap.size + 1 + 1, 1, none⟩ = some (.int .i64 cv) := kq.cell (p := w.heap.size + 1 + 1) (t := 112) (cs := (cA ct cv)) (by simp) 1
    have r0 : wq.cell? ⟨w.heap.size + 1 + 1 + 1, 0, none⟩ = some (.int .i64 0) := kq.cell (p := w.heap.size + 1 + 1 + 1) (t := 80) (cs := zT) (by simp) 0
    have r1 : wq.cell? ⟨w.heap.size + 1 + 1 + 1, 1, none⟩ = some (.int .i64 0) := kq.cell (p := w.heap.size + 1 + 1 + 1) (t := 80) (cs := zT) (by simp) 1
    have r2 : wq.cell? ⟨w.heap.size + 1 + 1 + 1, 2, none⟩ = some (.int .i64 0) := kq.cell (p := w.heap.size + 1 + 1 + 1) (t := 80) (cs := zT) (by simp) 2
    have r3 : wq.cell? ⟨w.heap.size + 1 + 1 + 1, 3, none⟩ = some (.int .i64 0) := kq.cell (p := w.heap.size + 1 + 1 + 1) (t := 80) (cs := zT) (by simp) 3
    have r4 : wq.cell? ⟨w.heap.size + 1 + 1 + 1, 4, none⟩ = some (.int .i64 0) := kq.cell (p := w.heap.size + 1 + 1 + 1) (t := 80) (cs := zT) (by simp) 4
    have r5 : wq.cell? ⟨w.heap.size + 1 + 1 + 1, 5, none⟩ = some (.int .i64 0) := kq.cell (p := w.heap.size + 1 + 1 + 1) (t := 80) (cs := zT) (by simp) 5
    have r6 : wq.cell? ⟨w.heap.size + 1 + 1 + 1, 6, none⟩ = some (.int .i64 0) := kq.cell (p := w.heap.size + 1 + 1 + 1) (t := 80) (cs := zT) (by simp) 6
    have r7 : wq.cell? ⟨w.heap.size + 1 + 1 + 1, 7, none⟩ = some (.bool false) := kq.cell (p := w.heap.size + 1 + 1 + 1) (t := 80) (cs := zT) (by simp) 7
    have fr0 := kq.frozen (p := w.heap.size + 1 + 1 + 1) (t := 80) (cs := zT) (by simp) 0
    have fr1 := kq.frozen (p := w.heap.size + 1 + 1 + 1) (t := 80) (cs := zT) (by simp) 1
    have fr2 := kq.frozen (p := w.heap.size + 1 + 1 + 1) (t := 80) (cs := zT) (by simp) 2
    have fr3 := kq.frozen (p := w.heap.size + 1 + 1 + 1) (t := 80) (cs := zT) (by simp) 3
    have fr4 := kq.frozen (p := w.heap.size + 1 + 1 + 1) (t := 80) (cs := zT) (by simp) 4
    have fr5 := kq.frozen (p := w.heap.size + 1 + 1 + 1) (t := 80) (cs := zT) (by simp) 5
    have fr6 := kq.frozen (p := w.heap.size + 1 + 1 + 1) (t := 80) (cs := zT) (by simp) 6
    have fr7 := kq.frozen (p := w.heap.size + 1 + 1 + 1) (t := 80) (cs := zT) (by simp) 7
    have z0 : wq.cell? ⟨w.heap.size + 1 + 1 + 1 + 1, 0, none⟩ = some (.int .i64 0) := kq.cell (p := w.heap.size + 1 + 1 + 1 + 1) (t := 112) (cs := zC) (by simp) 0
    have z1 : wq.cell? ⟨w.heap.size + 1 + 1 + 1 + 1, 1, none⟩ = some (.int .i64 0) := kq.cell (p := w.heap.size + 1 + 1 + 1 + 1) (t := 112) (cs := zC) (by simp) 1
    have fz0 := kq.frozen (p := w.heap.size + 1 + 1 + 1 + 1) (t := 112) (cs := zC) (by simp) 0
    have fz1 := kq.frozen (p := w.heap.size + 1 + 1 + 1 + 1) (t := 112) (cs := zC) (by simp) 1
    have KZ := Lib.hid kq
    clear kq
    go_region
    all_goals
      go_wp2_with fail
      first
        | (obtain ⟨w9, e9, ⟨d0, d1, d2, d3, d4, d5, d6, d7, d8, d9⟩, hb⟩ := touch_end (x0 := .int .i64 t0) (x1 := .int .i64 t1) (x2 := .int .i64 t2) (x3 := .int .i64 t3) (x4 := .int .i64 t4) (x5 := .int .i64 t5) (x6 := .int .i64 t6) (x7 := .bool true) (y0 := .int .i64 ct) (y1 := .int .i64 cv) (KZ.out.at_ (p := w.heap.size + 1 + 1 + 1) (t := 80) (cs := zT) (by simp)) (KZ.out.at_ (p := w.heap.size + 1 + 1 + 1 + 1) (t := 112) (cs := zC) (by simp)) (by omega) KZ.out.1 (by omega) (by omega); rw [e9]; clear e9; exact bodyPost_ret (v := (.tuple #[.agg (tA t0 t1 t2 t3 t4 t5 t6 true), .agg (cA ct cv), .int .i64 0, .int .i64 4])) (by simp [results, Tryz.results101, go_sem, d0, d1, d2, d3, d4, d5, d6, d7, d8, d9]) rfl ⟨rfl, hb.drew⟩)
        | (obtain ⟨w9, e9, ⟨d0, d1, d2, d3, d4, d5, d6, d7, d8, d9⟩, hb⟩ := touch_end2 (x0 := .int .i64 t0) (x1 := .int .i64 t1) (x2 := .int .i64 t2) (x3 := .int .i64 t3) (x4 := .int .i64 t4) (x5 := .int .i64 t5) (x6 := .int .i64 t6) (x7 := .bool true) (y0 := .int .i64 ct) (y1 := .int .i64 cv) (KZ.out.at_ (p := w.heap.size + 1 + 1 + 1) (t := 80) (cs := zT) (by simp)) (KZ.out.at_ (p := w.heap.size + 1 + 1 + 1 + 1) (t := 112) (cs := zC) (by simp)) (by omega) KZ.out.1 (by omega) (by omega); rw [e9]; clear e9; exact bodyPost_ret (v := (.tuple #[.agg (tA t0 t1 t2 t3 t4 t5 t6 true), .agg (cA ct cv), .int .i64 0, .int .i64 4])) (by simp [results, Tryz.results101, go_sem, d0, d1, d2, d3, d4, d5, d6, d7, d8, d9]) rfl ⟨rfl, hb.drew⟩)
open Go.RowKit
section
variable {P : Program} {md : Region.Mode} {ops : Array Oper} {C : World → Prop}
def headIn (P : Program) (md : Region.Mode) (ops : Array Oper) (C : World → Prop) (n : Nat) (done : Array Bool → Act → Prop) : Nat → Array Bool → Act → Prop
  | 0, up, a => done up a
  | f + 1, up, a => Region.ready md ops up ≠ [] ∧ ∀ j ∈ Region.ready md ops up, j < n ∧ qOp P ops C j (headIn P md ops C n done f (up.setIfInBounds j true)) a
theorem headIn.all {n g : Nat} {done : Array Bool → Act → Prop} {Q : Exit → Act → World → Prop} (hd : ∀ up a w, C w → done up a → wpAny P md ops Q g up a w) (f : Nat) :
    ∀ up a w, C w → headIn P md ops C n done f up a → wpAny P md ops Q (f + g) up a w := by
  induction f with
  | zero => intro up a w hw h; rw [Nat.zero_add]; exact hd up a w hw h
  | succ f ih =>
    intro up a w hw h
    rw [Nat.add_right_comm]
    exact ⟨fun h0 => absurd h0 h.1, fun j hj => wpOp_of_qOp hw (fun a' w' hw' h' => ih _ a' w' hw' h') (h.2 j hj).2⟩
theorem headIn.first {n i : Nat} {oi : Oper} {v : Value} {done : Array Bool → Act → Prop} (hi : ops[i]? = some oi) (hsel : ∀ (j : Nat) (o : Oper) cs b, ops[j]? = some o → o.op ≠ .select cs b)
    (hs : Region.sinkB md ops n = true) (hc : Region.chainB md ops n = true) (hn : n < ops.size) (hin : i < n) (hdone : ∀ up a, done up a → ∀ j ∈ Region.ready md ops up, n ≤ j) (f : Nat) :
    ∀ up a, HeadInv md ops n up → (∀ j oj, ops[j]? = some oj → j ≠ i → up.getD j true = false → (∀ e ∈ oj.after, Region.binds md e = true → e.on ≠ i) → oi.apart ops oj = true) →
      i ∈ Region.ready md ops up → YieldsIn P ops C oi v a → headIn P md ops C n done f (up.setIfInBounds i true) (a.put oi.dst v) → headIn P md ops C n done (f + 1) up a := by
  induction f with
  | zero =>
    intro up a inv _ hr hy H
    refine ⟨fun h0 => (by rw [h0] at hr; cases hr), fun j hj => ?_⟩
    have hji : j = i := by
      refine Classical.byContradiction fun hne => ?_
      exact tail_waits hs hc hn inv _ i rfl hin (mem_ready.1 hr).1 j (hdone _ _ H j (ready_mono hj hne)) hj
    subst hji
    exact ⟨hin, hy.qOp hi H⟩
  | succ f ih =>
    intro up a inv hfree hr hy H
    refine ⟨fun h0 => (by rw [h0] at hr; cases hr), fun j hj => ?_⟩
    by_cases hji : j = i
    · subst hji; exact ⟨hin, hy.qOp hi H⟩
    · obtain ⟨hjn, hj1⟩ := H.2 j (ready_mono hj hji)
      obtain ⟨hjun, oj, hoj, hall⟩ := mem_ready.1 hj
      have hnot : ∀ e ∈ oj.after, Region.binds md e = true → e.on ≠ i := by
        intro e he hb heq
        have h2 := hall e he hb
        rw [heq, getD_both (mem_ready.1 hr).1] at h2
        cases h2
      have hboth := qOp_put hoj (hfree j oj hoj hji hjun hnot) (fun cs b => hsel i oi cs b hi) (fun cs b => hsel j oj cs b hoj) hy hj1
      refine ⟨hjn, qOp_mono (fun a' h3 => ih _ a' (inv.set hj hjn) ?_ (ready_mono hr (Ne.symm hji)) h3.1 ?_) hboth⟩
      · intro k ok hk hki hun hno
        refine hfree k ok hk hki ?_ hno
        by_cases hjk : j = k
        · subst hjk; exact hjun
        · rwa [getD_set_ne true hjk] at hun
      · rw [Array.setIfInBounds_comm _ _ hji]; exact h3.2
theorem headIn.lex {n g : Nat} {R : Act → Prop} (hsel : Region.noSelect ops = true) (hs : Region.sinkB md ops n = true) (hc : Region.chainB md ops n = true) (hn : n < ops.size) (l : List Oper) :
    ∀ (k : Nat) up a, (∀ j, j < l.length → l[j]? = ops[k + j]?) → k + l.length = n → HeadInv md ops n up → Region.lexHead md ops g l.length k up = true → wpQuiet P ops C R l a →
      headIn P md ops C n (fun up a => Region.seqB md ops g n up = true ∧ R a) l.length up a := by
  induction l with
  | nil =>
    intro k up a _ hk _ hB h
    obtain rfl : k = n := hk
    exact ⟨hB, h⟩
  | cons o l ih =>
    intro k up a hl hk inv hB h
    have h0 : ops[k]? = some o := by have := hl 0 (by simp); simpa using this.symm
    simp only [List.length_cons, Region.lexHead, Bool.and_eq_true, List.contains_iff_mem] at hB
    obtain ⟨⟨hr, hf⟩, hB'⟩ := hB
    have hkn : k < n := by simp only [List.length_cons] at hk; omega
    have hq : qOp P ops C k (wpQuiet P ops C R l) a := by unfold qOp; rw [h0]; exact h
    obtain ⟨v, hy, hrest⟩ := yieldsIn_of_qOp h0 hq
    refine headIn.first h0 (Region.noSelect_spec hsel) hs hc hn hkn (fun up' a' hd => seqB_ready hd.1) l.length up a inv (Region.free_spec h0 hf) hr hy ?_
    refine ih (k + 1) _ _ (fun j hj => ?_) (by simp only [List.length_cons] at hk; omega) (inv.set hr hkn) hB' hrest
    have := hl (j + 1) (by simp only [List.length_cons]; omega)
    rw [List.getElem?_cons_succ] at this
    rw [this, Nat.add_right_comm, Nat.add_assoc]
theorem wp_region_class_tail {id : Nat} {Q : Exit → Act → World → Prop} {a : Act} {w : World} {l : List Oper} (n : Nat) (hm : P.follows .mixedOrders = true) (hB : Region.lexTailB .any l.toArray n = true) (hC : C w.drew)
    (h : wpQuiet P l.toArray C (fun a' => ∀ w', C w' → wpList P l.toArray Q (l.drop n) a' w') (l.take n) a) : (Code.region id l.toArray true).wp P Q a w := by
  unfold Region.lexTailB at hB
  simp only [Bool.and_eq_true, decide_eq_true_eq] at hB
  obtain ⟨⟨⟨⟨hsel, hn⟩, hs⟩, hc⟩, hlex⟩ := hB
  have hnl : n < l.length := by simpa using hn
  have htl : (l.take n).length = n := by rw [List.length_take]; omega
  have hdl : (l.drop n).length = l.toArray.size - n := by simp
  have inv0 : HeadInv .any l.toArray n (Array.replicate l.toArray.size false) :=
    { size := by simp
      closed := fun j oj _ hl _ _ _ => by rw [getD_replicate_false] at hl; cases hl
      tail := fun t _ ht => getD_in (by simpa using ht) (getD_replicate_false _ _) }
  have H := headIn.lex (P := P) (C := C) (md := .any) (g := l.toArray.size - n) hsel hs hc hn (l.take n) 0 (Array.replicate l.toArray.size false) a (fun j hj => by
    rw [htl] at hj
    simp [List.getElem?_take_of_lt hj]) (by rw [htl]; omega) inv0 (by rw [htl]; exact hlex) h
  refine wp_region_any hm ?_
  have HA := headIn.all (Q := Q) (g := l.toArray.size - n) (fun up a' w' hw' hd => by
    have ht := wpAny_of_seq (P := P) (md := .any) (ops := l.toArray) (Q' := Q) (l.drop n) n up a' w' (fun j => by simp [List.getElem?_drop]) (by rw [hdl]; exact hd.1) (hd.2 w' hw')
    rwa [hdl] at ht) _ _ _ _ hC H
  rw [htl, show n + (l.toArray.size - n) = l.toArray.size by omega] at HA
  exact HA
end
def zeroTru : Tru := ⟨0, 0, 0, 0, 0, 0, 0, false⟩
noncomputable def touched (key : Int) (l : List Int) (t : Tru) (x ct cv value : Int) : Tru × (Int × Int) × Int × Int :=
  open Classical in
  if touchOk key l t x ct cv value then
    if t.failed = true then (t, (ct, cv), 0, 2)
    else if 100000 ≤ t.clock then (t, (ct, cv), 0, 3)
    else if t.clock < ct then (⟨t.clock, t.epoch, t.cursor, t.read, t.written, t.nread, t.nwritten, true⟩, (ct, cv), 0, 4)
    else (sumsT key ⟨t.clock + 1, t.epoch, t.cursor, t.read, t.written, t.nread, t.nwritten, false⟩ (behindB key l t.cursor x) (tripleIn x ct cv).1 (tripleIn x ct cv).2.1 (tripleIn x ct cv).2.2
        (tripleIn x (cellOf key x (t.clock + 1) (if value = -1 then valueIn key x ct cv else value)).1 (cellOf key x (t.clock + 1) (if value = -1 then valueIn key x ct cv else value)).2).1
        (tripleIn x (cellOf key x (t.clock + 1) (if value = -1 then valueIn key x ct cv else value)).1 (cellOf key x (t.clock + 1) (if value = -1 then valueIn key x ct cv else value)).2).2.1
        (tripleIn x (cellOf key x (t.clock + 1) (if value = -1 then valueIn key x ct cv else value)).1 (cellOf key x (t.clock + 1) (if value = -1 then valueIn key x ct cv else value)).2).2.2,
      cellOf key x (t.clock + 1) (if value = -1 then valueIn key x ct cv else value), valueIn key x ct cv, 0)
  else (zeroTru, (0, 0), 0, 1)
theorem specTouched_calls (key x ct cv value : Int) (A : Option Addr) (l : List Int) (cap : Nat) (t0 t1 t2 t3 t4 t5 t6 : Int) (t7 : Bool) (w : World) (hn : l.length ≤ maxLen) (hcap : l.length ≤ cap) (hA : Ints w .i64 w.heap.size A l) (hxx : I64 x) :
    Calls Tryz.prog 101 #[.agg (pA key A l.length cap), .agg (tA t0 t1 t2 t3 t4 t5 t6 t7), .int .i64 x, .agg (cA ct cv), .int .i64 value] w fun e w' => e = .returned (.tuple #[.agg (tR ((touched key l ⟨t0, t1, t2, t3, t4, t5, t6, t7⟩ x ct cv value).1)), .agg (cA ((touched key l ⟨t0, t1, t2, t3, t4, t5, t6, t7⟩ x ct cv value).2.1.1) ((touched key l ⟨t0, t1, t2, t3, t4, t5, t6, t7⟩ x ct cv value).2.1.2)), .int .i64 (touched key l ⟨t0, t1, t2, t3, t4, t5, t6, t7⟩ x ct cv value).2.2.1, .int .i64 (touched key l ⟨t0, t1, t2, t3, t4, t5, t6, t7⟩ x ct cv value).2.2.2]) ∧ Below w.heap.size w w' := by
  unfold touched
  by_cases h : touchOk key l ⟨t0, t1, t2, t3, t4, t5, t6, t7⟩ x ct cv value
  · rw [if_pos h]
    cases t7 with
    | true => rw [if_pos rfl]; exact specTouched_failed key x ct cv value A l cap t0 t1 t2 t3 t4 t5 t6 w hn hcap hA h.1 h.2.1 h.2.2.1 h.2.2.2
    | false =>
      rw [if_neg (by simp)]
      by_cases h1 : 100000 ≤ t0
      · rw [if_pos h1]; exact specTouched_spent key x ct cv value A l cap t0 t1 t2 t3 t4 t5 t6 w hn hcap hA h.1 h.2.1 h.2.2.1 h.2.2.2 h1
      · rw [if_neg h1]
        by_cases h2 : t0 < ct
        · rw [if_pos h2]; exact specTouched_caught key x ct cv value A l cap t0 t1 t2 t3 t4 t5 t6 w hn hcap hA h.1 h.2.1 h.2.2.1 h.2.2.2 h1 h2
        · rw [if_neg h2]; exact specTouched_ok key x ct cv value A l cap t0 t1 t2 t3 t4 t5 t6 w hn hcap hA h.1 h.2.1 h.2.2.1 h.2.2.2 h1 h2 hxx _ rfl
  · rw [if_neg h]; exact specTouched_bad key x ct cv value A l cap t0 t1 t2 t3 t4 t5 t6 t7 w hn hcap hA h
noncomputable def touchVol (x : VolN) (a value : Int) : VolN × Int × Int :=
  open Classical in
  if 0 ≤ regionOf x.key x.counts a then
    if (touched x.key x.counts (x.trusts.getD (regionOf x.key x.counts a).toNat default) a (x.cells.getD a.toNat default).1 (x.cells.getD a.toNat default).2 value).2.2.2 = 1 then (x, 0, 1)
    else ({ x with trusts := x.trusts.set (regionOf x.key x.counts a).toNat (touched x.key x.counts (x.trusts.getD (regionOf x.key x.counts a).toNat default) a (x.cells.getD a.toNat default).1 (x.cells.getD a.toNat default).2 value).1,
                   cells := x.cells.set a.toNat (touched x.key x.counts (x.trusts.getD (regionOf x.key x.counts a).toNat default) a (x.cells.getD a.toNat default).1 (x.cells.getD a.toNat default).2 value).2.1 },
      (touched x.key x.counts (x.trusts.getD (regionOf x.key x.counts a).toNat default) a (x.cells.getD a.toNat default).1 (x.cells.getD a.toNat default).2 value).2.2.1,
      (touched x.key x.counts (x.trusts.getD (regionOf x.key x.counts a).toNat default) a (x.cells.getD a.toNat default).1 (x.cells.getD a.toNat default).2 value).2.2.2)
  else (x, 0, 1)
def VolAns (b : World) (r : VolN × Int × Int) (e : Ending) (w' : World) : Prop := ∃ cs, e = .returned (.tuple #[.agg cs, .int .i64 r.2.1, .int .i64 r.2.2]) ∧ VolO w' b.heap.size r.1 (.agg cs) ∧ Below b.heap.size b w'
def VolN.Fit (x : VolN) : Prop := x.trusts.length = x.counts.length ∧ (x.cells.length : Int) = upTo x.counts x.counts.length
theorem vol_end {w w1 : World} {r : Nat} {t : TypeId} {x0 x1 x2 x3 x4 x5 y0 y1 y2 y3 y4 y5 : Value} (hk : CellsAt w1 r t #[y0, y1, y2, y3, y4, y5]) (hb : Below w.heap.size w w1) (hr : w.heap.size ≤ r) :
    ∃ w4, ((((((w1.setCell ⟨r, 0, none⟩ x0).setCell ⟨r, 1, none⟩ x1).setCell ⟨r, 2, none⟩ x2).setCell ⟨r, 3, none⟩ x3).setCell ⟨r, 4, none⟩ x4).setCell ⟨r, 5, none⟩ x5) = w4 ∧ (w4.cell? ⟨r, 0, none⟩ = some x0 ∧ w4.cell? ⟨r, 1, none⟩ = some x1 ∧ w4.cell? ⟨r, 2, none⟩ = some x2 ∧ w4.cell? ⟨r, 3, none⟩ = some x3 ∧ w4.cell? ⟨r, 4, none⟩ = some x4 ∧ w4.cell? ⟨r, 5, none⟩ = some x5) ∧ Below w.heap.size w w4 ∧ w1.grownBy w4 (some r) := by
  have h := (((((hk.set_ 0 x0).set_ 1 x1).set_ 2 x2).set_ 3 x3).set_ 4 x4).set_ 5 x5
  simp only [List.setIfInBounds_toArray, List.set_cons_zero, List.set_cons_succ] at h
  have hb2 := (((((hb.setCell (p := ⟨r, 0, none⟩) hr x0).setCell (p := ⟨r, 1, none⟩) hr x1).setCell (p := ⟨r, 2, none⟩) hr x2).setCell (p := ⟨r, 3, none⟩) hr x3).setCell (p := ⟨r, 4, none⟩) hr x4).setCell (p := ⟨r, 5, none⟩) hr x5
  have hg := gb_set (gb_set (gb_set (gb_set (gb_set (gb_set (gb_refl w1 (some r)) 0 x0) 1 x1) 2 x2) 3 x3) 4 x4) 5 x5
  generalize World.setCell _ _ _ = w4 at h hb2 hg ⊢
  exact ⟨w4, rfl, ⟨h.cell 0, h.cell 1, h.cell 2, h.cell 3, h.cell 4, h.cell 5⟩, hb2, hg⟩
set_option maxRecDepth 20000 in
set_option maxHeartbeats 4000000 in
theorem l12Touch_none (x : VolN) (A : Option Addr) (cap : Nat) (B : Option Addr) (tc : Nat) (C : Option Addr) (cc : Nat) (b off sc : Nat) (w : World) (hx : x.Short) (hcap : x.counts.length ≤ cap) (hA : Ints w .i64 w.heap.size A x.counts) (hB : Trs w w.heap.size B x.trusts) (hC : Cls w w.heap.size C x.cells) (hbb : b < w.heap.size) (h0 : SlotAt w w.heap.size b off x.s0) (h1 : SlotAt w w.heap.size b (off + 4) x.s1) (a value : Int) (hr : ¬ 0 ≤ regionOf x.key x.counts a) :
    Calls Tryz.prog 42 #[.agg (vX x A cap B tc C cc b off sc), .int .i64 a, .int .i64 value] w (VolAns w (x, 0, 1)) := by
  have K0 := Lib.hid (show Kept w [(w.heap.size + 1, 31, zV), (w.heap.size, 31, (vX x A cap B tc C cc b off sc))] _ from (((Kept.refl w).put1 _ _ (vX x A cap B tc C cc b off sc) rfl).put1 _ _ zV (by simp)))
  have CO := Lib.hid (fun (u : World) (hb : Below w.heap.size w u) => l12Copy_calls x A cap B tc C cc b off sc u hx ((hA.below hb (Nat.le_refl _)).more hb.size) ((hB.below hb (Nat.le_refl _)).more hb.size) ((hC.below hb (Nat.le_refl _)).more hb.size) (Nat.lt_of_lt_of_le hbb hb.size) ((h0.below hb (Nat.le_refl _) hbb).more hb.size) ((h1.below hb (Nat.le_refl _) hbb).more hb.size))
  have hn : x.counts.length ≤ maxLen := by have := hx.1; unfold maxLen; omega
  have R := Lib.hid (fun (u : World) (hb : Below w.heap.size w u) => specRegion_calls x.key a A x.counts cap u hn hcap ((hA.below hb (Nat.le_refl _)).more hb.size))
  have hd : decide (regionOf x.key x.counts a < 0) = true := decide_eq_true (by omega)
  clear hA hB hC h0 h1 hn
  generalize regionOf x.key x.counts a = r at R hd
  clear hr
  go_enter Tryz.func42, Tryz.ntmps42
  go_wp2_with fail
  refine (CO.out _ K0.out.1).mono ?_; rintro e u1 ⟨vv, rfl, hv, hb1⟩
  have hk1 := K0.out.below hb1
  obtain ⟨A', c', B', d', C', e', b', o', s', rfl, -⟩ := hv.reads
  have hv1 := hv.mono (show w.heap.size + 1 + 1 ≤ _ by simp)
  have lo0 : w.heap.size + 1 < u1.heap.size := hk1.lt (x := (w.heap.size + 1, 31, zV)) (by simp)
  have lo1 : w.heap.size < u1.heap.size := hk1.lt (x := (w.heap.size, 31, (vX x A cap B tc C cc b off sc))) (by simp)
  have hk2 := hk1.put1 u1.heap.size 31 (vX x A' c' B' d' C' e' b' o' s') rfl
  have hv2 := hv1.below ((Below.refl _ _).alloc (Nat.le_refl _) (.cells (vX x A' c' B' d' C' e' b' o' s') 31))
  clear hb1 hk1 hv hv1 CO
  go_upto_region 2 with fail
  obtain ⟨kc0, kf0, kc1, kf1, kc2, kf2, -⟩ := hk2.rd
  have HV := Lib.hid hv2
  clear hv2
  go_wp2_with fail
  refine (R.out _ hk2.1).mono ?_; rintro e u2 ⟨rfl, hb2⟩
  have hk3 := hk2.below hb2
  have hv3 := HV.out.below hb2
  clear kc0 kf0 kc1 kf1 kc2 kf2 hb2 hk2 HV
  obtain ⟨kc0, kf0, kc1, kf1, kc2, kf2, -⟩ := hk3.rd
  have HV := Lib.hid hv3
  clear hv3
  go_wp2_with fail
  obtain ⟨w9, e9, ⟨d0, d1, d2, d3, d4, d5⟩, hb9, hg9⟩ := vol_end (w := w) (x0 := .int .i64 x.key) (x1 := .slice A' x.counts.length c') (x2 := .slice B' x.trusts.length d') (x3 := .slice C' x.cells.length e') (x4 := .slice (some ⟨b', o', none⟩) 2 s') (x5 := .int .i64 x.count) (hk3.at_ (p := w.heap.size + 1) (t := 31) (cs := zV) (by simp)) hk3.1 (by omega)
  rw [e9]
  exact bodyPost_ret (v := .tuple #[.agg (vX x A' c' B' d' C' e' b' o' s'), .int .i64 0, .int .i64 1]) (by simp [results, Tryz.results42, go_sem, d0, d1, d2, d3, d4, d5]) rfl ⟨_, rfl, (HV.out.out hg9 (by omega)).mono (by omega), hb9⟩
end Go.Proofs.YtgaecedhkbneaaaGreatDoor.Mx

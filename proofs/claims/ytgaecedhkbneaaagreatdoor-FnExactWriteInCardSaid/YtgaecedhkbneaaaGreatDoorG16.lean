import Derived.Test.YtgaecedhkbneaaaGreatDoorG14
namespace Go.Proofs.YtgaecedhkbneaaaGreatDoor.Mx
open Go.ChangeShapes Go.WideShapes Go.ChangeAt Go.RowKit
set_option linter.unusedVariables false
set_option maxRecDepth 20000 in
set_option maxHeartbeats 4000000 in
theorem specTouched_failed (key x ct cv value : Int) (A : Option Addr) (l : List Int) (cap : Nat) (t0 t1 t2 t3 t4 t5 t6 : Int) (w : World) (hn : l.length ≤ maxLen) (hcap : l.length ≤ cap) (hA : Ints w .i64 w.heap.size A l) (hr : 0 ≤ regionOf key l x) (ht : trustOk key l (regionOf key l x) ⟨t0, t1, t2, t3, t4, t5, t6, true⟩ ) (hc : isCell ct cv) (hv : ValOk value) :
    Calls Tryz.prog 101 #[.agg (pA key A l.length cap), .agg (tA t0 t1 t2 t3 t4 t5 t6 true), .int .i64 x, .agg (cA ct cv), .int .i64 value] w fun e w' => e = .returned (.tuple #[.agg (tA t0 t1 t2 t3 t4 t5 t6 true), .agg (cA ct cv), .int .i64 0, .int .i64 2]) ∧ Below w.heap.size w w' := by
  have k0 := (((((Kept.refl w).new 26 (pA key A l.length cap)).new 80 (tA t0 t1 t2 t3 t4 t5 t6 true)).new 112 (cA ct cv)).new 80 zT).new 112 zC
  rw [show ((((w.alloc (.cells (pA key A l.length cap) 26)).alloc (.cells (tA t0 t1 t2 t3 t4 t5 t6 true) 80)).alloc (.cells (cA ct cv) 112)).alloc (.cells zT 80)).heap.size = w.heap.size + 1 + 1 + 1 + 1 by simp, show (((w.alloc (.cells (pA key A l.length cap) 26)).alloc (.cells (tA t0 t1 t2 t3 t4 t5 t6 true) 80)).alloc (.cells (cA ct cv) 112)).heap.size = w.heap.size + 1 + 1 + 1 by simp, show ((w.alloc (.cells (pA key A l.length cap) 26)).alloc (.cells (tA t0 t1 t2 t3 t4 t5 t6 true) 80)).heap.size = w.heap.size + 1 + 1 by simp, show (w.alloc (.cells (pA key A l.length cap) 26)).heap.size = w.heap.size + 1 by simp] at k0
  have R := Lib.hid (fun (u : World) (hb : Below w.heap.size w u) => specRegion_calls key x A l cap u hn hcap ((hA.below hb (Nat.le_refl _)).more hb.size))
  have TO := Lib.hid (fun (r : Int) (u : World) (h : Kept w [(w.heap.size + 1 + 1 + 1 + 1, 112, zC), (w.heap.size + 1 + 1 + 1, 80, zT), (w.heap.size + 1 + 1, 112, (cA ct cv)), (w.heap.size + 1, 80, (tA t0 t1 t2 t3 t4 t5 t6 true)), (w.heap.size, 26, (pA key A l.length cap))] u) => (specTrustOk_calls key r A l cap t0 t1 t2 t3 t4 t5 t6 true u hn ((hA.below h.1 (Nat.le_refl _)).more h.1.size)).mono (fun e w' ⟨he, hb⟩ => (⟨he, h.below hb⟩ : _ ∧ Kept w [(w.heap.size + 1 + 1 + 1 + 1, 112, zC), (w.heap.size + 1 + 1 + 1, 80, zT), (w.heap.size + 1 + 1, 112, (cA ct cv)), (w.heap.size + 1, 80, (tA t0 t1 t2 t3 t4 t5 t6 true)), (w.heap.size, 26, (pA key A l.length cap))] w')))
  have CO := Lib.hid (fun (u : World) (h : Kept w [(w.heap.size + 1 + 1 + 1 + 1, 112, zC), (w.heap.size + 1 + 1 + 1, 80, zT), (w.heap.size + 1 + 1, 112, (cA ct cv)), (w.heap.size + 1, 80, (tA t0 t1 t2 t3 t4 t5 t6 true)), (w.heap.size, 26, (pA key A l.length cap))] u) => (specCellOk_calls ct cv u).mono (fun e w' ⟨he, hb⟩ => (⟨he, h.below hb⟩ : _ ∧ Kept w [(w.heap.size + 1 + 1 + 1 + 1, 112, zC), (w.heap.size + 1 + 1 + 1, 80, zT), (w.heap.size + 1 + 1, 112, (cA ct cv)), (w.heap.size + 1, 80, (tA t0 t1 t2 t3 t4 t5 t6 true)), (w.heap.size, 26, (pA key A l.length cap))] w')))
  have K0 := Lib.hid k0
  clear k0
  clear hA
  have hd : decide (regionOf key l x < 0) = false := decide_eq_false (by omega)
  have PT := Lib.hid (TO.out (regionOf key l x))
  rw [trustB_yes ht] at PT
  have PC := CO
  rw [decide_eq_true hc] at PC
  have htm := ht.2.2.1
  generalize regionOf key l x = r at R hd PT
  clear hr ht hc TO CO
  unfold isTm at htm
  by_cases hv3 : value = -1
  · subst hv3
    clear hv
    go_enter Tryz.func101, Tryz.ntmps101
    go_wp2_with fail
    refine (R.out _ K0.out.1).mono ?_; rintro e wz ⟨rfl, b1⟩
    have hz := K0.out.below b1
    clear b1 R K0
    have p0 : wz.cell? ⟨w.heap.size, 0, none⟩ = some (.int .i64 key) := hz.cell (p := w.heap.size) (t := 26) (cs := (pA key A l.length cap)) (by simp) 0
    have p1 : wz.cell? ⟨w.heap.size, 1, none⟩ = some (.slice A l.length cap) := hz.cell (p := w.heap.size) (t := 26) (cs := (pA key A l.length cap)) (by simp) 1
    have q0 : wz.cell? ⟨w.heap.size + 1, 0, none⟩ = some (.int .i64 t0) := hz.cell (p := w.heap.size + 1) (t := 80) (cs := (tA t0 t1 t2 t3 t4 t5 t6 true)) (by simp) 0
    have q1 : wz.cell? ⟨w.heap.size + 1, 1, none⟩ = some (.int .i64 t1) := hz.cell (p := w.heap.size + 1) (t := 80) (cs := (tA t0 t1 t2 t3 t4 t5 t6 true)) (by simp) 1
    have q2 : wz.cell? ⟨w.heap.size + 1, 2, none⟩ = some (.int .i64 t2) := hz.cell (p := w.heap.size + 1) (t := 80) (cs := (tA t0 t1 t2 t3 t4 t5 t6 true)) (by simp) 2
    have q3 : wz.cell? ⟨w.heap.size + 1, 3, none⟩ = some (.int .i64 t3) := hz.cell (p := w.heap.size + 1) (t := 80) (cs := (tA t0 t1 t2 t3 t4 t5 t6 true)) (by simp) 3
    have q4 : wz.cell? ⟨w.heap.size + 1, 4, none⟩ = some (.int .i64 t4) := hz.cell (p := w.heap.size + 1) (t := 80) (cs := (tA t0 t1 t2 t3 t4 t5 t6 true)) (by simp) 4
    have q5 : wz.cell? ⟨w.heap.size + 1, 5, none⟩ = some (.int .i64 t5) := hz.cell (p := w.heap.size + 1) (t := 80) (cs := (tA t0 t1 t2 t3 t4 t5 t6 true)) (by simp) 5
    have q6 : wz.cell? ⟨w.heap.size + 1, 6, none⟩ = some (.int .i64 t6) := hz.cell (p := w.heap.size + 1) (t := 80) (cs := (tA t0 t1 t2 t3 t4 t5 t6 true)) (by simp) 6
    have q7 : wz.cell? ⟨w.heap.size + 1, 7, none⟩ = some (.bool true) := hz.cell (p := w.heap.size + 1) (t := 80) (cs := (tA t0 t1 t2 t3 t4 t5 t6 true)) (by simp) 7
    go_wp2_with fail
    refine (PT.out _ hz).mono ?_; rintro e wy ⟨rfl, hy⟩
    clear hz p0 p1 q0 q1 q2 q3 q4 q5 q6 q7 PT
    have s0 : wy.cell? ⟨w.heap.size + 1 + 1, 0, none⟩ = some (.int .i64 ct) := hy.cell (p := w.heap.size + 1 + 1) (t := 112) (cs := (cA ct cv)) (by simp) 0
    have s1 : wy.cell? ⟨w.heap.size + 1 + 1, 1, none⟩ = some (.int .i64 cv) := hy.cell (p := w.heap.size + 1 + 1) (t := 112) (cs := (cA ct cv)) (by simp) 1
    go_wp2_with fail
    refine (PC.out _ hy).mono ?_; rintro e wx ⟨rfl, hx⟩
    clear hy s0 s1 PC
    have q0 : wx.cell? ⟨w.heap.size + 1, 0, none⟩ = some (.int .i64 t0) := hx.cell (p := w.heap.size + 1) (t := 80) (cs := (tA t0 t1 t2 t3 t4 t5 t6 true)) (by simp) 0
    have q1 : wx.cell? ⟨w.heap.size + 1, 1, none⟩ = some (.int .i64 t1) := hx.cell (p := w.heap.size + 1) (t := 80) (cs := (tA t0 t1 t2 t3 t4 t5 t6 true)) (by simp) 1
    have q2 : wx.cell? ⟨w.heap.size + 1, 2, none⟩ = some (.int .i64 t2) := hx.cell (p := w.heap.size + 1) (t := 80) (cs := (tA t0 t1 t2 t3 t4 t5 t6 true)) (by simp) 2
    have q3 : wx.cell? ⟨w.heap.size + 1, 3, none⟩ = some (.int .i64 t3) := hx.cell (p := w.heap.size + 1) (t := 80) (cs := (tA t0 t1 t2 t3 t4 t5 t6 true)) (by simp) 3
    have q4 : wx.cell? ⟨w.heap.size + 1, 4, none⟩ = some (.int .i64 t4) := hx.cell (p := w.heap.size + 1) (t := 80) (cs := (tA t0 t1 t2 t3 t4 t5 t6 true)) (by simp) 4
    have q5 : wx.cell? ⟨w.heap.size + 1, 5, none⟩ = some (.int .i64 t5) := hx.cell (p := w.heap.size + 1) (t := 80) (cs := (tA t0 t1 t2 t3 t4 t5 t6 true)) (by simp) 5
    have q6 : wx.cell? ⟨w.heap.size + 1, 6, none⟩ = some (.int .i64 t6) := hx.cell (p := w.heap.size + 1) (t := 80) (cs := (tA t0 t1 t2 t3 t4 t5 t6 true)) (by simp) 6
    have q7 : wx.cell? ⟨w.heap.size + 1, 7, none⟩ = some (.bool true) := hx.cell (p := w.heap.size + 1) (t := 80) (cs := (tA t0 t1 t2 t3 t4 t5 t6 true)) (by simp) 7
    have s0 : wx.cell? ⟨w.heap.size + 1 + 1, 0, none⟩ = some (.int .i64 ct) := hx.cell (p := w.heap.size + 1 + 1) (t := 112) (cs := (cA ct cv)) (by simp) 0
    have s1 : wx.cell? ⟨w.heap.size + 1 + 1, 1, none⟩ = some (.int .i64 cv) := hx.cell (p := w.heap.size + 1 + 1) (t := 112) (cs := (cA ct cv)) (by simp) 1
    have r0 : wx.cell? ⟨w.heap.size + 1 + 1 + 1, 0, none⟩ = some (.int .i64 0) := hx.cell (p := w.heap.size + 1 + 1 + 1) (t := 80) (cs := zT) (by simp) 0
    have r1 : wx.cell? ⟨w.heap.size + 1 + 1 + 1, 1, none⟩ = some (.int .i64 0) := hx.cell (p := w.heap.size + 1 + 1 + 1) (t := 80) (cs := zT) (by simp) 1
    have r2 : wx.cell? ⟨w.heap.size + 1 + 1 + 1, 2, none⟩ = some (.int .i64 0) := hx.cell (p := w.heap.size + 1 + 1 + 1) (t := 80) (cs := zT) (by simp) 2
    have r3 : wx.cell? ⟨w.heap.size + 1 + 1 + 1, 3, none⟩ = some (.int .i64 0) := hx.cell (p := w.heap.size + 1 + 1 + 1) (t := 80) (cs := zT) (by simp) 3
    have r4 : wx.cell? ⟨w.heap.size + 1 + 1 + 1, 4, none⟩ = some (.int .i64 0) := hx.cell (p := w.heap.size + 1 + 1 + 1) (t := 80) (cs := zT) (by simp) 4
    have r5 : wx.cell? ⟨w.heap.size + 1 + 1 + 1, 5, none⟩ = some (.int .i64 0) := hx.cell (p := w.heap.size + 1 + 1 + 1) (t := 80) (cs := zT) (by simp) 5
    have r6 : wx.cell? ⟨w.heap.size + 1 + 1 + 1, 6, none⟩ = some (.int .i64 0) := hx.cell (p := w.heap.size + 1 + 1 + 1) (t := 80) (cs := zT) (by simp) 6
    have r7 : wx.cell? ⟨w.heap.size + 1 + 1 + 1, 7, none⟩ = some (.bool false) := hx.cell (p := w.heap.size + 1 + 1 + 1) (t := 80) (cs := zT) (by simp) 7
    have fr0 := hx.frozen (p := w.heap.size + 1 + 1 + 1) (t := 80) (cs := zT) (by simp) 0
    have fr1 := hx.frozen (p := w.heap.size + 1 + 1 + 1) (t := 80) (cs := zT) (by simp) 1
    have fr2 := hx.frozen (p := w.heap.size + 1 + 1 + 1) (t := 80) (cs := zT) (by simp) 2
    have fr3 := hx.frozen (p := w.heap.size + 1 + 1 + 1) (t := 80) (cs := zT) (by simp) 3
    have fr4 := hx.frozen (p := w.heap.size + 1 + 1 + 1) (t := 80) (cs := zT) (by simp) 4
    have fr5 := hx.frozen (p := w.heap.size + 1 + 1 + 1) (t := 80) (cs := zT) (by simp) 5
    have fr6 := hx.frozen (p := w.heap.size + 1 + 1 + 1) (t := 80) (cs := zT) (by simp) 6
    have fr7 := hx.frozen (p := w.heap.size + 1 + 1 + 1) (t := 80) (cs := zT) (by simp) 7
    have z0 : wx.cell? ⟨w.heap.size + 1 + 1 + 1 + 1, 0, none⟩ = some (.int .i64 0) := hx.cell (p := w.heap.size + 1 + 1 + 1 + 1) (t := 112) (cs := zC) (by simp) 0
    have z1 : wx.cell? ⟨w.heap.size + 1 + 1 + 1 + 1, 1, none⟩ = some (.int .i64 0) := hx.cell (p := w.heap.size + 1 + 1 + 1 + 1) (t := 112) (cs := zC) (by simp) 1
    have fz0 := hx.frozen (p := w.heap.size + 1 + 1 + 1 + 1) (t := 112) (cs := zC) (by simp) 0
    have fz1 := hx.frozen (p := w.heap.size + 1 + 1 + 1 + 1) (t := 112) (cs := zC) (by simp) 1
    have KZ := Lib.hid hx
    clear hx
    go_upto_region 5 with fail
    go_region
    all_goals
      go_wp2_with fail
      first
        | (obtain ⟨w9, e9, ⟨d0, d1, d2, d3, d4, d5, d6, d7, d8, d9⟩, hb⟩ := touch_end (x0 := .int .i64 t0) (x1 := .int .i64 t1) (x2 := .int .i64 t2) (x3 := .int .i64 t3) (x4 := .int .i64 t4) (x5 := .int .i64 t5) (x6 := .int .i64 t6) (x7 := .bool true) (y0 := .int .i64 ct) (y1 := .int .i64 cv) (KZ.out.at_ (p := w.heap.size + 1 + 1 + 1) (t := 80) (cs := zT) (by simp)) (KZ.out.at_ (p := w.heap.size + 1 + 1 + 1 + 1) (t := 112) (cs := zC) (by simp)) (by omega) KZ.out.1 (by omega) (by omega); rw [e9]; clear e9; exact bodyPost_ret (v := (.tuple #[.agg (tA t0 t1 t2 t3 t4 t5 t6 true), .agg (cA ct cv), .int .i64 0, .int .i64 2])) (by simp [results, Tryz.results101, go_sem, d0, d1, d2, d3, d4, d5, d6, d7, d8, d9]) rfl ⟨rfl, hb.drew⟩)
        | (obtain ⟨w9, e9, ⟨d0, d1, d2, d3, d4, d5, d6, d7, d8, d9⟩, hb⟩ := touch_end2 (x0 := .int .i64 t0) (x1 := .int .i64 t1) (x2 := .int .i64 t2) (x3 := .int .i64 t3) (x4 := .int .i64 t4) (x5 := .int .i64 t5) (x6 := .int .i64 t6) (x7 := .bool true) (y0 := .int .i64 ct) (y1 := .int .i64 cv) (KZ.out.at_ (p := w.heap.size + 1 + 1 + 1) (t := 80) (cs := zT) (by simp)) (KZ.out.at_ (p := w.heap.size + 1 + 1 + 1 + 1) (t := 112) (cs := zC) (by simp)) (by omega) KZ.out.1 (by omega) (by omega); rw [e9]; clear e9; exact bodyPost_ret (v := (.tuple #[.agg (tA t0 t1 t2 t3 t4 t5 t6 true), .agg (cA ct cv), .int .i64 0, .int .i64 2])) (by simp [results, Tryz.results101, go_sem, d0, d1, d2, d3, d4, d5, d6, d7, d8, d9]) rfl ⟨rfl, hb.drew⟩)
  · have HVL := Lib.hid (show true = decide (isVal value) from (decide_eq_true (by rcases hv with h | h; exact absurd h hv3; exact h)).symm)
    have hv1 : (value == -1) = false := by simpa using hv3
    have hv2 : (value != -1) = true := by simpa using hv3
    clear hv
    go_enter Tryz.func101, Tryz.ntmps101
    go_wp2_with fail
    refine (R.out _ K0.out.1).mono ?_; rintro e wz ⟨rfl, b1⟩
    have hz := K0.out.below b1
    clear b1 R K0
    have p0 : wz.cell? ⟨w.heap.size, 0, none⟩ = some (.int .i64 key) := hz.cell (p := w.heap.size) (t := 26) (cs := (pA key A l.length cap)) (by simp) 0
    have p1 : wz.cell? ⟨w.heap.size, 1, none⟩ = some (.slice A l.length cap) := hz.cell (p := w.heap.size) (t := 26) (cs := (pA key A l.length cap)) (by simp) 1
    have q0 : wz.cell? ⟨w.heap.size + 1, 0, none⟩ = some (.int .i64 t0) := hz.cell (p := w.heap.size + 1) (t := 80) (cs := (tA t0 t1 t2 t3 t4 t5 t6 true)) (by simp) 0
    have q1 : wz.cell? ⟨w.heap.size + 1, 1, none⟩ = some (.int .i64 t1) := hz.cell (p := w.heap.size + 1) (t := 80) (cs := (tA t0 t1 t2 t3 t4 t5 t6 true)) (by simp) 1
    have q2 : wz.cell? ⟨w.heap.size + 1, 2, none⟩ = some (.int .i64 t2) := hz.cell (p := w.heap.size + 1) (t := 80) (cs := (tA t0 t1 t2 t3 t4 t5 t6 true)) (by simp) 2
    have q3 : wz.cell? ⟨w.heap.size + 1, 3, none⟩ = some (.int .i64 t3) := hz.cell (p := w.heap.size + 1) (t := 80) (cs := (tA t0 t1 t2 t3 t4 t5 t6 true)) (by simp) 3
    have q4 : wz.cell? ⟨w.heap.size + 1, 4, none⟩ = some (.int .i64 t4) := hz.cell (p := w.heap.size + 1) (t := 80) (cs := (tA t0 t1 t2 t3 t4 t5 t6 true)) (by simp) 4
    have q5 : wz.cell? ⟨w.heap.size + 1, 5, none⟩ = some (.int .i64 t5) := hz.cell (p := w.heap.size + 1) (t := 80) (cs := (tA t0 t1 t2 t3 t4 t5 t6 true)) (by simp) 5
    have q6 : wz.cell? ⟨w.heap.size + 1, 6, none⟩ = some (.int .i64 t6) := hz.cell (p := w.heap.size + 1) (t := 80) (cs := (tA t0 t1 t2 t3 t4 t5 t6 true)) (by simp) 6
    have q7 : wz.cell? ⟨w.heap.size + 1, 7, none⟩ = some (.bool true) := hz.cell (p := w.heap.size + 1) (t := 80) (cs := (tA t0 t1 t2 t3 t4 t5 t6 true)) (by simp) 7
    go_wp2_with fail
    refine (PT.out _ hz).mono ?_; rintro e wy ⟨rfl, hy⟩
    clear hz p0 p1 q0 q1 q2 q3 q4 q5 q6 q7 PT
    have s0 : wy.cell? ⟨w.heap.size + 1 + 1, 0, none⟩ = some (.int .i64 ct) := hy.cell (p := w.heap.size + 1 + 1) (t := 112) (cs := (cA ct cv)) (by simp) 0
    have s1 : wy.cell? ⟨w.heap.size + 1 + 1, 1, none⟩ = some (.int .i64 cv) := hy.cell (p := w.heap.size + 1 + 1) (t := 112) (cs := (cA ct cv)) (by simp) 1
    go_wp2_with fail
    refine (PC.out _ hy).mono ?_; rintro e wx ⟨rfl, hx⟩
    clear hy s0 s1 PC
    go_wp2_with fail
    refine (l2Value_b _ _ _ HVL.out).mono ?_; rintro e w' ⟨rfl, rfl⟩
    have q0 : wx.cell? ⟨w.heap.size + 1, 0, none⟩ = some (.int .i64 t0) := hx.cell (p := w.heap.size + 1) (t := 80) (cs := (tA t0 t1 t2 t3 t4 t5 t6 true)) (by simp) 0
    have q1 : wx.cell? ⟨w.heap.size + 1, 1, none⟩ = some (.int .i64 t1) := hx.cell (p := w.heap.size + 1) (t := 80) (cs := (tA t0 t1 t2 t3 t4 t5 t6 true)) (by simp) 1
    have q2 : wx.cell? ⟨w.heap.size + 1, 2, none⟩ = some (.int .i64 t2) := hx.cell (p := w.heap.size + 1) (t := 80) (cs := (tA t0 t1 t2 t3 t4 t5 t6 true)) (by simp) 2
    have q3 : wx.cell? ⟨w.heap.size + 1, 3, none⟩ = some (.int .i64 t3) := hx.cell (p := w.heap.size + 1) (t := 80) (cs := (tA t0 t1 t2 t3 t4 t5 t6 true)) (by simp) 3
    have q4 : wx.cell? ⟨w.heap.size + 1, 4, none⟩ = some (.int .i64 t4) := hx.cell (p := w.heap.size + 1) (t := 80) (cs := (tA t0 t1 t2 t3 t4 t5 t6 true)) (by simp) 4
    have q5 : wx.cell? ⟨w.heap.size + 1, 5, none⟩ = some (.int .i64 t5) := hx.cell (p := w.heap.size + 1) (t := 80) (cs := (tA t0 t1 t2 t3 t4 t5 t6 true)) (by simp) 5
    have q6 : wx.cell? ⟨w.heap.size + 1, 6, none⟩ = some (.int .i64 t6) := hx.cell (p := w.heap.size + 1) (t := 80) (cs := (tA t0 t1 t2 t3 t4 t5 t6 true)) (by simp) 6
    have q7 : wx.cell? ⟨w.heap.size + 1, 7, none⟩ = some (.bool true) := hx.cell (p := w.heap.size + 1) (t := 80) (cs := (tA t0 t1 t2 t3 t4 t5 t6 true)) (by simp) 7
    have s0 : wx.cell? ⟨w.heap.size + 1 + 1, 0, none⟩ = some (.int .i64 ct) := hx.cell (p := w.heap.size + 1 + 1) (t := 112) (cs := (cA ct cv)) (by simp) 0
    have s1 : wx.cell? ⟨w.heap.size + 1 + 1, 1, none⟩ = some (.int .i64 cv) := hx.cell (p := w.heap.size + 1 + 1) (t := 112) (cs := (cA ct cv)) (by simp) 1
    have r0 : wx.cell? ⟨w.heap.size + 1 + 1 + 1, 0, none⟩ = some (.int .i64 0) := hx.cell (p := w.heap.size + 1 + 1 + 1) (t := 80) (cs := zT) (by simp) 0
    have r1 : wx.cell? ⟨w.heap.size + 1 + 1 + 1, 1, none⟩ = some (.int .i64 0) := hx.cell (p := w.heap.size + 1 + 1 + 1) (t := 80) (cs := zT) (by simp) 1
    have r2 : wx.cell? ⟨w.heap.size + 1 + 1 + 1, 2, none⟩ = some (.int .i64 0) := hx.cell (p := w.heap.size + 1 + 1 + 1) (t := 80) (cs := zT) (by simp) 2
    have r3 : wx.cell? ⟨w.heap.size + 1 + 1 + 1, 3, none⟩ = some (.int .i64 0) := hx.cell (p := w.heap.size + 1 + 1 + 1) (t := 80) (cs := zT) (by simp) 3
    have r4 : wx.cell? ⟨w.heap.size + 1 + 1 + 1, 4, none⟩ = some (.int .i64 0) := hx.cell (p := w.heap.size + 1 + 1 + 1) (t := 80) (cs := zT) (by simp) 4
    have r5 : wx.cell? ⟨w.heap.size + 1 + 1 + 1, 5, none⟩ = some (.int .i64 0) := hx.cell (p := w.heap.size + 1 + 1 + 1) (t := 80) (cs := zT) (by simp) 5
    have r6 : wx.cell? ⟨w.heap.size + 1 + 1 + 1, 6, none⟩ = some (.int .i64 0) := hx.cell (p := w.heap.size + 1 + 1 + 1) (t := 80) (cs := zT) (by simp) 6
    have r7 : wx.cell? ⟨w.heap.size + 1 + 1 + 1, 7, none⟩ = some (.bool false) := hx.cell (p := w.heap.size + 1 + 1 + 1) (t := 80) (cs := zT) (by simp) 7
    have fr0 := hx.frozen (p := w.heap.size + 1 + 1 + 1) (t := 80) (cs := zT) (by simp) 0
    have fr1 := hx.frozen (p := w.heap.size + 1 + 1 + 1) (t := 80) (cs := zT) (by simp) 1
    have fr2 := hx.frozen (p := w.heap.size + 1 + 1 + 1) (t := 80) (cs := zT) (by simp) 2
    have fr3 := hx.frozen (p := w.heap.size + 1 + 1 + 1) (t := 80) (cs := zT) (by simp) 3
    have fr4 := hx.frozen (p := w.heap.size + 1 + 1 + 1) (t := 80) (cs := zT) (by simp) 4
    have fr5 := hx.frozen (p := w.heap.size + 1 + 1 + 1) (t := 80) (cs := zT) (by simp) 5
    have fr6 := hx.frozen (p := w.heap.size + 1 + 1 + 1) (t := 80) (cs := zT) (by simp) 6
    have fr7 := hx.frozen (p := w.heap.size + 1 + 1 + 1) (t := 80) (cs := zT) (by simp) 7
    have z0 : wx.cell? ⟨w.heap.size + 1 + 1 + 1 + 1, 0, none⟩ = some (.int .i64 0) := hx.cell (p := w.heap.size + 1 + 1 + 1 + 1) (t := 112) (cs := zC) (by simp) 0
    have z1 : wx.cell? ⟨w.heap.size + 1 + 1 + 1 + 1, 1, none⟩ = some (.int .i64 0) := hx.cell (p := w.heap.size + 1 + 1 + 1 + 1) (t := 112) (cs := zC) (by simp) 1
    have fz0 := hx.frozen (p := w.heap.size + 1 + 1 + 1 + 1) (t := 112) (cs := zC) (by simp) 0
    have fz1 := hx.frozen (p := w.heap.size + 1 + 1 + 1 + 1) (t := 112) (cs := zC) (by simp) 1
    have KZ := Lib.hid hx
    clear hx
    go_upto_region 5 with fail
    go_region
    all_goals
      go_wp2_with fail
      first
        | (obtain ⟨w9, e9, ⟨d0, d1, d2, d3, d4, d5, d6, d7, d8, d9⟩, hb⟩ := touch_end (x0 := .int .i64 t0) (x1 := .int .i64 t1) (x2 := .int .i64 t2) (x3 := .int .i64 t3) (x4 := .int .i64 t4) (x5 := .int .i64 t5) (x6 := .int .i64 t6) (x7 := .bool true) (y0 := .int .i64 ct) (y1 := .int .i64 cv) (KZ.out.at_ (p := w.heap.size + 1 + 1 + 1) (t := 80) (cs := zT) (by simp)) (KZ.out.at_ (p := w.heap.size + 1 + 1 + 1 + 1) (t := 112) (cs := zC) (by simp)) (by omega) KZ.out.1 (by omega) (by omega); rw [e9]; clear e9; exact bodyPost_ret (v := (.tuple #[.agg (tA t0 t1 t2 t3 t4 t5 t6 true), .agg (cA ct cv), .int .i64 0, .int .i64 2])) (by simp [results, Tryz.results101, go_sem, d0, d1, d2, d3, d4, d5, d6, d7, d8, d9]) rfl ⟨rfl, hb.drew⟩)
        | (obtain ⟨w9, e9, ⟨d0, d1, d2, d3, d4, d5, d6, d7, d8, d9⟩, hb⟩ := touch_end2 (x0 := .int .i64 t0) (x1 := .int .i64 t1) (x2 := .int .i64 t2) (x3 := .int .i64 t3) (x4 := .int .i64 t4) (x5 := .int .i64 t5) (x6 := .int .i64 t6) (x7 := .bool true) (y0 := .int .i64 ct) (y1 := .int .i64 cv) (KZ.out.at_ (p := w.heap.size + 1 + 1 + 1) (t := 80) (cs := zT) (by simp)) (KZ.out.at_ (p := w.heap.size + 1 + 1 + 1 + 1) (t := 112) (cs := zC) (by simp)) (by omega) KZ.out.1 (by omega) (by omega); rw [e9]; clear e9; exact bodyPost_ret (v := (.tuple #[.agg (tA t0 t1 t2 t3 t4 t5 t6 true), .agg (cA ct cv), .int .i64 0, .int .i64 2])) (by simp [results, Tryz.results101, go_sem, d0, d1, d2, d3, d4, d5, d6, d7, d8, d9]) rfl ⟨rfl, hb.drew⟩)
set_option maxRecDepth 20000 in
set_option maxHeartbeats 4000000 in
theorem specTouched_spent (key x ct cv value : Int) (A : Option Addr) (l : List Int) (cap : Nat) (t0 t1 t2 t3 t4 t5 t6 : Int) (w : World) (hn : l.length ≤ maxLen) (hcap : l.length ≤ cap) (hA : Ints w .i64 w.heap.size A l) (hr : 0 ≤ regionOf key l x) (ht : trustOk key l (regionOf key l x) ⟨t0, t1, t2, t3, t4, t5, t6, false⟩ ) (hc : isCell ct cv) (hv : ValOk value) (hcl : 100000 ≤ t0) :
    Calls Tryz.prog 101 #[.agg (pA key A l.length cap), .agg (tA t0 t1 t2 t3 t4 t5 t6 false), .int .i64 x, .agg (cA ct cv), .int .i64 value] w fun e w' => e = .returned (.tuple #[.agg (tA t0 t1 t2 t3 t4 t5 t6 false), .agg (cA ct cv), .int .i64 0, .int .i64 3]) ∧ Below w.heap.size w w' := by
  have k0 := (((((Kept.refl w).new 26 (pA key A l.length cap)).new 80 (tA t0 t1 t2 t3 t4 t5 t6 false)).new 112 (cA ct cv)).new 80 zT).new 112 zC
  rw [show ((((w.alloc (.cells (pA key A l.length cap) 26)).alloc (.cells (tA t0 t1 t2 t3 t4 t5 t6 false) 80)).alloc (.cells (cA ct cv) 112)).alloc (.cells zT 80)).heap.size = w.heap.size + 1 + 1 + 1 + 1 by simp, show (((w.alloc (.cells (pA key A l.length cap) 26)).alloc (.cells (tA t0 t1 t2 t3 t4 t5 t6 false) 80)).alloc (.cells (cA ct cv) 112)).heap.size = w.heap.size + 1 + 1 + 1 by simp, show ((w.alloc (.cells (pA key A l.length cap) 26)).alloc (.cells (tA t0 t1 t2 t3 t4 t5 t6 false) 80)).heap.size = w.heap.size + 1 + 1 by simp, show (w.alloc (.cells (pA key A l.length cap) 26)).heap.size = w.heap.size + 1 by simp] at k0
  have R := Lib.hid (fun (u : World) (hb : Below w.heap.size w u) => specRegion_calls key x A l cap u hn hcap ((hA.below hb (Nat.le_refl _)).more hb.size))
  have TO := Lib.hid (fun (r : Int) (u : World) (h : Kept w [(w.heap.size + 1 + 1 + 1 + 1, 112, zC), (w.heap.size + 1 + 1 + 1, 80, zT), (w.heap.size + 1 + 1, 112, (cA ct cv)), (w.heap.size + 1, 80, (tA t0 t1 t2 t3 t4 t5 t6 false)), (w.heap.size, 26, (pA key A l.length cap))] u) => (specTrustOk_calls key r A l cap t0 t1 t2 t3 t4 t5 t6 false u hn ((hA.below h.1 (Nat.le_refl _)).more h.1.size)).mono (fun e w' ⟨he, hb⟩ => (⟨he, h.below hb⟩ : _ ∧ Kept w [(w.heap.size + 1 + 1 + 1 + 1, 112, zC), (w.heap.size + 1 + 1 + 1, 80, zT), (w.heap.size + 1 + 1, 112, (cA ct cv)), (w.heap.size + 1, 80, (tA t0 t1 t2 t3 t4 t5 t6 false)), (w.heap.size, 26, (pA key A l.length cap))] w')))
  have CO := Lib.hid (fun (u : World) (h : Kept w [(w.heap.size + 1 + 1 + 1 + 1, 112, zC), (w.heap.size + 1 + 1 + 1, 80, zT), (w.heap.size + 1 + 1, 112, (cA ct cv)), (w.heap.size + 1, 80, (tA t0 t1 t2 t3 t4 t5 t6 false)), (w.heap.size, 26, (pA key A l.length cap))] u) => (specCellOk_calls ct cv u).mono (fun e w' ⟨he, hb⟩ => (⟨he, h.below hb⟩ : _ ∧ Kept w [(w.heap.size + 1 + 1 + 1 + 1, 112, zC), (w.heap.size + 1 + 1 + 1, 80, zT), (w.heap.size + 1 + 1, 112, (cA ct cv)), (w.heap.size + 1, 80, (tA t0 t1 t2 t3 t4 t5 t6 false)), (w.heap.size, 26, (pA key A l.length cap))] w')))
  have K0 := Lib.hid k0
  clear k0
  clear hA
  have hd : decide (regionOf key l x < 0) = false := decide_eq_false (by omega)
  have PT := Lib.hid (TO.out (regionOf key l x))
  rw [trustB_yes ht] at PT
  have PC := CO
  rw [decide_eq_true hc] at PC
  have htm := ht.2.2.1
  generalize regionOf key l x = r at R hd PT
  clear hr ht hc TO CO
  unfold isTm at htm
  by_cases hv3 : value = -1
  · subst hv3
    clear hv
    go_enter Tryz.func101, Tryz.ntmps101
    go_wp2_with fail
    refine (R.out _ K0.out.1).mono ?_; rintro e wz ⟨rfl, b1⟩
    have hz := K0.out.below b1
    clear b1 R K0
    have p0 : wz.cell? ⟨w.heap.size, 0, none⟩ = some (.int .i64 key) := hz.cell (p := w.heap.size) (t := 26) (cs := (pA key A l.length cap)) (by simp) 0
    have p1 : wz.cell? ⟨w.heap.size, 1, none⟩ = some (.slice A l.length cap) := hz.cell (p := w.heap.size) (t := 26) (cs := (pA key A l.length cap)) (by simp) 1
    have q0 : wz.cell? ⟨w.heap.size + 1, 0, none⟩ = some (.int .i64 t0) := hz.cell (p := w.heap.size + 1) (t := 80) (cs := (tA t0 t1 t2 t3 t4 t5 t6 false)) (by simp) 0
    have q1 : wz.cell? ⟨w.heap.size + 1, 1, none⟩ = some (.int .i64 t1) := hz.cell (p := w.heap.size + 1) (t := 80) (cs := (tA t0 t1 t2 t3 t4 t5 t6 false)) (by simp) 1
    have q2 : wz.cell? ⟨w.heap.size + 1, 2, none⟩ = some (.int .i64 t2) := hz.cell (p := w.heap.size + 1) (t := 80) (cs := (tA t0 t1 t2 t3 t4 t5 t6 false)) (by simp) 2
    have q3 : wz.cell? ⟨w.heap.size + 1, 3, none⟩ = some (.int .i64 t3) := hz.cell (p := w.heap.size + 1) (t := 80) (cs := (tA t0 t1 t2 t3 t4 t5 t6 false)) (by simp) 3
    have q4 : wz.cell? ⟨w.heap.size + 1, 4, none⟩ = some (.int .i64 t4) := hz.cell (p := w.heap.size + 1) (t := 80) (cs := (tA t0 t1 t2 t3 t4 t5 t6 false)) (by simp) 4
    have q5 : wz.cell? ⟨w.heap.size + 1, 5, none⟩ = some (.int .i64 t5) := hz.cell (p := w.heap.size + 1) (t := 80) (cs := (tA t0 t1 t2 t3 t4 t5 t6 false)) (by simp) 5
    have q6 : wz.cell? ⟨w.heap.size + 1, 6, none⟩ = some (.int .i64 t6) := hz.cell (p := w.heap.size + 1) (t := 80) (cs := (tA t0 t1 t2 t3 t4 t5 t6 false)) (by simp) 6
    have q7 : wz.cell? ⟨w.heap.size + 1, 7, none⟩ = some (.bool false) := hz.cell (p := w.heap.size + 1) (t := 80) (cs := (tA t0 t1 t2 t3 t4 t5 t6 false)) (by simp) 7
    go_wp2_with fail
    refine (PT.out _ hz).mono ?_; rintro e wy ⟨rfl, hy⟩
    clear hz p0 p1 q0 q1 q2 q3 q4 q5 q6 q7 PT
    have s0 : wy.cell? ⟨w.heap.size + 1 + 1, 0, none⟩ = some (.int .i64 ct) := hy.cell (p := w.heap.size + 1 + 1) (t := 112) (cs := (cA ct cv)) (by simp) 0
    have s1 : wy.cell? ⟨w.heap.size + 1 + 1, 1, none⟩ = some (.int .i64 cv) := hy.cell (p := w.heap.size + 1 + 1) (t := 112) (cs := (cA ct cv)) (by simp) 1
    go_wp2_with fail
    refine (PC.out _ hy).mono ?_; rintro e wx ⟨rfl, hx⟩
    clear hy s0 s1 PC
    have q0 : wx.cell? ⟨w.heap.size + 1, 0, none⟩ = some (.int .i64 t0) := hx.cell (p := w.heap.size + 1) (t := 80) (cs := (tA t0 t1 t2 t3 t4 t5 t6 false)) (by simp) 0
    have q1 : wx.cell? ⟨w.heap.size + 1, 1, none⟩ = some (.int .i64 t1) := hx.cell (p := w.heap.size + 1) (t := 80) (cs := (tA t0 t1 t2 t3 t4 t5 t6 false)) (by simp) 1
    have q2 : wx.cell? ⟨w.heap.size + 1, 2, none⟩ = some (.int .i64 t2) := hx.cell (p := w.heap.size + 1) (t := 80) (cs := (tA t0 t1 t2 t3 t4 t5 t6 false)) (by simp) 2
    have q3 : wx.cell? ⟨w.heap.size + 1, 3, none⟩ = some (.int .i64 t3) := hx.cell (p := w.heap.size + 1) (t := 80) (cs := (tA t0 t1 t2 t3 t4 t5 t6 false)) (by simp) 3
    have q4 : wx.cell? ⟨w.heap.size + 1, 4, none⟩ = some (.int .i64 t4) := hx.cell (p := w.heap.size + 1) (t := 80) (cs := (tA t0 t1 t2 t3 t4 t5 t6 false)) (by simp) 4
    have q5 : wx.cell? ⟨w.heap.size + 1, 5, none⟩ = some (.int .i64 t5) := hx.cell (p := w.heap.size + 1) (t := 80) (cs := (tA t0 t1 t2 t3 t4 t5 t6 false)) (by simp) 5
    have q6 : wx.cell? ⟨w.heap.size + 1, 6, none⟩ = some (.int .i64 t6) := hx.cell (p := w.heap.size + 1) (t := 80) (cs := (tA t0 t1 t2 t3 t4 t5 t6 false)) (by simp) 6
    have q7 : wx.cell? ⟨w.heap.size + 1, 7, none⟩ = some (.bool false) := hx.cell (p := w.heap.size + 1) (t := 80) (cs := (tA t0 t1 t2 t3 t4 t5 t6 false)) (by simp) 7
    have s0 : wx.cell? ⟨w.heap.size + 1 + 1, 0, none⟩ = some (.int .i64 ct) := hx.cell (p := w.heap.size + 1 + 1) (t := 112) (cs := (cA ct cv)) (by simp) 0
    have s1 : wx.cell? ⟨w.heap.size + 1 + 1, 1, none⟩ = some (.int .i64 cv) := hx.cell (p := w.heap.size + 1 + 1) (t := 112) (cs := (cA ct cv)) (by simp) 1
    have r0 : wx.cell? ⟨w.heap.size + 1 + 1 + 1, 0, none⟩ = some (.int .i64 0) := hx.cell (p := w.heap.size + 1 + 1 + 1) (t := 80) (cs := zT) (by simp) 0
    have r1 : wx.cell? ⟨w.heap.size + 1 + 1 + 1, 1, none⟩ = some (.int .i64 0) := hx.cell (p := w.heap.size + 1 + 1 + 1) (t := 80) (cs := zT) (by simp) 1
    have r2 : wx.cell? ⟨w.heap.size + 1 + 1 + 1, 2, none⟩ = some (.int .i64 0) := hx.cell (p := w.heap.size + 1 + 1 + 1) (t := 80) (cs := zT) (by simp) 2
    have r3 : wx.cell? ⟨w.heap.size + 1 + 1 + 1, 3, none⟩ = some (.int .i64 0) := hx.cell (p := w.heap.size + 1 + 1 + 1) (t := 80) (cs := zT) (by simp) 3
    have r4 : wx.cell? ⟨w.heap.size + 1 + 1 + 1, 4, none⟩ = some (.int .i64 0) := hx.cell (p := w.heap.size + 1 + 1 + 1) (t := 80) (cs := zT) (by simp) 4
    have r5 : wx.cell? ⟨w.heap.size + 1 + 1 + 1, 5, none⟩ = some (.int .i64 0) := hx.cell (p := w.heap.size + 1 + 1 + 1) (t := 80) (cs := zT) (by simp) 5
    have r6 : wx.cell? ⟨w.heap.size + 1 + 1 + 1, 6, none⟩ = some (.int .i64 0) := hx.cell (p := w.heap.size + 1 + 1 + 1) (t := 80) (cs := zT) (by simp) 6
    have r7 : wx.cell? ⟨w.heap.size + 1 + 1 + 1, 7, none⟩ = some (.bool false) := hx.cell (p := w.heap.size + 1 + 1 + 1) (t := 80) (cs := zT) (by simp) 7
    have fr0 := hx.frozen (p := w.heap.size + 1 + 1 + 1) (t := 80) (cs := zT) (by simp) 0
    have fr1 := hx.frozen (p := w.heap.size + 1 + 1 + 1) (t := 80) (cs := zT) (by simp) 1
    have fr2 := hx.frozen (p := w.heap.size + 1 + 1 + 1) (t := 80) (cs := zT) (by simp) 2
    have fr3 := hx.frozen (p := w.heap.size + 1 + 1 + 1) (t := 80) (cs := zT) (by simp) 3
    have fr4 := hx.frozen (p := w.heap.size + 1 + 1 + 1) (t := 80) (cs := zT) (by simp) 4
    have fr5 := hx.frozen (p := w.heap.size + 1 + 1 + 1) (t := 80) (cs := zT) (by simp) 5
    have fr6 := hx.frozen (p := w.heap.size + 1 + 1 + 1) (t := 80) (cs := zT) (by simp) 6
    have fr7 := hx.frozen (p := w.heap.size + 1 + 1 + 1) (t := 80) (cs := zT) (by simp) 7
    have z0 : wx.cell? ⟨w.heap.size + 1 + 1 + 1 + 1, 0, none⟩ = some (.int .i64 0) := hx.cell (p := w.heap.size + 1 + 1 + 1 + 1) (t := 112) (cs := zC) (by simp) 0
    have z1 : wx.cell? ⟨w.heap.size + 1 + 1 + 1 + 1, 1, none⟩ = some (.int .i64 0) := hx.cell (p := w.heap.size + 1 + 1 + 1 + 1) (t := 112) (cs := zC) (by simp) 1
    have fz0 := hx.frozen (p := w.heap.size + 1 + 1 + 1 + 1) (t := 112) (cs := zC) (by simp) 0
    have fz1 := hx.frozen (p := w.heap.size + 1 + 1 + 1 + 1) (t := 112) (cs := zC) (by simp) 1
    have KZ := Lib.hid hx
    clear hx
    go_upto_region 7 with fail
    go_region
    all_goals
      go_wp2_with fail
      first
        | (obtain ⟨w9, e9, ⟨d0, d1, d2, d3, d4, d5, d6, d7, d8, d9⟩, hb⟩ := touch_end (x0 := .int .i64 t0) (x1 := .int .i64 t1) (x2 := .int .i64 t2) (x3 := .int .i64 t3) (x4 := .int .i64 t4) (x5 := .int .i64 t5) (x6 := .int .i64 t6) (x7 := .bool false) (y0 := .int .i64 ct) (y1 := .int .i64 cv) (KZ.out.at_ (p := w.heap.size + 1 + 1 + 1) (t := 80) (cs := zT) (by simp)) (KZ.out.at_ (p := w.heap.size + 1 + 1 + 1 + 1) (t := 112) (cs := zC) (by simp)) (by omega) KZ.out.1 (by omega) (by omega); rw [e9]; clear e9; exact bodyPost_ret (v := (.tuple #[.agg (tA t0 t1 t2 t3 t4 t5 t6 false), .agg (cA ct cv), .int .i64 0, .int .i64 3])) (by simp [results, Tryz.results101, go_sem, d0, d1, d2, d3, d4, d5, d6, d7, d8, d9]) rfl ⟨rfl, hb.drew⟩)
        | (obtain ⟨w9, e9, ⟨d0, d1, d2, d3, d4, d5, d6, d7, d8, d9⟩, hb⟩ := touch_end2 (x0 := .int .i64 t0) (x1 := .int .i64 t1) (x2 := .int .i64 t2) (x3 := .int .i64 t3) (x4 := .int .i64 t4) (x5 := .int .i64 t5) (x6 := .int .i64 t6) (x7 := .bool false) (y0 := .int .i64 ct) (y1 := .int .i64 cv) (KZ.out.at_ (p := w.heap.size + 1 + 1 + 1) (t := 80) (cs := zT) (by simp)) (KZ.out.at_ (p := w.heap.size + 1 + 1 + 1 + 1) (t := 112) (cs := zC) (by simp)) (by omega) KZ.out.1 (by omega) (by omega); rw [e9]; clear e9; exact bodyPost_ret (v := (.tuple #[.agg (tA t0 t1 t2 t3 t4 t5 t6 false), .agg (cA ct cv), .int .i64 0, .int .i64 3])) (by simp [results, Tryz.results101, go_sem, d0, d1, d2, d3, d4, d5, d6, d7, d8, d9]) rfl ⟨rfl, hb.drew⟩)
  · have HVL := Lib.hid (show true = decide (isVal value) from (decide_eq_true (by rcases hv with h | h; exact absurd h hv3; exact h)).symm)
    have hv1 : (value == -1) = false := by simpa using hv3
    have hv2 : (value != -1) = true := by simpa using hv3
    clear hv
    go_enter Tryz.func101, Tryz.ntmps101
    go_wp2_with fail
    refine (R.out _ K0.out.1).mono ?_; rintro e wz ⟨rfl, b1⟩
    have hz := K0.out.below b1
    clear b1 R K0
    have p0 : wz.cell? ⟨w.heap.size, 0, none⟩ = some (.int .i64 key) := hz.cell (p := w.heap.size) (t := 26) (cs := (pA key A l.length cap)) (by simp) 0
    have p1 : wz.cell? ⟨w.heap.size, 1, none⟩ = some (.slice A l.length cap) := hz.cell (p := w.heap.size) (t := 26) (cs := (pA key A l.length cap)) (by simp) 1
    have q0 : wz.cell? ⟨w.heap.size + 1, 0, none⟩ = some (.int .i64 t0) := hz.cell (p := w.heap.size + 1) (t := 80) (cs := (tA t0 t1 t2 t3 t4 t5 t6 false)) (by simp) 0
    have q1 : wz.cell? ⟨w.heap.size + 1, 1, none⟩ = some (.int .i64 t1) := hz.cell (p := w.heap.size + 1) (t := 80) (cs := (tA t0 t1 t2 t3 t4 t5 t6 false)) (by simp) 1
    have q2 : wz.cell? ⟨w.heap.size + 1, 2, none⟩ = some (.int .i64 t2) := hz.cell (p := w.heap.size + 1) (t := 80) (cs := (tA t0 t1 t2 t3 t4 t5 t6 false)) (by simp) 2
    have q3 : wz.cell? ⟨w.heap.size + 1, 3, none⟩ = some (.int .i64 t3) := hz.cell (p := w.heap.size + 1) (t := 80) (cs := (tA t0 t1 t2 t3 t4 t5 t6 false)) (by simp) 3
    have q4 : wz.cell? ⟨w.heap.size + 1, 4, none⟩ = some (.int .i64 t4) := hz.cell (p := w.heap.size + 1) (t := 80) (cs := (tA t0 t1 t2 t3 t4 t5 t6 false)) (by simp) 4
    have q5 : wz.cell? ⟨w.heap.size + 1, 5, none⟩ = some (.int .i64 t5) := hz.cell (p := w.heap.size + 1) (t := 80) (cs := (tA t0 t1 t2 t3 t4 t5 t6 false)) (by simp) 5
    have q6 : wz.cell? ⟨w.heap.size + 1, 6, none⟩ = some (.int .i64 t6) := hz.cell (p := w.heap.size + 1) (t := 80) (cs := (tA t0 t1 t2 t3 t4 t5 t6 false)) (by simp) 6
    have q7 : wz.cell? ⟨w.heap.size + 1, 7, none⟩ = some (.bool false) := hz.cell (p := w.heap.size + 1) (t := 80) (cs := (tA t0 t1 t2 t3 t4 t5 t6 false)) (by simp) 7
    go_wp2_with fail
    refine (PT.out _ hz).mono ?_; rintro e wy ⟨rfl, hy⟩
    clear hz p0 p1 q0 q1 q2 q3 q4 q5 q6 q7 PT
    have s0 : wy.cell? ⟨w.heap.size + 1 + 1, 0, none⟩ = some (.int .i64 ct) := hy.cell (p := w.heap.size + 1 + 1) (t := 112) (cs := (cA ct cv)) (by simp) 0
    have s1 : wy.cell? ⟨w.heap.size + 1 + 1, 1, none⟩ = some (.int .i64 cv) := hy.cell (p := w.heap.size + 1 + 1) (t := 112) (cs := (cA ct cv)) (by simp) 1
    go_wp2_with fail
    refine (PC.out _ hy).mono ?_; rintro e wx ⟨rfl, hx⟩
    clear hy s0 s1 PC
    go_wp2_with fail
    refine (l2Value_b _ _ _ HVL.out).mono ?_; rintro e w' ⟨rfl, rfl⟩
    have q0 : wx.cell? ⟨w.heap.size + 1, 0, none⟩ = some (.int .i64 t0) := hx.cell (p := w.heap.size + 1) (t := 80) (cs := (tA t0 t1 t2 t3 t4 t5 t6 false)) (by simp) 0
    have q1 : wx.cell? ⟨w.heap.size + 1, 1, none⟩ = some (.int .i64 t1) := hx.cell (p := w.heap.size + 1) (t := 80) (cs := (tA t0 t1 t2 t3 t4 t5 t6 false)) (by simp) 1
    have q2 : wx.cell? ⟨w.heap.size + 1, 2, none⟩ = some (.int .i64 t2) := hx.cell (p := w.heap.size + 1) (t := 80) (cs := (tA t0 t1 t2 t3 t4 t5 t6 false)) (by simp) 2
    have q3 : wx.cell? ⟨w.heap.size + 1, 3, none⟩ = some (.int .i64 t3) := hx.cell (p := w.heap.size + 1) (t := 80) (cs := (tA t0 t1 t2 t3 t4 t5 t6 false)) (by simp) 3
    have q4 : wx.cell? ⟨w.heap.size + 1, 4, none⟩ = some (.int .i64 t4) := hx.cell (p := w.heap.size + 1) (t := 80) (cs := (tA t0 t1 t2 t3 t4 t5 t6 false)) (by simp) 4
    have q5 : wx.cell? ⟨w.heap.size + 1, 5, none⟩ = some (.int .i64 t5) := hx.cell (p := w.heap.size + 1) (t := 80) (cs := (tA t0 t1 t2 t3 t4 t5 t6 false)) (by simp) 5
    have q6 : wx.cell? ⟨w.heap.size + 1, 6, none⟩ = some (.int .i64 t6) := hx.cell (p := w.heap.size + 1) (t := 80) (cs := (tA t0 t1 t2 t3 t4 t5 t6 false)) (by simp) 6
    have q7 : wx.cell? ⟨w.heap.size + 1, 7, none⟩ = some (.bool false) := hx.cell (p := w.heap.size + 1) (t := 80) (cs := (tA t0 t1 t2 t3 t4 t5 t6 false)) (by simp) 7
    have s0 : wx.cell? ⟨w.heap.size + 1 + 1, 0, none⟩ = some (.int .i64 ct) := hx.cell (p := w.heap.size + 1 + 1) (t := 112) (cs := (cA ct cv)) (by simp) 0
    have s1 : wx.cell? ⟨w.heap.size + 1 + 1, 1, none⟩ = some (.int .i64 cv) := hx.cell (p := w.heap.size + 1 + 1) (t := 112) (cs := (cA ct cv)) (by simp) 1
    have r0 : wx.cell? ⟨w.heap.size + 1 + 1 + 1, 0, none⟩ = some (.int .i64 0) := hx.cell (p := w.heap.size + 1 + 1 + 1) (t := 80) (cs := zT) (by simp) 0
    have r1 : wx.cell? ⟨w.heap.size + 1 + 1 + 1, 1, none⟩ = some (.int .i64 0) := hx.cell (p := w.heap.size + 1 + 1 + 1) (t := 80) (cs := zT) (by simp) 1
    have r2 : wx.cell? ⟨w.heap.size + 1 + 1 + 1, 2, none⟩ = some (.int .i64 0) := hx.cell (p := w.heap.size + 1 + 1 + 1) (t := 80) (cs := zT) (by simp) 2
    have r3 : wx.cell? ⟨w.heap.size + 1 + 1 + 1, 3, none⟩ = some (.int .i64 0) := hx.cell (p := w.heap.size + 1 + 1 + 1) (t := 80) (cs := zT) (by simp) 3
    have r4 : wx.cell? ⟨w.heap.size + 1 + 1 + 1, 4, none⟩ = some (.int .i64 0) := hx.cell (p := w.heap.size + 1 + 1 + 1) (t := 80) (cs := zT) (by simp) 4
    have r5 : wx.cell? ⟨w.heap.size + 1 + 1 + 1, 5, none⟩ = some (.int .i64 0) := hx.cell (p := w.heap.size + 1 + 1 + 1) (t := 80) (cs := zT) (by simp) 5
    have r6 : wx.cell? ⟨w.heap.size + 1 + 1 + 1, 6, none⟩ = some (.int .i64 0) := hx.cell (p := w.heap.size + 1 + 1 + 1) (t := 80) (cs := zT) (by simp) 6
    have r7 : wx.cell? ⟨w.heap.size + 1 + 1 + 1, 7, none⟩ = some (.bool false) := hx.cell (p := w.heap.size + 1 + 1 + 1) (t := 80) (cs := zT) (by simp) 7
    have fr0 := hx.frozen (p := w.heap.size + 1 + 1 + 1) (t := 80) (cs := zT) (by simp) 0
    have fr1 := hx.frozen (p := w.heap.size + 1 + 1 + 1) (t := 80) (cs := zT) (by simp) 1
    have fr2 := hx.frozen (p := w.heap.size + 1 + 1 + 1) (t := 80) (cs := zT) (by simp) 2
    have fr3 := hx.frozen (p := w.heap.size + 1 + 1 + 1) (t := 80) (cs := zT) (by simp) 3
    have fr4 := hx.frozen (p := w.heap.size + 1 + 1 + 1) (t := 80) (cs := zT) (by simp) 4
    have fr5 := hx.frozen (p := w.heap.size + 1 + 1 + 1) (t := 80) (cs := zT) (by simp) 5
    have fr6 := hx.frozen (p := w.heap.size + 1 + 1 + 1) (t := 80) (cs := zT) (by simp) 6
    have fr7 := hx.frozen (p := w.heap.size + 1 + 1 + 1) (t := 80) (cs := zT) (by simp) 7
    have z0 : wx.cell? ⟨w.heap.size + 1 + 1 + 1 + 1, 0, none⟩ = some (.int .i64 0) := hx.cell (p := w.heap.size + 1 + 1 + 1 + 1) (t := 112) (cs := zC) (by simp) 0
    have z1 : wx.cell? ⟨w.heap.size + 1 + 1 + 1 + 1, 1, none⟩ = some (.int .i64 0) := hx.cell (p := w.heap.size + 1 + 1 + 1 + 1) (t := 112) (cs := zC) (by simp) 1
    have fz0 := hx.frozen (p := w.heap.size + 1 + 1 + 1 + 1) (t := 112) (cs := zC) (by simp) 0
    have fz1 := hx.frozen (p := w.heap.size + 1 + 1 + 1 + 1) (t := 112) (cs := zC) (by simp) 1
    have KZ := Lib.hid hx
    clear hx
    go_upto_region 7 with fail
    go_region
    all_goals
      go_wp2_with fail
      first
        | (obtain ⟨w9, e9, ⟨d0, d1, d2, d3, d4, d5, d6, d7, d8, d9⟩, hb⟩ := touch_end (x0 := .int .i64 t0) (x1 := .int .i64 t1) (x2 := .int .i64 t2) (x3 := .int .i64 t3) (x4 := .int .i64 t4) (x5 := .int .i64 t5) (x6 := .int .i64 t6) (x7 := .bool false) (y0 := .int .i64 ct) (y1 := .int .i64 cv) (KZ.out.at_ (p := w.heap.size + 1 + 1 + 1) (t := 80) (cs := zT) (by simp)) (KZ.out.at_ (p := w.heap.size + 1 + 1 + 1 + 1) (t := 112) (cs := zC) (by simp)) (by omega) KZ.out.1 (by omega) (by omega); rw [e9]; clear e9; exact bodyPost_ret (v := (.tuple #[.agg (tA t0 t1 t2 t3 t4 t5 t6 false), .agg (cA ct cv), .int .i64 0, .int .i64 3])) (by simp [results, Tryz.results101, go_sem, d0, d1, d2, d3, d4, d5, d6, d7, d8, d9]) rfl ⟨rfl, hb.drew⟩)
        | (obtain ⟨w9, e9, ⟨d0, d1, d2, d3, d4, d5, d6, d7, d8, d9⟩, hb⟩ := touch_end2 (x0 := .int .i64 t0) (x1 := .int .i64 t1) (x2 := .int .i64 t2) (x3 := .int .i64 t3) (x4 := .int .i64 t4) (x5 := .int .i64 t5) (x6 := .int .i64 t6) (x7 := .bool false) (y0 := .int .i64 ct) (y1 := .int .i64 cv) (KZ.out.at_ (p := w.heap.size + 1 + 1 + 1) (t := 80) (cs := zT) (by simp)) (KZ.out.at_ (p := w.heap.size + 1 + 1 + 1 + 1) (t := 112) (cs := zC) (by simp)) (by omega) KZ.out.1 (by omega) (by omega); rw [e9]; clear e9; exact bodyPost_ret (v := (.tuple #[.agg (tA t0 t1 t2 t3 t4 t5 t6 false), .agg (cA ct cv), .int .i64 0, .int .i64 3])) (by simp [results, Tryz.results101, go_sem, d0, d1, d2, d3, d4, d5, d6, d7, d8, d9]) rfl ⟨rfl, hb.drew⟩)
end Go.Proofs.YtgaecedhkbneaaaGreatDoor.Mx

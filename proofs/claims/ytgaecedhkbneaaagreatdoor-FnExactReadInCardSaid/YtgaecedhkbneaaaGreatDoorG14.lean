import Derived.Test.YtgaecedhkbneaaaGreatDoorG13
import Derived.Test.YtgaecedhkbneaaaGreatDoorG04
import Derived.Deep.RegionHeld3
namespace Go.Proofs.YtgaecedhkbneaaaGreatDoor.Mx
open Go.ChangeShapes Go.WideShapes Go.ChangeAt Go.RowKit
set_option linter.unusedVariables false
theorem cells_end {w w1 : World} {q : Nat} {y0 y1 s0 s1 : Value} (hq : CellsAt w1 q 112 #[s0, s1]) : CellsAt ((w1.setCell ⟨q, 0, none⟩ y0).setCell ⟨q, 1, none⟩ y1) q 112 #[y0, y1] := by
  have h := (hq.set_ 0 y0).set_ 1 y1
  simp only [List.setIfInBounds_toArray, List.set_cons_zero, List.set_cons_succ] at h
  exact h
theorem touch_end {w w1 : World} {r q : Nat} {x0 x1 x2 x3 x4 x5 x6 x7 z0 z1 z2 z3 z4 z5 z6 z7 y0 y1 s0 s1 : Value} (hk : CellsAt w1 r 80 #[z0, z1, z2, z3, z4, z5, z6, z7]) (hq : CellsAt w1 q 112 #[s0, s1]) (hne : r ≠ q) (hb : Below w.heap.size w w1) (hr : w.heap.size ≤ r) (hr' : w.heap.size ≤ q) :
    ∃ w4, ((((((((((w1.setCell ⟨r, 0, none⟩ x0).setCell ⟨r, 1, none⟩ x1).setCell ⟨r, 2, none⟩ x2).setCell ⟨r, 3, none⟩ x3).setCell ⟨r, 4, none⟩ x4).setCell ⟨r, 5, none⟩ x5).setCell ⟨r, 6, none⟩ x6).setCell ⟨r, 7, none⟩ x7).setCell ⟨q, 0, none⟩ y0).setCell ⟨q, 1, none⟩ y1) = w4 ∧ (w4.cell? ⟨r, 0, none⟩ = some x0 ∧ w4.cell? ⟨r, 1, none⟩ = some x1 ∧ w4.cell? ⟨r, 2, none⟩ = some x2 ∧ w4.cell? ⟨r, 3, none⟩ = some x3 ∧ w4.cell? ⟨r, 4, none⟩ = some x4 ∧ w4.cell? ⟨r, 5, none⟩ = some x5 ∧ w4.cell? ⟨r, 6, none⟩ = some x6 ∧ w4.cell? ⟨r, 7, none⟩ = some x7 ∧ w4.cell? ⟨q, 0, none⟩ = some y0 ∧ w4.cell? ⟨q, 1, none⟩ = some y1) ∧ Below w.heap.size w w4 := by
  obtain ⟨w2, e2, -, h2, b2, g2⟩ := trust_end (x0 := x0) (x1 := x1) (x2 := x2) (x3 := x3) (x4 := x4) (x5 := x5) (x6 := x6) (x7 := x7) hk hb hr
  rw [e2]
  have hq2 := cells_end (w := w) (y0 := y0) (y1 := y1) (hq.grown g2 (by intro e; injection e with e; exact hne e.symm))
  have h3 := (h2.grown (gb_set (gb_refl w2 (some q)) 0 y0) (by intro e; injection e with e; exact hne e)).grown (gb_set (gb_refl _ (some q)) 1 y1) (by intro e; injection e with e; exact hne e)
  refine ⟨_, rfl, ?_, (b2.setCell (p := ⟨q, 0, none⟩) hr' y0).setCell (p := ⟨q, 1, none⟩) hr' y1⟩
  generalize World.setCell _ _ _ = w4 at hq2 h3 ⊢
  exact ⟨h3.cell 0, h3.cell 1, h3.cell 2, h3.cell 3, h3.cell 4, h3.cell 5, h3.cell 6, h3.cell 7, hq2.cell 0, hq2.cell 1⟩
def ValOk (value : Int) : Prop := value = -1 ∨ isVal value
def touchOk (key : Int) (l : List Int) (t : Tru) (x ct cv value : Int) : Prop := 0 ≤ regionOf key l x ∧ trustOk key l (regionOf key l x) t ∧ isCell ct cv ∧ ValOk value
theorem l2Value_b (s : Int) (z : Bool) (w : World) (h : z = decide (isVal s)) :
    Calls Tryz.prog 98 #[.int .i64 s] w fun e w' => e = .returned (.bool z) ∧ w = w' := by
  subst h
  by_cases hc : isVal s
  · rw [decide_eq_true hc]; exact l2Value_yes s w hc
  · rw [decide_eq_false hc]; exact l2Value_no s w hc
set_option maxRecDepth 20000 in
set_option maxHeartbeats 4000000 in
theorem specTouched_bad (key x ct cv value : Int) (A : Option Addr) (l : List Int) (cap : Nat) (t0 t1 t2 t3 t4 t5 t6 : Int) (t7 : Bool) (w : World) (hn : l.length ≤ maxLen) (hcap : l.length ≤ cap) (hA : Ints w .i64 w.heap.size A l) (h : ¬ touchOk key l ⟨t0, t1, t2, t3, t4, t5, t6, t7⟩ x ct cv value) :
    Calls Tryz.prog 101 #[.agg (pA key A l.length cap), .agg (tA t0 t1 t2 t3 t4 t5 t6 t7), .int .i64 x, .agg (cA ct cv), .int .i64 value] w fun e w' => e = .returned (.tuple #[.agg zT, .agg zC, .int .i64 0, .int .i64 1]) ∧ Below w.heap.size w w' := by
  have k0 := (((((Kept.refl w).new 26 (pA key A l.length cap)).new 80 (tA t0 t1 t2 t3 t4 t5 t6 t7)).new 112 (cA ct cv)).new 80 zT).new 112 zC
  rw [show ((((w.alloc (.cells (pA key A l.length cap) 26)).alloc (.cells (tA t0 t1 t2 t3 t4 t5 t6 t7) 80)).alloc (.cells (cA ct cv) 112)).alloc (.cells zT 80)).heap.size = w.heap.size + 1 + 1 + 1 + 1 by simp, show (((w.alloc (.cells (pA key A l.length cap) 26)).alloc (.cells (tA t0 t1 t2 t3 t4 t5 t6 t7) 80)).alloc (.cells (cA ct cv) 112)).heap.size = w.heap.size + 1 + 1 + 1 by simp, show ((w.alloc (.cells (pA key A l.length cap) 26)).alloc (.cells (tA t0 t1 t2 t3 t4 t5 t6 t7) 80)).heap.size = w.heap.size + 1 + 1 by simp, show (w.alloc (.cells (pA key A l.length cap) 26)).heap.size = w.heap.size + 1 by simp] at k0
  have R := Lib.hid (fun (u : World) (hb : Below w.heap.size w u) => specRegion_calls key x A l cap u hn hcap ((hA.below hb (Nat.le_refl _)).more hb.size))
  have TO := Lib.hid (fun (r : Int) (u : World) (h : Kept w [(w.heap.size + 1 + 1 + 1 + 1, 112, zC), (w.heap.size + 1 + 1 + 1, 80, zT), (w.heap.size + 1 + 1, 112, (cA ct cv)), (w.heap.size + 1, 80, (tA t0 t1 t2 t3 t4 t5 t6 t7)), (w.heap.size, 26, (pA key A l.length cap))] u) => (specTrustOk_calls key r A l cap t0 t1 t2 t3 t4 t5 t6 t7 u hn ((hA.below h.1 (Nat.le_refl _)).more h.1.size)).mono (fun e w' ⟨he, hb⟩ => (⟨he, h.below hb⟩ : _ ∧ Kept w [(w.heap.size + 1 + 1 + 1 + 1, 112, zC), (w.heap.size + 1 + 1 + 1, 80, zT), (w.heap.size + 1 + 1, 112, (cA ct cv)), (w.heap.size + 1, 80, (tA t0 t1 t2 t3 t4 t5 t6 t7)), (w.heap.size, 26, (pA key A l.length cap))] w')))
  have CO := Lib.hid (fun (u : World) (h : Kept w [(w.heap.size + 1 + 1 + 1 + 1, 112, zC), (w.heap.size + 1 + 1 + 1, 80, zT), (w.heap.size + 1 + 1, 112, (cA ct cv)), (w.heap.size + 1, 80, (tA t0 t1 t2 t3 t4 t5 t6 t7)), (w.heap.size, 26, (pA key A l.length cap))] u) => (specCellOk_calls ct cv u).mono (fun e w' ⟨he, hb⟩ => (⟨he, h.below hb⟩ : _ ∧ Kept w [(w.heap.size + 1 + 1 + 1 + 1, 112, zC), (w.heap.size + 1 + 1 + 1, 80, zT), (w.heap.size + 1 + 1, 112, (cA ct cv)), (w.heap.size + 1, 80, (tA t0 t1 t2 t3 t4 t5 t6 t7)), (w.heap.size, 26, (pA key A l.length cap))] w')))
  have K0 := Lib.hid k0
  clear k0
  unfold touchOk at h
  clear hA
  by_cases hr : 0 ≤ regionOf key l x
  · have hd : decide (regionOf key l x < 0) = false := decide_eq_false (by omega)
    by_cases ht : trustOk key l (regionOf key l x) ⟨t0, t1, t2, t3, t4, t5, t6, t7⟩
    · have PT := Lib.hid (TO.out (regionOf key l x))
      rw [trustB_yes ht] at PT
      by_cases hc : isCell ct cv
      · have PC := CO
        rw [decide_eq_true hc] at PC
        have hv : ¬ ValOk value := fun hv => h ⟨hr, ht, hc, hv⟩
        have hv3 : ¬ value = -1 := fun e => hv (.inl e)
        have hv1 : (value == -1) = false := by simpa using hv3
        have hv2 : (value != -1) = true := by simpa using hv3
        have HVL := Lib.hid (show false = decide (isVal value) from (decide_eq_false (fun e => hv (.inr e))).symm)
        generalize regionOf key l x = r at R hd PT
        clear h hr ht hc hv TO CO
        go_enter Tryz.func101, Tryz.ntmps101
        go_wp2_with fail
        refine (R.out _ K0.out.1).mono ?_; rintro e wz ⟨rfl, b1⟩
        have hz := K0.out.below b1
        clear b1 R K0
        have p0 : wz.cell? ⟨w.heap.size, 0, none⟩ = some (.int .i64 key) := hz.cell (p := w.heap.size) (t := 26) (cs := (pA key A l.length cap)) (by simp) 0
        have p1 : wz.cell? ⟨w.heap.size, 1, none⟩ = some (.slice A l.length cap) := hz.cell (p := w.heap.size) (t := 26) (cs := (pA key A l.length cap)) (by simp) 1
        have q0 : wz.cell? ⟨w.heap.size + 1, 0, none⟩ = some (.int .i64 t0) := hz.cell (p := w.heap.size + 1) (t := 80) (cs := (tA t0 t1 t2 t3 t4 t5 t6 t7)) (by simp) 0
        have q1 : wz.cell? ⟨w.heap.size + 1, 1, none⟩ = some (.int .i64 t1) := hz.cell (p := w.heap.size + 1) (t := 80) (cs := (tA t0 t1 t2 t3 t4 t5 t6 t7)) (by simp) 1
        have q2 : wz.cell? ⟨w.heap.size + 1, 2, none⟩ = some (.int .i64 t2) := hz.cell (p := w.heap.size + 1) (t := 80) (cs := (tA t0 t1 t2 t3 t4 t5 t6 t7)) (by simp) 2
        have q3 : wz.cell? ⟨w.heap.size + 1, 3, none⟩ = some (.int .i64 t3) := hz.cell (p := w.heap.size + 1) (t := 80) (cs := (tA t0 t1 t2 t3 t4 t5 t6 t7)) (by simp) 3
        have q4 : wz.cell? ⟨w.heap.size + 1, 4, none⟩ = some (.int .i64 t4) := hz.cell (p := w.heap.size + 1) (t := 80) (cs := (tA t0 t1 t2 t3 t4 t5 t6 t7)) (by simp) 4
        have q5 : wz.cell? ⟨w.heap.size + 1, 5, none⟩ = some (.int .i64 t5) := hz.cell (p := w.heap.size + 1) (t := 80) (cs := (tA t0 t1 t2 t3 t4 t5 t6 t7)) (by simp) 5
        have q6 : wz.cell? ⟨w.heap.size + 1, 6, none⟩ = some (.int .i64 t6) := hz.cell (p := w.heap.size + 1) (t := 80) (cs := (tA t0 t1 t2 t3 t4 t5 t6 t7)) (by simp) 6
        have q7 : wz.cell? ⟨w.heap.size + 1, 7, none⟩ = some (.bool t7) := hz.cell (p := w.heap.size + 1) (t := 80) (cs := (tA t0 t1 t2 t3 t4 t5 t6 t7)) (by simp) 7
        go_wp2_with fail
        refine (PT.out _ hz).mono ?_; rintro e wy ⟨rfl, hy⟩
        clear hz p0 p1 q0 q1 q2 q3 q4 q5 q6 q7 PT
        have s0 : wy.cell? ⟨w.heap.size + 1 + 1, 0, none⟩ = some (.int .i64 ct) := hy.cell (p := w.heap.size + 1 + 1) (t := 112) (cs := (cA ct cv)) (by simp) 0
        have s1 : wy.cell? ⟨w.heap.size + 1 + 1, 1, none⟩ = some (.int .i64 cv) := hy.cell (p := w.heap.size + 1 + 1) (t := 112) (cs := (cA ct cv)) (by simp) 1
        go_wp2_with fail
        refine (PC.out _ hy).mono ?_; rintro e wx ⟨rfl, hx⟩
        clear hy s0 s1 PC
        go_wp2_with fail
        refine (l2Value_b _ _ _ HVL.out).mono ?_; rintro e w' ⟨rfl, rfl⟩
        have KZ := Lib.hid hx
        clear hx
        have r0 : wx.cell? ⟨w.heap.size + 1 + 1 + 1, 0, none⟩ = some (.int .i64 0) := KZ.out.cell (p := w.heap.size + 1 + 1 + 1) (t := 80) (cs := zT) (by simp) 0
        have r1 : wx.cell? ⟨w.heap.size + 1 + 1 + 1, 1, none⟩ = some (.int .i64 0) := KZ.out.cell (p := w.heap.size + 1 + 1 + 1) (t := 80) (cs := zT) (by simp) 1
        have r2 : wx.cell? ⟨w.heap.size + 1 + 1 + 1, 2, none⟩ = some (.int .i64 0) := KZ.out.cell (p := w.heap.size + 1 + 1 + 1) (t := 80) (cs := zT) (by simp) 2
        have r3 : wx.cell? ⟨w.heap.size + 1 + 1 + 1, 3, none⟩ = some (.int .i64 0) := KZ.out.cell (p := w.heap.size + 1 + 1 + 1) (t := 80) (cs := zT) (by simp) 3
        have r4 : wx.cell? ⟨w.heap.size + 1 + 1 + 1, 4, none⟩ = some (.int .i64 0) := KZ.out.cell (p := w.heap.size + 1 + 1 + 1) (t := 80) (cs := zT) (by simp) 4
        have r5 : wx.cell? ⟨w.heap.size + 1 + 1 + 1, 5, none⟩ = some (.int .i64 0) := KZ.out.cell (p := w.heap.size + 1 + 1 + 1) (t := 80) (cs := zT) (by simp) 5
        have r6 : wx.cell? ⟨w.heap.size + 1 + 1 + 1, 6, none⟩ = some (.int .i64 0) := KZ.out.cell (p := w.heap.size + 1 + 1 + 1) (t := 80) (cs := zT) (by simp) 6
        have r7 : wx.cell? ⟨w.heap.size + 1 + 1 + 1, 7, none⟩ = some (.bool false) := KZ.out.cell (p := w.heap.size + 1 + 1 + 1) (t := 80) (cs := zT) (by simp) 7
        have fr0 := KZ.out.frozen (p := w.heap.size + 1 + 1 + 1) (t := 80) (cs := zT) (by simp) 0
        have fr1 := KZ.out.frozen (p := w.heap.size + 1 + 1 + 1) (t := 80) (cs := zT) (by simp) 1
        have fr2 := KZ.out.frozen (p := w.heap.size + 1 + 1 + 1) (t := 80) (cs := zT) (by simp) 2
        have fr3 := KZ.out.frozen (p := w.heap.size + 1 + 1 + 1) (t := 80) (cs := zT) (by simp) 3
        have fr4 := KZ.out.frozen (p := w.heap.size + 1 + 1 + 1) (t := 80) (cs := zT) (by simp) 4
        have fr5 := KZ.out.frozen (p := w.heap.size + 1 + 1 + 1) (t := 80) (cs := zT) (by simp) 5
        have fr6 := KZ.out.frozen (p := w.heap.size + 1 + 1 + 1) (t := 80) (cs := zT) (by simp) 6
        have fr7 := KZ.out.frozen (p := w.heap.size + 1 + 1 + 1) (t := 80) (cs := zT) (by simp) 7
        have z0 : wx.cell? ⟨w.heap.size + 1 + 1 + 1 + 1, 0, none⟩ = some (.int .i64 0) := KZ.out.cell (p := w.heap.size + 1 + 1 + 1 + 1) (t := 112) (cs := zC) (by simp) 0
        have z1 : wx.cell? ⟨w.heap.size + 1 + 1 + 1 + 1, 1, none⟩ = some (.int .i64 0) := KZ.out.cell (p := w.heap.size + 1 + 1 + 1 + 1) (t := 112) (cs := zC) (by simp) 1
        have fz0 := KZ.out.frozen (p := w.heap.size + 1 + 1 + 1 + 1) (t := 112) (cs := zC) (by simp) 0
        have fz1 := KZ.out.frozen (p := w.heap.size + 1 + 1 + 1 + 1) (t := 112) (cs := zC) (by simp) 1
        go_wp2_with fail
        obtain ⟨w9, e9, ⟨d0, d1, d2, d3, d4, d5, d6, d7, d8, d9⟩, hb⟩ := touch_end (x0 := .int .i64 0) (x1 := .int .i64 0) (x2 := .int .i64 0) (x3 := .int .i64 0) (x4 := .int .i64 0) (x5 := .int .i64 0) (x6 := .int .i64 0) (x7 := .bool false) (y0 := .int .i64 0) (y1 := .int .i64 0) (KZ.out.at_ (p := w.heap.size + 1 + 1 + 1) (t := 80) (cs := zT) (by simp)) (KZ.out.at_ (p := w.heap.size + 1 + 1 + 1 + 1) (t := 112) (cs := zC) (by simp)) (by omega) KZ.out.1 (by omega) (by omega)
        rw [e9]
        clear e9
        exact bodyPost_ret (v := (.tuple #[.agg zT, .agg zC, .int .i64 0, .int .i64 1])) (by simp [results, Tryz.results101, go_sem, d0, d1, d2, d3, d4, d5, d6, d7, d8, d9]) rfl ⟨rfl, hb⟩
      · have PC := CO
        rw [decide_eq_false hc] at PC
        have HVL := Lib.hid (show decide (isVal value) = decide (isVal value) from rfl)
        generalize regionOf key l x = r at R hd PT
        clear h hr ht hc TO CO
        go_enter Tryz.func101, Tryz.ntmps101
        go_wp2_with fail
        refine (R.out _ K0.out.1).mono ?_; rintro e wz ⟨rfl, b1⟩
        have hz := K0.out.below b1
        clear b1 R K0
        have p0 : wz.cell? ⟨w.heap.size, 0, none⟩ = some (.int .i64 key) := hz.cell (p := w.heap.size) (t := 26) (cs := (pA key A l.length cap)) (by simp) 0
        have p1 : wz.cell? ⟨w.heap.size, 1, none⟩ = some (.slice A l.length cap) := hz.cell (p := w.heap.size) (t := 26) (cs := (pA key A l.length cap)) (by simp) 1
        have q0 : wz.cell? ⟨w.heap.size + 1, 0, none⟩ = some (.int .i64 t0) := hz.cell (p := w.heap.size + 1) (t := 80) (cs := (tA t0 t1 t2 t3 t4 t5 t6 t7)) (by simp) 0
        have q1 : wz.cell? ⟨w.heap.size + 1, 1, none⟩ = some (.int .i64 t1) := hz.cell (p := w.heap.size + 1) (t := 80) (cs := (tA t0 t1 t2 t3 t4 t5 t6 t7)) (by simp) 1
        have q2 : wz.cell? ⟨w.heap.size + 1, 2, none⟩ = some (.int .i64 t2) := hz.cell (p := w.heap.size + 1) (t := 80) (cs := (tA t0 t1 t2 t3 t4 t5 t6 t7)) (by simp) 2
        have q3 : wz.cell? ⟨w.heap.size + 1, 3, none⟩ = some (.int .i64 t3) := hz.cell (p := w.heap.size + 1) (t := 80) (cs := (tA t0 t1 t2 t3 t4 t5 t6 t7)) (by simp) 3
        have q4 : wz.cell? ⟨w.heap.size + 1, 4, none⟩ = some (.int .i64 t4) := hz.cell (p := w.heap.size + 1) (t := 80) (cs := (tA t0 t1 t2 t3 t4 t5 t6 t7)) (by simp) 4
        have q5 : wz.cell? ⟨w.heap.size + 1, 5, none⟩ = some (.int .i64 t5) := hz.cell (p := w.heap.size + 1) (t := 80) (cs := (tA t0 t1 t2 t3 t4 t5 t6 t7)) (by simp) 5
        have q6 : wz.cell? ⟨w.heap.size + 1, 6, none⟩ = some (.int .i64 t6) := hz.cell (p := w.heap.size + 1) (t := 80) (cs := (tA t0 t1 t2 t3 t4 t5 t6 t7)) (by simp) 6
        have q7 : wz.cell? ⟨w.heap.size + 1, 7, none⟩ = some (.bool t7) := hz.cell (p := w.heap.size + 1) (t := 80) (cs := (tA t0 t1 t2 t3 t4 t5 t6 t7)) (by simp) 7
        go_wp2_with fail
        refine (PT.out _ hz).mono ?_; rintro e wy ⟨rfl, hy⟩
        clear hz p0 p1 q0 q1 q2 q3 q4 q5 q6 q7 PT
        have s0 : wy.cell? ⟨w.heap.size + 1 + 1, 0, none⟩ = some (.int .i64 ct) := hy.cell (p := w.heap.size + 1 + 1) (t := 112) (cs := (cA ct cv)) (by simp) 0
        have s1 : wy.cell? ⟨w.heap.size + 1 + 1, 1, none⟩ = some (.int .i64 cv) := hy.cell (p := w.heap.size + 1 + 1) (t := 112) (cs := (cA ct cv)) (by simp) 1
        go_wp2_with fail
        refine (PC.out _ hy).mono ?_; rintro e wx ⟨rfl, hx⟩
        clear hy s0 s1 PC
        have KZ := Lib.hid hx
        clear hx
        have r0 : wx.cell? ⟨w.heap.size + 1 + 1 + 1, 0, none⟩ = some (.int .i64 0) := KZ.out.cell (p := w.heap.size + 1 + 1 + 1) (t := 80) (cs := zT) (by simp) 0
        have r1 : wx.cell? ⟨w.heap.size + 1 + 1 + 1, 1, none⟩ = some (.int .i64 0) := KZ.out.cell (p := w.heap.size + 1 + 1 + 1) (t := 80) (cs := zT) (by simp) 1
        have r2 : wx.cell? ⟨w.heap.size + 1 + 1 + 1, 2, none⟩ = some (.int .i64 0) := KZ.out.cell (p := w.heap.size + 1 + 1 + 1) (t := 80) (cs := zT) (by simp) 2
        have r3 : wx.cell? ⟨w.heap.size + 1 + 1 + 1, 3, none⟩ = some (.int .i64 0) := KZ.out.cell (p := w.heap.size + 1 + 1 + 1) (t := 80) (cs := zT) (by simp) 3
        have r4 : wx.cell? ⟨w.heap.size + 1 + 1 + 1, 4, none⟩ = some (.int .i64 0) := KZ.out.cell (p := w.heap.size + 1 + 1 + 1) (t := 80) (cs := zT) (by simp) 4
        have r5 : wx.cell? ⟨w.heap.size + 1 + 1 + 1, 5, none⟩ = some (.int .i64 0) := KZ.out.cell (p := w.heap.size + 1 + 1 + 1) (t := 80) (cs := zT) (by simp) 5
        have r6 : wx.cell? ⟨w.heap.size + 1 + 1 + 1, 6, none⟩ = some (.int .i64 0) := KZ.out.cell (p := w.heap.size + 1 + 1 + 1) (t := 80) (cs := zT) (by simp) 6
        have r7 : wx.cell? ⟨w.heap.size + 1 + 1 + 1, 7, none⟩ = some (.bool false) := KZ.out.cell (p := w.heap.size + 1 + 1 + 1) (t := 80) (cs := zT) (by simp) 7
        have fr0 := KZ.out.frozen (p := w.heap.size + 1 + 1 + 1) (t := 80) (cs := zT) (by simp) 0
        have fr1 := KZ.out.frozen (p := w.heap.size + 1 + 1 + 1) (t := 80) (cs := zT) (by simp) 1
        have fr2 := KZ.out.frozen (p := w.heap.size + 1 + 1 + 1) (t := 80) (cs := zT) (by simp) 2
        have fr3 := KZ.out.frozen (p := w.heap.size + 1 + 1 + 1) (t := 80) (cs := zT) (by simp) 3
        have fr4 := KZ.out.frozen (p := w.heap.size + 1 + 1 + 1) (t := 80) (cs := zT) (by simp) 4
        have fr5 := KZ.out.frozen (p := w.heap.size + 1 + 1 + 1) (t := 80) (cs := zT) (by simp) 5
        have fr6 := KZ.out.frozen (p := w.heap.size + 1 + 1 + 1) (t := 80) (cs := zT) (by simp) 6
        have fr7 := KZ.out.frozen (p := w.heap.size + 1 + 1 + 1) (t := 80) (cs := zT) (by simp) 7
        have z0 : wx.cell? ⟨w.heap.size + 1 + 1 + 1 + 1, 0, none⟩ = some (.int .i64 0) := KZ.out.cell (p := w.heap.size + 1 + 1 + 1 + 1) (t := 112) (cs := zC) (by simp) 0
        have z1 : wx.cell? ⟨w.heap.size + 1 + 1 + 1 + 1, 1, none⟩ = some (.int .i64 0) := KZ.out.cell (p := w.heap.size + 1 + 1 + 1 + 1) (t := 112) (cs := zC) (by simp) 1
        have fz0 := KZ.out.frozen (p := w.heap.size + 1 + 1 + 1 + 1) (t := 112) (cs := zC) (by simp) 0
        have fz1 := KZ.out.frozen (p := w.heap.size + 1 + 1 + 1 + 1) (t := 112) (cs := zC) (by simp) 1
        go_wp2_with fail
        obtain ⟨w9, e9, ⟨d0, d1, d2, d3, d4, d5, d6, d7, d8, d9⟩, hb⟩ := touch_end (x0 := .int .i64 0) (x1 := .int .i64 0) (x2 := .int .i64 0) (x3 := .int .i64 0) (x4 := .int .i64 0) (x5 := .int .i64 0) (x6 := .int .i64 0) (x7 := .bool false) (y0 := .int .i64 0) (y1 := .int .i64 0) (KZ.out.at_ (p := w.heap.size + 1 + 1 + 1) (t := 80) (cs := zT) (by simp)) (KZ.out.at_ (p := w.heap.size + 1 + 1 + 1 + 1) (t := 112) (cs := zC) (by simp)) (by omega) KZ.out.1 (by omega) (by omega)
        rw [e9]
        clear e9
        exact bodyPost_ret (v := (.tuple #[.agg zT, .agg zC, .int .i64 0, .int .i64 1])) (by simp [results, Tryz.results101, go_sem, d0, d1, d2, d3, d4, d5, d6, d7, d8, d9]) rfl ⟨rfl, hb⟩
    · have PT := Lib.hid (TO.out (regionOf key l x))
      rw [trustB_no ht] at PT
      have PC := CO
      have HVL := Lib.hid (show decide (isVal value) = decide (isVal value) from rfl)
      generalize regionOf key l x = r at R hd PT
      clear h hr ht TO CO
      go_enter Tryz.func101, Tryz.ntmps101
      go_wp2_with fail
      refine (R.out _ K0.out.1).mono ?_; rintro e wz ⟨rfl, b1⟩
      have hz := K0.out.below b1
      clear b1 R K0
      have p0 : wz.cell? ⟨w.heap.size, 0, none⟩ = some (.int .i64 key) := hz.cell (p := w.heap.size) (t := 26) (cs := (pA key A l.length cap)) (by simp) 0
      have p1 : wz.cell? ⟨w.heap.size, 1, none⟩ = some (.slice A l.length cap) := hz.cell (p := w.heap.size) (t := 26) (cs := (pA key A l.length cap)) (by simp) 1
      have q0 : wz.cell? ⟨w.heap.size + 1, 0, none⟩ = some (.int .i64 t0) := hz.cell (p := w.heap.size + 1) (t := 80) (cs := (tA t0 t1 t2 t3 t4 t5 t6 t7)) (by simp) 0
      have q1 : wz.cell? ⟨w.heap.size + 1, 1, none⟩ = some (.int .i64 t1) := hz.cell (p := w.heap.size + 1) (t := 80) (cs := (tA t0 t1 t2 t3 t4 t5 t6 t7)) (by simp) 1
      have q2 : wz.cell? ⟨w.heap.size + 1, 2, none⟩ = some (.int .i64 t2) := hz.cell (p := w.heap.size + 1) (t := 80) (cs := (tA t0 t1 t2 t3 t4 t5 t6 t7)) (by simp) 2
      have q3 : wz.cell? ⟨w.heap.size + 1, 3, none⟩ = some (.int .i64 t3) := hz.cell (p := w.heap.size + 1) (t := 80) (cs := (tA t0 t1 t2 t3 t4 t5 t6 t7)) (by simp) 3
      have q4 : wz.cell? ⟨w.heap.size + 1, 4, none⟩ = some (.int .i64 t4) := hz.cell (p := w.heap.size + 1) (t := 80) (cs := (tA t0 t1 t2 t3 t4 t5 t6 t7)) (by simp) 4
      have q5 : wz.cell? ⟨w.heap.size + 1, 5, none⟩ = some (.int .i64 t5) := hz.cell (p := w.heap.size + 1) (t := 80) (cs := (tA t0 t1 t2 t3 t4 t5 t6 t7)) (by simp) 5
      have q6 : wz.cell? ⟨w.heap.size + 1, 6, none⟩ = some (.int .i64 t6) := hz.cell (p := w.heap.size + 1) (t := 80) (cs := (tA t0 t1 t2 t3 t4 t5 t6 t7)) (by simp) 6
      have q7 : wz.cell? ⟨w.heap.size + 1, 7, none⟩ = some (.bool t7) := hz.cell (p := w.heap.size + 1) (t := 80) (cs := (tA t0 t1 t2 t3 t4 t5 t6 t7)) (by simp) 7
      go_wp2_with fail
      refine (PT.out _ hz).mono ?_; rintro e wy ⟨rfl, hy⟩
      clear hz p0 p1 q0 q1 q2 q3 q4 q5 q6 q7 PT
      have KZ := Lib.hid hy
      clear hy
      have r0 : wy.cell? ⟨w.heap.size + 1 + 1 + 1, 0, none⟩ = some (.int .i64 0) := KZ.out.cell (p := w.heap.size + 1 + 1 + 1) (t := 80) (cs := zT) (by simp) 0
      have r1 : wy.cell? ⟨w.heap.size + 1 + 1 + 1, 1, none⟩ = some (.int .i64 0) := KZ.out.cell (p := w.heap.size + 1 + 1 + 1) (t := 80) (cs := zT) (by simp) 1
      have r2 : wy.cell? ⟨w.heap.size + 1 + 1 + 1, 2, none⟩ = some (.int .i64 0) := KZ.out.cell (p := w.heap.size + 1 + 1 + 1) (t := 80) (cs := zT) (by simp) 2
      have r3 : wy.cell? ⟨w.heap.size + 1 + 1 + 1, 3, none⟩ = some (.int .i64 0) := KZ.out.cell (p := w.heap.size + 1 + 1 + 1) (t := 80) (cs := zT) (by simp) 3
      have r4 : wy.cell? ⟨w.heap.size + 1 + 1 + 1, 4, none⟩ = some (.int .i64 0) := KZ.out.cell (p := w.heap.size + 1 + 1 + 1) (t := 80) (cs := zT) (by simp) 4
      have r5 : wy.cell? ⟨w.heap.size + 1 + 1 + 1, 5, none⟩ = some (.int .i64 0) := KZ.out.cell (p := w.heap.size + 1 + 1 + 1) (t := 80) (cs := zT) (by simp) 5
      have r6 : wy.cell? ⟨w.heap.size + 1 + 1 + 1, 6, none⟩ = some (.int .i64 0) := KZ.out.cell (p := w.heap.size + 1 + 1 + 1) (t := 80) (cs := zT) (by simp) 6
      have r7 : wy.cell? ⟨w.heap.size + 1 + 1 + 1, 7, none⟩ = some (.bool false) := KZ.out.cell (p := w.heap.size + 1 + 1 + 1) (t := 80) (cs := zT) (by simp) 7
      have fr0 := KZ.out.frozen (p := w.heap.size + 1 + 1 + 1) (t := 80) (cs := zT) (by simp) 0
      have fr1 := KZ.out.frozen (p := w.heap.size + 1 + 1 + 1) (t := 80) (cs := zT) (by simp) 1
      have fr2 := KZ.out.frozen (p := w.heap.size + 1 + 1 + 1) (t := 80) (cs := zT) (by simp) 2
      have fr3 := KZ.out.frozen (p := w.heap.size + 1 + 1 + 1) (t := 80) (cs := zT) (by simp) 3
      have fr4 := KZ.out.frozen (p := w.heap.size + 1 + 1 + 1) (t := 80) (cs := zT) (by simp) 4
      have fr5 := KZ.out.frozen (p := w.heap.size + 1 + 1 + 1) (t := 80) (cs := zT) (by simp) 5
      have fr6 := KZ.out.frozen (p := w.heap.size + 1 + 1 + 1) (t := 80) (cs := zT) (by simp) 6
      have fr7 := KZ.out.frozen (p := w.heap.size + 1 + 1 + 1) (t := 80) (cs := zT) (by simp) 7
      have z0 : wy.cell? ⟨w.heap.size + 1 + 1 + 1 + 1, 0, none⟩ = some (.int .i64 0) := KZ.out.cell (p := w.heap.size + 1 + 1 + 1 + 1) (t := 112) (cs := zC) (by simp) 0
      have z1 : wy.cell? ⟨w.heap.size + 1 + 1 + 1 + 1, 1, none⟩ = some (.int .i64 0) := KZ.out.cell (p := w.heap.size + 1 + 1 + 1 + 1) (t := 112) (cs := zC) (by simp) 1
      have fz0 := KZ.out.frozen (p := w.heap.size + 1 + 1 + 1 + 1) (t := 112) (cs := zC) (by simp) 0
      have fz1 := KZ.out.frozen (p := w.heap.size + 1 + 1 + 1 + 1) (t := 112) (cs := zC) (by simp) 1
      go_wp2_with fail
      obtain ⟨w9, e9, ⟨d0, d1, d2, d3, d4, d5, d6, d7, d8, d9⟩, hb⟩ := touch_end (x0 := .int .i64 0) (x1 := .int .i64 0) (x2 := .int .i64 0) (x3 := .int .i64 0) (x4 := .int .i64 0) (x5 := .int .i64 0) (x6 := .int .i64 0) (x7 := .bool false) (y0 := .int .i64 0) (y1 := .int .i64 0) (KZ.out.at_ (p := w.heap.size + 1 + 1 + 1) (t := 80) (cs := zT) (by simp)) (KZ.out.at_ (p := w.heap.size + 1 + 1 + 1 + 1) (t := 112) (cs := zC) (by simp)) (by omega) KZ.out.1 (by omega) (by omega)
      rw [e9]
      clear e9
      exact bodyPost_ret (v := (.tuple #[.agg zT, .agg zC, .int .i64 0, .int .i64 1])) (by simp [results, Tryz.results101, go_sem, d0, d1, d2, d3, d4, d5, d6, d7, d8, d9]) rfl ⟨rfl, hb⟩
  · have hd : decide (regionOf key l x < 0) = true := decide_eq_true (by omega)
    generalize regionOf key l x = r at R hd
    clear h hr TO CO
    go_enter Tryz.func101, Tryz.ntmps101
    go_wp2_with fail
    refine (R.out _ K0.out.1).mono ?_; rintro e wz ⟨rfl, b1⟩
    have hz := K0.out.below b1
    clear b1 R K0
    have KZ := Lib.hid hz
    clear hz
    have r0 : wz.cell? ⟨w.heap.size + 1 + 1 + 1, 0, none⟩ = some (.int .i64 0) := KZ.out.cell (p := w.heap.size + 1 + 1 + 1) (t := 80) (cs := zT) (by simp) 0
    have r1 : wz.cell? ⟨w.heap.size + 1 + 1 + 1, 1, none⟩ = some (.int .i64 0) := KZ.out.cell (p := w.heap.size + 1 + 1 + 1) (t := 80) (cs := zT) (by simp) 1
    have r2 : wz.cell? ⟨w.heap.size + 1 + 1 + 1, 2, none⟩ = some (.int .i64 0) := KZ.out.cell (p := w.heap.size + 1 + 1 + 1) (t := 80) (cs := zT) (by simp) 2
    have r3 : wz.cell? ⟨w.heap.size + 1 + 1 + 1, 3, none⟩ = some (.int .i64 0) := KZ.out.cell (p := w.heap.size + 1 + 1 + 1) (t := 80) (cs := zT) (by simp) 3
    have r4 : wz.cell? ⟨w.heap.size + 1 + 1 + 1, 4, none⟩ = some (.int .i64 0) := KZ.out.cell (p := w.heap.size + 1 + 1 + 1) (t := 80) (cs := zT) (by simp) 4
    have r5 : wz.cell? ⟨w.heap.size + 1 + 1 + 1, 5, none⟩ = some (.int .i64 0) := KZ.out.cell (p := w.heap.size + 1 + 1 + 1) (t := 80) (cs := zT) (by simp) 5
    have r6 : wz.cell? ⟨w.heap.size + 1 + 1 + 1, 6, none⟩ = some (.int .i64 0) := KZ.out.cell (p := w.heap.size + 1 + 1 + 1) (t := 80) (cs := zT) (by simp) 6
    have r7 : wz.cell? ⟨w.heap.size + 1 + 1 + 1, 7, none⟩ = some (.bool false) := KZ.out.cell (p := w.heap.size + 1 + 1 + 1) (t := 80) (cs := zT) (by simp) 7
    have fr0 := KZ.out.frozen (p := w.heap.size + 1 + 1 + 1) (t := 80) (cs := zT) (by simp) 0
    have fr1 := KZ.out.frozen (p := w.heap.size + 1 + 1 + 1) (t := 80) (cs := zT) (by simp) 1
    have fr2 := KZ.out.frozen (p := w.heap.size + 1 + 1 + 1) (t := 80) (cs := zT) (by simp) 2
    have fr3 := KZ.out.frozen (p := w.heap.size + 1 + 1 + 1) (t := 80) (cs := zT) (by simp) 3
    have fr4 := KZ.out.frozen (p := w.heap.size + 1 + 1 + 1) (t := 80) (cs := zT) (by simp) 4
    have fr5 := KZ.out.frozen (p := w.heap.size + 1 + 1 + 1) (t := 80) (cs := zT) (by simp) 5
    have fr6 := KZ.out.frozen (p := w.heap.size + 1 + 1 + 1) (t := 80) (cs := zT) (by simp) 6
    have fr7 := KZ.out.frozen (p := w.heap.size + 1 + 1 + 1) (t := 80) (cs := zT) (by simp) 7
    have z0 : wz.cell? ⟨w.heap.size + 1 + 1 + 1 + 1, 0, none⟩ = some (.int .i64 0) := KZ.out.cell (p := w.heap.size + 1 + 1 + 1 + 1) (t := 112) (cs := zC) (by simp) 0
    have z1 : wz.cell? ⟨w.heap.size + 1 + 1 + 1 + 1, 1, none⟩ = some (.int .i64 0) := KZ.out.cell (p := w.heap.size + 1 + 1 + 1 + 1) (t := 112) (cs := zC) (by simp) 1
    have fz0 := KZ.out.frozen (p := w.heap.size + 1 + 1 + 1 + 1) (t := 112) (cs := zC) (by simp) 0
    have fz1 := KZ.out.frozen (p := w.heap.size + 1 + 1 + 1 + 1) (t := 112) (cs := zC) (by simp) 1
    go_wp2_with fail
    obtain ⟨w9, e9, ⟨d0, d1, d2, d3, d4, d5, d6, d7, d8, d9⟩, hb⟩ := touch_end (x0 := .int .i64 0) (x1 := .int .i64 0) (x2 := .int .i64 0) (x3 := .int .i64 0) (x4 := .int .i64 0) (x5 := .int .i64 0) (x6 := .int .i64 0) (x7 := .bool false) (y0 := .int .i64 0) (y1 := .int .i64 0) (KZ.out.at_ (p := w.heap.size + 1 + 1 + 1) (t := 80) (cs := zT) (by simp)) (KZ.out.at_ (p := w.heap.size + 1 + 1 + 1 + 1) (t := 112) (cs := zC) (by simp)) (by omega) KZ.out.1 (by omega) (by omega)
    rw [e9]
    clear e9
    exact bodyPost_ret (v := (.tuple #[.agg zT, .agg zC, .int .i64 0, .int .i64 1])) (by simp [results, Tryz.results101, go_sem, d0, d1, d2, d3, d4, d5, d6, d7, d8, d9]) rfl ⟨rfl, hb⟩
theorem l8Sums_calls (nx : Bool) (key : Int) (A : Option Addr) (n cap : Nat) (t0 t1 t2 t3 t4 t5 t6 : Int) (t7 : Bool) (a b c a' b' c' : Int) (w : World) :
    Calls Tryz.prog 164 #[.agg (pA key A n cap), .agg (tA t0 t1 t2 t3 t4 t5 t6 t7), .bool nx, .agg #[.int .i64 a, .int .i64 b, .int .i64 c], .agg #[.int .i64 a', .int .i64 b', .int .i64 c']] w fun e w' => e = .returned (.agg (tR (sumsT key ⟨t0, t1, t2, t3, t4, t5, t6, t7⟩ nx a b c a' b' c'))) ∧ Below w.heap.size w w' := by
  cases nx
  · exact l8Sums_false key A n cap t0 t1 t2 t3 t4 t5 t6 t7 a b c a' b' c' w
  · exact l8Sums_true key A n cap t0 t1 t2 t3 t4 t5 t6 t7 a b c a' b' c' w
end Go.Proofs.YtgaecedhkbneaaaGreatDoor.Mx

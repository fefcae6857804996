import Derived.Test.YteopplldbcgjjaaGreatDoorE10
import Derived.Test.YteopplldbcgjjaaGreatDoorE11
import Derived.Test.YteopplldbcgjjaaGreatDoorE08
import Derived.Test.YteopplldbcgjjaaGreatDoorE12
namespace Go.Proofs.YteopplldbcgjjaaGreatDoor.Mx
open Go.ChangeShapes Go.WideShapes Go.ChangeAt Go.RowKit
set_option linter.unusedVariables false
set_option maxRecDepth 20000 in
set_option maxHeartbeats 4000000 in
theorem specTouched_caught (key x ct cv value : Int) (A : Option Addr) (l : List Int) (cap : Nat) (t0 t1 t2 t3 t4 t5 t6 : Int) (w : World) (hn : l.length ≤ maxLen) (hcap : l.length ≤ cap) (hA : Ints w .i64 w.heap.size A l) (hr : 0 ≤ regionOf key l x) (ht : trustOk key l (regionOf key l x) ⟨t0, t1, t2, t3, t4, t5, t6, false⟩ ) (hc : isCell ct cv) (hv : ValOk value) (hcl : ¬ 100000 ≤ t0) (hct : t0 < ct) :
    Calls Tryz.prog 10 #[.agg #[.int .i64 key, .slice A l.length cap], .agg #[.int .i64 t0, .int .i64 t1, .int .i64 t2, .int .i64 t3, .int .i64 t4, .int .i64 t5, .int .i64 t6, .bool false], .int .i64 x, .agg #[.int .i64 ct, .int .i64 cv], .int .i64 value] w fun e w' => e = .returned (.tuple #[.agg #[.int .i64 t0, .int .i64 t1, .int .i64 t2, .int .i64 t3, .int .i64 t4, .int .i64 t5, .int .i64 t6, .bool true], .agg #[.int .i64 ct, .int .i64 cv], .int .i64 0, .int .i64 4]) ∧ Below w.heap.size w w' := by
  have k0 := (((((Kept.refl w).new 26 #[.int .i64 key, .slice A l.length cap]).new 28 #[.int .i64 t0, .int .i64 t1, .int .i64 t2, .int .i64 t3, .int .i64 t4, .int .i64 t5, .int .i64 t6, .bool false]).new 30 #[.int .i64 ct, .int .i64 cv]).new 28 #[.int .i64 0, .int .i64 0, .int .i64 0, .int .i64 0, .int .i64 0, .int .i64 0, .int .i64 0, .bool false]).new 30 #[.int .i64 0, .int .i64 0]
  rw [show ((((w.alloc (.cells #[.int .i64 key, .slice A l.length cap] 26)).alloc (.cells #[.int .i64 t0, .int .i64 t1, .int .i64 t2, .int .i64 t3, .int .i64 t4, .int .i64 t5, .int .i64 t6, .bool false] 28)).alloc (.cells #[.int .i64 ct, .int .i64 cv] 30)).alloc (.cells #[.int .i64 0, .int .i64 0, .int .i64 0, .int .i64 0, .int .i64 0, .int .i64 0, .int .i64 0, .bool false] 28)).heap.size = w.heap.size + 1 + 1 + 1 + 1 by simp, show (((w.alloc (.cells #[.int .i64 key, .slice A l.length cap] 26)).alloc (.cells #[.int .i64 t0, .int .i64 t1, .int .i64 t2, .int .i64 t3, .int .i64 t4, .int .i64 t5, .int .i64 t6, .bool false] 28)).alloc (.cells #[.int .i64 ct, .int .i64 cv] 30)).heap.size = w.heap.size + 1 + 1 + 1 by simp, show ((w.alloc (.cells #[.int .i64 key, .slice A l.length cap] 26)).alloc (.cells #[.int .i64 t0, .int .i64 t1, .int .i64 t2, .int .i64 t3, .int .i64 t4, .int .i64 t5, .int .i64 t6, .bool false] 28)).heap.size = w.heap.size + 1 + 1 by simp, show (w.alloc (.cells #[.int .i64 key, .slice A l.length cap] 26)).heap.size = w.heap.size + 1 by simp] at k0
  have R := Lib.hid (fun (u : World) (hb : Below w.heap.size w u) => specRegion_calls key x A l cap u hn hcap ((hA.below hb (Nat.le_refl _)).more hb.size))
  have TO := Lib.hid (fun (r : Int) (u : World) (h : Kept w [(w.heap.size + 1 + 1 + 1 + 1, 30, #[.int .i64 0, .int .i64 0]), (w.heap.size + 1 + 1 + 1, 28, #[.int .i64 0, .int .i64 0, .int .i64 0, .int .i64 0, .int .i64 0, .int .i64 0, .int .i64 0, .bool false]), (w.heap.size + 1 + 1, 30, #[.int .i64 ct, .int .i64 cv]), (w.heap.size + 1, 28, #[.int .i64 t0, .int .i64 t1, .int .i64 t2, .int .i64 t3, .int .i64 t4, .int .i64 t5, .int .i64 t6, .bool false]), (w.heap.size, 26, #[.int .i64 key, .slice A l.length cap])] u) => (specTrustOk_calls key r A l cap t0 t1 t2 t3 t4 t5 t6 false u hn ((hA.below h.1 (Nat.le_refl _)).more h.1.size)).mono (fun e w' ⟨he, hb⟩ => (⟨he, h.below hb⟩ : _ ∧ Kept w [(w.heap.size + 1 + 1 + 1 + 1, 30, #[.int .i64 0, .int .i64 0]), (w.heap.size + 1 + 1 + 1, 28, #[.int .i64 0, .int .i64 0, .int .i64 0, .int .i64 0, .int .i64 0, .int .i64 0, .int .i64 0, .bool false]), (w.heap.size + 1 + 1, 30, #[.int .i64 ct, .int .i64 cv]), (w.heap.size + 1, 28, #[.int .i64 t0, .int .i64 t1, .int .i64 t2, .int .i64 t3, .int .i64 t4, .int .i64 t5, .int .i64 t6, .bool false]), (w.heap.size, 26, #[.int .i64 key, .slice A l.length cap])] w')))
  have CO := Lib.hid (fun (u : World) (h : Kept w [(w.heap.size + 1 + 1 + 1 + 1, 30, #[.int .i64 0, .int .i64 0]), (w.heap.size + 1 + 1 + 1, 28, #[.int .i64 0, .int .i64 0, .int .i64 0, .int .i64 0, .int .i64 0, .int .i64 0, .int .i64 0, .bool false]), (w.heap.size + 1 + 1, 30, #[.int .i64 ct, .int .i64 cv]), (w.heap.size + 1, 28, #[.int .i64 t0, .int .i64 t1, .int .i64 t2, .int .i64 t3, .int .i64 t4, .int .i64 t5, .int .i64 t6, .bool false]), (w.heap.size, 26, #[.int .i64 key, .slice A l.length cap])] u) => (specCellOk_calls ct cv u).mono (fun e w' ⟨he, hb⟩ => (⟨he, h.below hb⟩ : _ ∧ Kept w [(w.heap.size + 1 + 1 + 1 + 1, 30, #[.int .i64 0, .int .i64 0]), (w.heap.size + 1 + 1 + 1, 28, #[.int .i64 0, .int .i64 0, .int .i64 0, .int .i64 0, .int .i64 0, .int .i64 0, .int .i64 0, .bool false]), (w.heap.size + 1 + 1, 30, #[.int .i64 ct, .int .i64 cv]), (w.heap.size + 1, 28, #[.int .i64 t0, .int .i64 t1, .int .i64 t2, .int .i64 t3, .int .i64 t4, .int .i64 t5, .int .i64 t6, .bool false]), (w.heap.size, 26, #[.int .i64 key, .slice A l.length cap])] w')))
  have K0 := Lib.hid k0
  clear k0
  clear hA
  have hd : decide (regionOf key l x < 0) = false := decide_eq_false (by omega)
  have PT := Lib.hid (TO.out (regionOf key l x))
  rw [trustB_yes ht] at PT
  have PC := CO
  rw [decide_eq_true hc] at PC
  have htm := ht.2.2.1
  generalize regionOf key l x = r at R hd PT
  clear hr ht hc TO CO
  unfold isTm at htm
  by_cases hv3 : value = -1
  · subst hv3
    clear hv
    go_enter Tryz.func10, Tryz.ntmps10
    go_wp2_with fail
    refine (R.out _ K0.out.1).mono ?_; rintro e wz ⟨rfl, b1⟩
    have hz := K0.out.below b1
    clear b1 R K0
    have p0 : wz.cell? ⟨w.heap.size, 0, none⟩ = some (.int .i64 key) := hz.cell (p := w.heap.size) (t := 26) (cs := #[.int .i64 key, .slice A l.length cap]) (by simp) 0
    have p1 : wz.cell? ⟨w.heap.size, 1, none⟩ = some (.slice A l.length cap) := hz.cell (p := w.heap.size) (t := 26) (cs := #[.int .i64 key, .slice A l.length cap]) (by simp) 1
    have q0 : wz.cell? ⟨w.heap.size + 1, 0, none⟩ = some (.int .i64 t0) := hz.cell (p := w.heap.size + 1) (t := 28) (cs := #[.int .i64 t0, .int .i64 t1, .int .i64 t2, .int .i64 t3, .int .i64 t4, .int .i64 t5, .int .i64 t6, .bool false]) (by simp) 0
    have q1 : wz.cell? ⟨w.heap.size + 1, 1, none⟩ = some (.int .i64 t1) := hz.cell (p := w.heap.size + 1) (t := 28) (cs := #[.int .i64 t0, .int .i64 t1, .int .i64 t2, .int .i64 t3, .int .i64 t4, .int .i64 t5, .int .i64 t6, .bool false]) (by simp) 1
    have q2 : wz.cell? ⟨w.heap.size + 1, 2, none⟩ = some (.int .i64 t2) := hz.cell (p := w.heap.size + 1) (t := 28) (cs := #[.int .i64 t0, .int .i64 t1, .int .i64 t2, .int .i64 t3, .int .i64 t4, .int .i64 t5, .int .i64 t6, .bool false]) (by simp) 2
    have q3 : wz.cell? ⟨w.heap.size + 1, 3, none⟩ = some (.int .i64 t3) := hz.cell (p := w.heap.size + 1) (t := 28) (cs := #[.int .i64 t0, .int .i64 t1, .int .i64 t2, .int .i64 t3, .int .i64 t4, .int .i64 t5, .int .i64 t6, .bool false]) (by simp) 3
    have q4 : wz.cell? ⟨w.heap.size + 1, 4, none⟩ = some (.int .i64 t4) := hz.cell (p := w.heap.size + 1) (t := 28) (cs := #[.int .i64 t0, .int .i64 t1, .int .i64 t2, .int .i64 t3, .int .i64 t4, .int .i64 t5, .int .i64 t6, .bool false]) (by simp) 4
    have q5 : wz.cell? ⟨w.heap.size + 1, 5, none⟩ = some (.int .i64 t5) := hz.cell (p := w.heap.size + 1) (t := 28) (cs := #[.int .i64 t0, .int .i64 t1, .int .i64 t2, .int .i64 t3, .int .i64 t4, .int .i64 t5, .int .i64 t6, .bool false]) (by simp) 5
    have q6 : wz.cell? ⟨w.heap.size + 1, 6, none⟩ = some (.int .i64 t6) := hz.cell (p := w.heap.size + 1) (t := 28) (cs := #[.int .i64 t0, .int .i64 t1, .int .i64 t2, .int .i64 t3, .int .i64 t4, .int .i64 t5, .int .i64 t6, .bool false]) (by simp) 6
    have q7 : wz.cell? ⟨w.heap.size + 1, 7, none⟩ = some (.bool false) := hz.cell (p := w.heap.size + 1) (t := 28) (cs := #[.int .i64 t0, .int .i64 t1, .int .i64 t2, .int .i64 t3, .int .i64 t4, .int .i64 t5, .int .i64 t6, .bool false]) (by simp) 7
    go_wp2_with fail
    refine (PT.out _ hz).mono ?_; rintro e wy ⟨rfl, hy⟩
    clear hz p0 p1 q0 q1 q2 q3 q4 q5 q6 q7 PT
    have s0 : wy.cell? ⟨w.heap.size + 1 + 1, 0, none⟩ = some (.int .i64 ct) := hy.cell (p := w.heap.size + 1 + 1) (t := 30) (cs := #[.int .i64 ct, .int .i64 cv]) (by simp) 0
    have s1 : wy.cell? ⟨w.heap.size + 1 + 1, 1, none⟩ = some (.int .i64 cv) := hy.cell (p := w.heap.size + 1 + 1) (t := 30) (cs := #[.int .i64 ct, .int .i64 cv]) (by simp) 1
    go_wp2_with fail
    refine (PC.out _ hy).mono ?_; rintro e wx ⟨rfl, hx⟩
    clear hy s0 s1 PC
    have q0 : wx.cell? ⟨w.heap.size + 1, 0, none⟩ = some (.int .i64 t0) := hx.cell (p := w.heap.size + 1) (t := 28) (cs := #[.int .i64 t0, .int .i64 t1, .int .i64 t2, .int .i64 t3, .int .i64 t4, .int .i64 t5, .int .i64 t6, .bool false]) (by simp) 0
    have q1 : wx.cell? ⟨w.heap.size + 1, 1, none⟩ = some (.int .i64 t1) := hx.cell (p := w.heap.size + 1) (t := 28) (cs := #[.int .i64 t0, .int .i64 t1, .int .i64 t2, .int .i64 t3, .int .i64 t4, .int .i64 t5, .int .i64 t6, .bool false]) (by simp) 1
    have q2 : wx.cell? ⟨w.heap.size + 1, 2, none⟩ = some (.int .i64 t2) := hx.cell (p := w.heap.size + 1) (t := 28) (cs := #[.int .i64 t0, .int .i64 t1, .int .i64 t2, .int .i64 t3, .int .i64 t4, .int .i64 t5, .int .i64 t6, .bool false]) (by simp) 2
    have q3 : wx.cell? ⟨w.heap.size + 1, 3, none⟩ = some (.int .i64 t3) := hx.cell (p := w.heap.size + 1) (t := 28) (cs := #[.int .i64 t0, .int .i64 t1, .int .i64 t2, .int .i64 t3, .int .i64 t4, .int .i64 t5, .int .i64 t6, .bool false]) (by simp) 3
    have q4 : wx.cell? ⟨w.heap.size + 1, 4, none⟩ = some (.int .i64 t4) := hx.cell (p := w.heap.size + 1) (t := 28) (cs := #[.int .i64 t0, .int .i64 t1, .int .i64 t2, .int .i64 t3, .int .i64 t4, .int .i64 t5, .int .i64 t6, .bool false]) (by simp) 4
    have q5 : wx.cell? ⟨w.heap.size + 1, 5, none⟩ = some (.int .i64 t5) := hx.cell (p := w.heap.size + 1) (t := 28) (cs := #[.int .i64 t0, .int .i64 t1, .int .i64 t2, .int .i64 t3, .int .i64 t4, .int .i64 t5, .int .i64 t6, .bool false]) (by simp) 5
    have q6 : wx.cell? ⟨w.heap.size + 1, 6, none⟩ = some (.int .i64 t6) := hx.cell (p := w.heap.size + 1) (t := 28) (cs := #[.int .i64 t0, .int .i64 t1, .int .i64 t2, .int .i64 t3, .int .i64 t4, .int .i64 t5, .int .i64 t6, .bool false]) (by simp) 6
    have q7 : wx.cell? ⟨w.heap.size + 1, 7, none⟩ = some (.bool false) := hx.cell (p := w.heap.size + 1) (t := 28) (cs := #[.int .i64 t0, .int .i64 t1, .int .i64 t2, .int .i64 t3, .int .i64 t4, .int .i64 t5, .int .i64 t6, .bool false]) (by simp) 7
    have s0 : wx.cell? ⟨w.heap.size + 1 + 1, 0, none⟩ = some (.int .i64 ct) := hx.cell (p := w.heap.size + 1 + 1) (t := 30) (cs := #[.int .i64 ct, .int .i64 cv]) (by simp) 0
    have s1 : wx.cell? ⟨w.heap.size + 1 + 1, 1, none⟩ = some (.int .i64 cv) := hx.cell (p := w.heap.size + 1 + 1) (t := 30) (cs := #[.int .i64 ct, .int .i64 cv]) (by simp) 1
    have fq7 := hx.frozen (p := w.heap.size + 1) (t := 28) (cs := #[.int .i64 t0, .int .i64 t1, .int .i64 t2, .int .i64 t3, .int .i64 t4, .int .i64 t5, .int .i64 t6, .bool false]) (by simp) 7
    have ks := (hx.sub (L' := [(w.heap.size + 1, 28, #[.int .i64 t0, .int .i64 t1, .int .i64 t2, .int .i64 t3, .int .i64 t4, .int .i64 t5, .int .i64 t6, .bool false]), (w.heap.size + 1 + 1 + 1 + 1, 30, #[.int .i64 0, .int .i64 0]), (w.heap.size + 1 + 1 + 1, 28, #[.int .i64 0, .int .i64 0, .int .i64 0, .int .i64 0, .int .i64 0, .int .i64 0, .int .i64 0, .bool false]), (w.heap.size + 1 + 1, 30, #[.int .i64 ct, .int .i64 cv]), (w.heap.size, 26, #[.int .i64 key, .slice A l.length cap])]) (by intro y hy; simp at hy ⊢; rcases hy with rfl | rfl | rfl | rfl | rfl <;> simp)).set (by intro y hy; simp at hy; rcases hy with rfl | rfl | rfl | rfl <;> simp <;> omega) 7 (.bool true)
    simp only [List.setIfInBounds_toArray, List.set_cons_zero, List.set_cons_succ] at ks
    have kq : Kept w [(w.heap.size + 1 + 1 + 1 + 1, 30, #[.int .i64 0, .int .i64 0]), (w.heap.size + 1 + 1 + 1, 28, #[.int .i64 0, .int .i64 0, .int .i64 0, .int .i64 0, .int .i64 0, .int .i64 0, .int .i64 0, .bool false]), (w.heap.size + 1 + 1, 30, #[.int .i64 ct, .int .i64 cv]), (w.heap.size + 1, 28, #[.int .i64 t0, .int .i64 t1, .int .i64 t2, .int .i64 t3, .int .i64 t4, .int .i64 t5, .int .i64 t6, .bool true]), (w.heap.size, 26, #[.int .i64 key, .slice A l.length cap])] _ := ks.sub (by intro y hy; simp at hy ⊢; rcases hy with rfl | rfl | rfl | rfl | rfl <;> simp)
    clear hx ks
    go_upto_region 10 with fail
    clear q0 q1 q2 q3 q4 q5 q6 q7 s0 s1 fq7
    generalize World.setCell _ _ _ = wq at kq ⊢
    have q0 : wq.cell? ⟨w.heap.size + 1, 0, none⟩ = some (.int .i64 t0) := kq.cell (p := w.heap.size + 1) (t := 28) (cs := #[.int .i64 t0, .int .i64 t1, .int .i64 t2, .int .i64 t3, .int .i64 t4, .int .i64 t5, .int .i64 t6, .bool true]) (by simp) 0
    have q1 : wq.cell? ⟨w.heap.size + 1, 1, none⟩ = some (.int .i64 t1) := kq.cell (p := w.heap.size + 1) (t := 28) (cs := #[.int .i64 t0, .int .i64 t1, .int .i64 t2, .int .i64 t3, .int .i64 t4, .int .i64 t5, .int .i64 t6, .bool true]) (by simp) 1
    have q2 : wq.cell? ⟨w.heap.size + 1, 2, none⟩ = some (.int .i64 t2) := kq.cell (p := w.heap.size + 1) (t := 28) (cs := #[.int .i64 t0, .int .i64 t1, .int .i64 t2, .int .i64 t3, .int .i64 t4, .int .i64 t5, .int .i64 t6, .bool true]) (by simp) 2
    have q3 : wq.cell? ⟨w.heap.size + 1, 3, none⟩ = some (.int .i64 t3) := kq.cell (p := w.heap.size + 1) (t := 28) (cs := #[.int .i64 t0, .int .i64 t1, .int .i64 t2, .int .i64 t3, .int .i64 t4, .int .i64 t5, .int .i64 t6, .bool true]) (by simp) 3
    have q4 : wq.cell? ⟨w.heap.size + 1, 4, none⟩ = some (.int .i64 t4) := kq.cell (p := w.heap.size + 1) (t := 28) (cs := #[.int .i64 t0, .int .i64 t1, .int .i64 t2, .int .i64 t3, .int .i64 t4, .int .i64 t5, .int .i64 t6, .bool true]) (by simp) 4
    have q5 : wq.cell? ⟨w.heap.size + 1, 5, none⟩ = some (.int .i64 t5) := kq.cell (p := w.heap.size + 1) (t := 28) (cs := #[.int .i64 t0, .int .i64 t1, .int .i64 t2, .int .i64 t3, .int .i64 t4, .int .i64 t5, .int .i64 t6, .bool true]) (by simp) 5
    have q6 : wq.cell? ⟨w.heap.size + 1, 6, none⟩ = some (.int .i64 t6) := kq.cell (p := w.heap.size + 1) (t := 28) (cs := #[.int .i64 t0, .int .i64 t1, .int .i64 t2, .int .i64 t3, .int .i64 t4, .int .i64 t5, .int .i64 t6, .bool true]) (by simp) 6
    have q7 : wq.cell? ⟨w.heap.size + 1, 7, none⟩ = some (.bool true) := kq.cell (p := w.heap.size + 1) (t := 28) (cs := #[.int .i64 t0, .int .i64 t1, .int .i64 t2, .int .i64 t3, .int .i64 t4, .int .i64 t5, .int .i64 t6, .bool true]) (by simp) 7
    have s0 : wq.cell? ⟨w.heap.size + 1 + 1, 0, none⟩ = some (.int .i64 ct) := kq.cell (p := w.heap.size + 1 + 1) (t := 30) (cs := #[.int .i64 ct, .int .i64 cv]) (by simp) 0
    have s1 : wq.cell? ⟨w.heap.size + 1 + 1, 1, none⟩ = some (.int .i64 cv) := kq.cell (p := w.heap.size + 1 + 1) (t := 30) (cs := #[.int .i64 ct, .int .i64 cv]) (by simp) 1
    have r0 : wq.cell? ⟨w.heap.size + 1 + 1 + 1, 0, none⟩ = some (.int .i64 0) := kq.cell (p := w.heap.size + 1 + 1 + 1) (t := 28) (cs := #[.int .i64 0, .int .i64 0, .int .i64 0, .int .i64 0, .int .i64 0, .int .i64 0, .int .i64 0, .bool false]) (by simp) 0
    have r1 : wq.cell? ⟨w.heap.size + 1 + 1 + 1, 1, none⟩ = some (.int .i64 0) := kq.cell (p := w.heap.size + 1 + 1 + 1) (t := 28) (cs := #[.int .i64 0, .int .i64 0, .int .i64 0, .int .i64 0, .int .i64 0, .int .i64 0, .int .i64 0, .bool false]) (by simp) 1
    have r2 : wq.cell? ⟨w.heap.size + 1 + 1 + 1, 2, none⟩ = some (.int .i64 0) := kq.cell (p := w.heap.size + 1 + 1 + 1) (t := 28) (cs := #[.int .i64 0, .int .i64 0, .int .i64 0, .int .i64 0, .int .i64 0, .int .i64 0, .int .i64 0, .bool false]) (by simp) 2
    have r3 : wq.cell? ⟨w.heap.size + 1 + 1 + 1, 3, none⟩ = some (.int .i64 0) := kq.cell (p := w.heap.size + 1 + 1 + 1) (t := 28) (cs := #[.int .i64 0, .int .i64 0, .int .i64 0, .int .i64 0, .int .i64 0, .int .i64 0, .int .i64 0, .bool false]) (by simp) 3
    have r4 : wq.cell? ⟨w.heap.size + 1 + 1 + 1, 4, none⟩ = some (.int .i64 0) := kq.cell (p := w.heap.size + 1 + 1 + 1) (t := 28) (cs := #[.int .i64 0, .int .i64 0, .int .i64 0, .int .i64 0, .int .i64 0, .int .i64 0, .int .i64 0, .bool false]) (by simp) 4
    have r5 : wq.cell? ⟨w.heap.size + 1 + 1 + 1, 5, none⟩ = some (.int .i64 0) := kq.cell (p := w.heap.size + 1 + 1 + 1) (t := 28) (cs := #[.int .i64 0, .int .i64 0, .int .i64 0, .int .i64 0, .int .i64 0, .int .i64 0, .int .i64 0, .bool false]) (by simp) 5
    have r6 : wq.cell? ⟨w.heap.size + 1 + 1 + 1, 6, none⟩ = some (.int .i64 0) := kq.cell (p := w.heap.size + 1 + 1 + 1) (t := 28) (cs := #[.int .i64 0, .int .i64 0, .int .i64 0, .int .i64 0, .int .i64 0, .int .i64 0, .int .i64 0, .bool false]) (by simp) 6
    have r7 : wq.cell? ⟨w.heap.size + 1 + 1 + 1, 7, none⟩ = some (.bool false) := kq.cell (p := w.heap.size + 1 + 1 + 1) (t := 28) (cs := #[.int .i64 0, .int .i64 0, .int .i64 0, .int .i64 0, .int .i64 0, .int .i64 0, .int .i64 0, .bool false]) (by simp) 7
    have fr0 := kq.frozen (p := w.heap.size + 1 + 1 + 1) (t := 28) (cs := #[.int .i64 0, .int .i64 0, .int .i64 0, .int .i64 0, .int .i64 0, .int .i64 0, .int .i64 0, .bool false]) (by simp) 0
    have fr1 := kq.frozen (p := w.heap.size + 1 + 1 + 1) (t := 28) (cs := #[.int .i64 0, .int .i64 0, .int .i64 0, .int .i64 0, .int .i64 0, .int .i64 0, .int .i64 0, .bool false]) (by simp) 1
    have fr2 := kq.frozen (p := w.heap.size + 1 + 1 + 1) (t := 28) (cs := #[.int .i64 0, .int .i64 0, .int .i64 0, .int .i64 0, .int .i64 0, .int .i64 0, .int .i64 0, .bool false]) (by simp) 2
    have fr3 := kq.frozen (p := w.heap.size + 1 + 1 + 1) (t := 28) (cs := #[.int .i64 0, .int .i64 0, .int .i64 0, .int .i64 0, .int .i64 0, .int .i64 0, .int .i64 0, .bool false]) (by simp) 3
    have fr4 := kq.frozen (p := w.heap.size + 1 + 1 + 1) (t := 28) (cs := #[.int .i64 0, .int .i64 0, .int .i64 0, .int .i64 0, .int .i64 0, .int .i64 0, .int .i64 0, .bool false]) (by simp) 4
    have fr5 := kq.frozen (p := w.heap.size + 1 + 1 + 1) (t := 28) (cs := #[.int .i64 0, .int .i64 0, .int .i64 0, .int .i64 0, .int .i64 0, .int .i64 0, .int .i64 0, .bool false]) (by simp) 5
    have fr6 := kq.frozen (p := w.heap.size + 1 + 1 + 1) (t := 28) (cs := #[.int .i64 0, .int .i64 0, .int .i64 0, .int .i64 0, .int .i64 0, .int .i64 0, .int .i64 0, .bool false]) (by simp) 6
    have fr7 := kq.frozen (p := w.heap.size + 1 + 1 + 1) (t := 28) (cs := #[.int .i64 0, .int .i64 0, .int .i64 0, .int .i64 0, .int .i64 0, .int .i64 0, .int .i64 0, .bool false]) (by simp) 7
    have z0 : wq.cell? ⟨w.heap.size + 1 + 1 + 1 + 1, 0, none⟩ = some (.int .i64 0) := kq.cell (p := w.heap.size + 1 + 1 + 1 + 1) (t := 30) (cs := #[.int .i64 0, .int .i64 0]) (by simp) 0
    have z1 : wq.cell? ⟨w.heap.size + 1 + 1 + 1 + 1, 1, none⟩ = some (.int .i64 0) := kq.cell (p := w.heap.size + 1 + 1 + 1 + 1) (t := 30) (cs := #[.int .i64 0, .int .i64 0]) (by simp) 1
    have fz0 := kq.frozen (p := w.heap.size + 1 + 1 + 1 + 1) (t := 30) (cs := #[.int .i64 0, .int .i64 0]) (by simp) 0
    have fz1 := kq.frozen (p := w.heap.size + 1 + 1 + 1 + 1) (t := 30) (cs := #[.int .i64 0, .int .i64 0]) (by simp) 1
    have KZ := Lib.hid kq
    clear kq
    go_region
    all_goals
      go_wp2_with fail
      first
        | (obtain ⟨w9, e9, ⟨d0, d1, d2, d3, d4, d5, d6, d7, d8, d9⟩, hb⟩ := touch_end (x0 := .int .i64 t0) (x1 := .int .i64 t1) (x2 := .int .i64 t2) (x3 := .int .i64 t3) (x4 := .int .i64 t4) (x5 := .int .i64 t5) (x6 := .int .i64 t6) (x7 := .bool true) (y0 := .int .i64 ct) (y1 := .int .i64 cv) (KZ.out.at_ (p := w.heap.size + 1 + 1 + 1) (t := 28) (cs := #[.int .i64 0, .int .i64 0, .int .i64 0, .int .i64 0, .int .i64 0, .int .i64 0, .int .i64 0, .bool false]) (by simp)) (KZ.out.at_ (p := w.heap.size + 1 + 1 + 1 + 1) (t := 30) (cs := #[.int .i64 0, .int .i64 0]) (by simp)) (by omega) KZ.out.1 (by omega) (by omega); rw [e9]; clear e9; exact bodyPost_ret (v := (.tuple #[.agg #[.int .i64 t0, .int .i64 t1, .int .i64 t2, .int .i64 t3, .int .i64 t4, .int .i64 t5, .int .i64 t6, .bool true], .agg #[.int .i64 ct, .int .i64 cv], .int .i64 0, .int .i64 4])) (by simp [results, Tryz.results10, go_sem, d0, d1, d2, d3, d4, d5, d6, d7, d8, d9]) rfl ⟨rfl, hb.drew⟩)
        | (obtain ⟨w9, e9, ⟨d0, d1, d2, d3, d4, d5, d6, d7, d8, d9⟩, hb⟩ := touch_end2 (x0 := .int .i64 t0) (x1 := .int .i64 t1) (x2 := .int .i64 t2) (x3 := .int .i64 t3) (x4 := .int .i64 t4) (x5 := .int .i64 t5) (x6 := .int .i64 t6) (x7 := .bool true) (y0 := .int .i64 ct) (y1 := .int .i64 cv) (KZ.out.at_ (p := w.heap.size + 1 + 1 + 1) (t := 28) (cs := #[.int .i64 0, .int .i64 0, .int .i64 0, .int .i64 0, .int .i64 0, .int .i64 0, .int .i64 0, .bool false]) (by simp)) (KZ.out.at_ (p := w.heap.size + 1 + 1 + 1 + 1) (t := 30) (cs := #[.int .i64 0, .int .i64 0]) (by simp)) (by omega) KZ.out.1 (by omega) (by omega); rw [e9]; clear e9; exact bodyPost_ret (v := (.tuple #[.agg #[.int .i64 t0, .int .i64 t1, .int .i64 t2, .int .i64 t3, .int .i64 t4, .int .i64 t5, .int .i64 t6, .bool true], .agg #[.int .i64 ct, .int .i64 cv], .int .i64 0, .int .i64 4])) (by simp [results, Tryz.results10, go_sem, d0, d1, d2, d3, d4, d5, d6, d7, d8, d9]) rfl ⟨rfl, hb.drew⟩)
  · have HVL := Lib.hid (show true = decide (isVal value) from (decide_eq_true (by rcases hv with h | h; exact absurd h hv3; exact h)).symm)
    have hv1 : (value == -1) = false := by simpa using hv3
    have hv2 : (value != -1) = true := by simpa using hv3
    clear hv
    go_enter Tryz.func10, Tryz.ntmps10
    go_wp2_with fail
    refine (R.out _ K0.out.1).mono ?_; rintro e wz ⟨rfl, b1⟩
    have hz := K0.out.below b1
    clear b1 R K0
    have p0 : wz.cell? ⟨w.heap.size, 0, none⟩ = some (.int .i64 key) := hz.cell (p := w.heap.size) (t := 26) (cs := #[.int .i64 key, .slice A l.length cap]) (by simp) 0
    have p1 : wz.cell? ⟨w.heap.size, 1, none⟩ = some (.slice A l.length cap) := hz.cell (p := w.heap.size) (t := 26) (cs := #[.int .i64 key, .slice A l.length cap]) (by simp) 1
    have q0 : wz.cell? ⟨w.heap.size + 1, 0, none⟩ = some (.int .i64 t0) := hz.cell (p := w.heap.size + 1) (t := 28) (cs := #[.int .i64 t0, .int .i64 t1, .int .i64 t2, .int .i64 t3, .int .i64 t4, .int .i64 t5, .int .i64 t6, .bool false]) (by simp) 0
    have q1 : wz.cell? ⟨w.heap.size + 1, 1, none⟩ = some (.int .i64 t1) := hz.cell (p := w.heap.size + 1) (t := 28) (cs := #[.int .i64 t0, .int .i64 t1, .int .i64 t2, .int .i64 t3, .int .i64 t4, .int .i64 t5, .int .i64 t6, .bool false]) (by simp) 1
    have q2 : wz.cell? ⟨w.heap.size + 1, 2, none⟩ = some (.int .i64 t2) := hz.cell (p := w.heap.size + 1) (t := 28) (cs := #[.int .i64 t0, .int .i64 t1, .int .i64 t2, .int .i64 t3, .int .i64 t4, .int .i64 t5, .int .i64 t6, .bool false]) (by simp) 2
    have q3 : wz.cell? ⟨w.heap.size + 1, 3, none⟩ = some (.int .i64 t3) := hz.cell (p := w.heap.size + 1) (t := 28) (cs := #[.int .i64 t0, .int .i64 t1, .int .i64 t2, .int .i64 t3, .int .i64 t4, .int .i64 t5, .int .i64 t6, .bool false]) (by simp) 3
    have q4 : wz.cell? ⟨w.heap.size + 1, 4, none⟩ = some (.int .i64 t4) := hz.cell (p := w.heap.size + 1) (t := 28) (cs := #[.int .i64 t0, .int .i64 t1, .int .i64 t2, .int .i64 t3, .int .i64 t4, .int .i64 t5, .int .i64 t6, .bool false]) (by simp) 4
    have q5 : wz.cell? ⟨w.heap.size + 1, 5, none⟩ = some (.int .i64 t5) := hz.cell (p := w.heap.size + 1) (t := 28) (cs := #[.int .i64 t0, .int .i64 t1, .int .i64 t2, .int .i64 t3, .int .i64 t4, .int .i64 t5, .int .i64 t6, .bool false]) (by simp) 5
    have q6 : wz.cell? ⟨w.heap.size + 1, 6, none⟩ = some (.int .i64 t6) := hz.cell (p := w.heap.size + 1) (t := 28) (cs := #[.int .i64 t0, .int .i64 t1, .int .i64 t2, .int .i64 t3, .int .i64 t4, .int .i64 t5, .int .i64 t6, .bool false]) (by simp) 6
    have q7 : wz.cell? ⟨w.heap.size + 1, 7, none⟩ = some (.bool false) := hz.cell (p := w.heap.size + 1) (t := 28) (cs := #[.int .i64 t0, .int .i64 t1, .int .i64 t2, .int .i64 t3, .int .i64 t4, .int .i64 t5, .int .i64 t6, .bool false]) (by simp) 7
    go_wp2_with fail
    refine (PT.out _ hz).mono ?_; rintro e wy ⟨rfl, hy⟩
    clear hz p0 p1 q0 q1 q2 q3 q4 q5 q6 q7 PT
    have s0 : wy.cell? ⟨w.heap.size + 1 + 1, 0, none⟩ = some (.int .i64 ct) := hy.cell (p := w.heap.size + 1 + 1) (t := 30) (cs := #[.int .i64 ct, .int .i64 cv]) (by simp) 0
    have s1 : wy.cell? ⟨w.heap.size + 1 + 1, 1, none⟩ = some (.int .i64 cv) := hy.cell (p := w.heap.size + 1 + 1) (t := 30) (cs := #[.int .i64 ct, .int .i64 cv]) (by simp) 1
    go_wp2_with fail
    refine (PC.out _ hy).mono ?_; rintro e wx ⟨rfl, hx⟩
    clear hy s0 s1 PC
    go_wp2_with fail
    refine (l2Value_b _ _ _ HVL.out).mono ?_; rintro e w' ⟨rfl, rfl⟩
    have q0 : wx.cell? ⟨w.heap.size + 1, 0, none⟩ = some (.int .i64 t0) := hx.cell (p := w.heap.size + 1) (t := 28) (cs := #[.int .i64 t0, .int .i64 t1, .int .i64 t2, .int .i64 t3, .int .i64 t4, .int .i64 t5, .int .i64 t6, .bool false]) (by simp) 0
    have q1 : wx.cell? ⟨w.heap.size + 1, 1, none⟩ = some (.int .i64 t1) := hx.cell (p := w.heap.size + 1) (t := 28) (cs := #[.int .i64 t0, .int .i64 t1, .int .i64 t2, .int .i64 t3, .int .i64 t4, .int .i64 t5, .int .i64 t6, .bool false]) (by simp) 1
    have q2 : wx.cell? ⟨w.heap.size + 1, 2, none⟩ = some (.int .i64 t2) := hx.cell (p := w.heap.size + 1) (t := 28) (cs := #[.int .i64 t0, .int .i64 t1, .int .i64 t2, .int .i64 t3, .int .i64 t4, .int .i64 t5, .int .i64 t6, .bool false]) (by simp) 2
    have q3 : wx.cell? ⟨w.heap.size + 1, 3, none⟩ = some (.int .i64 t3) := hx.cell (p := w.heap.size + 1) (t := 28) (cs := #[.int .i64 t0, .int .i64 t1, .int .i64 t2, .int .i64 t3, .int .i64 t4, .int .i64 t5, .int .i64 t6, .bool false]) (by simp) 3
    have q4 : wx.cell? ⟨w.heap.size + 1, 4, none⟩ = some (.int .i64 t4) := hx.cell (p := w.heap.size + 1) (t := 28) (cs := #[.int .i64 t0, .int .i64 t1, .int .i64 t2, .int .i64 t3, .int .i64 t4, .int .i64 t5, .int .i64 t6, .bool false]) (by simp) 4
    have q5 : wx.cell? ⟨w.heap.size + 1, 5, none⟩ = some (.int .i64 t5) := hx.cell (p := w.heap.size + 1) (t := 28) (cs := #[.int .i64 t0, .int .i64 t1, .int .i64 t2, .int .i64 t3, .int .i64 t4, .int .i64 t5, .int .i64 t6, .bool false]) (by simp) 5
    have q6 : wx.cell? ⟨w.heap.size + 1, 6, none⟩ = some (.int .i64 t6) := hx.cell (p := w.heap.size + 1) (t := 28) (cs := #[.int .i64 t0, .int .i64 t1, .int .i64 t2, .int .i64 t3, .int .i64 t4, .int .i64 t5, .int .i64 t6, .bool false]) (by simp) 6
    have q7 : wx.cell? ⟨w.heap.size + 1, 7, none⟩ = some (.bool false) := hx.cell (p := w.heap.size + 1) (t := 28) (cs := #[.int .i64 t0, .int .i64 t1, .int .i64 t2, .int .i64 t3, .int .i64 t4, .int .i64 t5, .int .i64 t6, .bool false]) (by simp) 7
    have s0 : wx.cell? ⟨w.heap.size + 1 + 1, 0, none⟩ = some (.int .i64 ct) := hx.cell (p := w.heap.size + 1 + 1) (t := 30) (cs := #[.int .i64 ct, .int .i64 cv]) (by simp) 0
    have s1 : wx.cell? ⟨w.heap.size + 1 + 1, 1, none⟩ = some (.int .i64 cv) := hx.cell (p := w.heap.size + 1 + 1) (t := 30) (cs := #[.int .i64 ct, .int .i64 cv]) (by simp) 1
    have fq7 := hx.frozen (p := w.heap.size + 1) (t := 28) (cs := #[.int .i64 t0, .int .i64 t1, .int .i64 t2, .int .i64 t3, .int .i64 t4, .int .i64 t5, .int .i64 t6, .bool false]) (by simp) 7
    have ks := (hx.sub (L' := [(w.heap.size + 1, 28, #[.int .i64 t0, .int .i64 t1, .int .i64 t2, .int .i64 t3, .int .i64 t4, .int .i64 t5, .int .i64 t6, .bool false]), (w.heap.size + 1 + 1 + 1 + 1, 30, #[.int .i64 0, .int .i64 0]), (w.heap.size + 1 + 1 + 1, 28, #[.int .i64 0, .int .i64 0, .int .i64 0, .int .i64 0, .int .i64 0, .int .i64 0, .int .i64 0, .bool false]), (w.heap.size + 1 + 1, 30, #[.int .i64 ct, .int .i64 cv]), (w.heap.size, 26, #[.int .i64 key, .slice A l.length cap])]) (by intro y hy; simp at hy ⊢; rcases hy with rfl | rfl | rfl | rfl | rfl <;> simp)).set (by intro y hy; simp at hy; rcases hy with rfl | rfl | rfl | rfl <;> simp <;> omega) 7 (.bool true)
    simp only [List.setIfInBounds_toArray, List.set_cons_zero, List.set_cons_succ] at ks
    have kq : Kept w [(w.heap.size + 1 + 1 + 1 + 1, 30, #[.int .i64 0, .int .i64 0]), (w.heap.size + 1 + 1 + 1, 28, #[.int .i64 0, .int .i64 0, .int .i64 0, .int .i64 0, .int .i64 0, .int .i64 0, .int .i64 0, .bool false]), (w.heap.size + 1 + 1, 30, #[.int .i64 ct, .int .i64 cv]), (w.heap.size + 1, 28, #[.int .i64 t0, .int .i64 t1, .int .i64 t2, .int .i64 t3, .int .i64 t4, .int .i64 t5, .int .i64 t6, .bool true]), (w.heap.size, 26, #[.int .i64 key, .slice A l.length cap])] _ := ks.sub (by intro y hy; simp at hy ⊢; rcases hy with rfl | rfl | rfl | rfl | rfl <;> simp)
    clear hx ks
    go_upto_region 10 with fail
    clear q0 q1 q2 q3 q4 q5 q6 q7 s0 s1 fq7
    generalize World.setCell _ _ _ = wq at kq ⊢
    have q0 : wq.cell? ⟨w.heap.size + 1, 0, none⟩ = some (.int .i64 t0) := kq.cell (p := w.heap.size + 1) (t := 28) (cs := #[.int .i64 t0, .int .i64 t1, .int .i64 t2, .int .i64 t3, .int .i64 t4, .int .i64 t5, .int .i64 t6, .bool true]) (by simp) 0
    have q1 : wq.cell? ⟨w.heap.size + 1, 1, none⟩ = some (.int .i64 t1) := kq.cell (p := w.heap.size + 1) (t := 28) (cs := #[.int .i64 t0, .int .i64 t1, .int .i64 t2, .int .i64 t3, .int .i64 t4, .int .i64 t5, .int .i64 t6, .bool true]) (by simp) 1
    have q2 : wq.cell? ⟨w.heap.size + 1, 2, none⟩ = some (.int .i64 t2) := kq.cell (p := w.heap.size + 1) (t := 28) (cs := #[.int .i64 t0, .int .i64 t1, .int .i64 t2, .int .i64 t3, .int .i64 t4, .int .i64 t5, .int .i64 t6, .bool true]) (by simp) 2
    have q3 : wq.cell? ⟨w.heap.size + 1, 3, none⟩ = some (.int .i64 t3) := kq.cell (p := w.heap.size + 1) (t := 28) (cs := #[.int .i64 t0, .int .i64 t1, .int .i64 t2, .int .i64 t3, .int .i64 t4, .int .i64 t5, .int .i64 t6, .bool true]) (by simp) 3
    have q4 : wq.cell? ⟨w.heap.size + 1, 4, none⟩ = some (.int .i64 t4) := kq.cell (p := w.heap.size + 1) (t := 28) (cs := #[.int .i64 t0, .int .i64 t1, .int .i64 t2, .int .i64 t3, .int .i64 t4, .int .i64 t5, .int .i64 t6, .bool true]) (by simp) 4
    have q5 : wq.cell? ⟨w.heap.size + 1, 5, none⟩ = some (.int .i64 t5) := kq.cell (p := w.heap.size + 1) (t := 28) (cs := #[.int .i64 t0, .int .i64 t1, .int .i64 t2, .int .i64 t3, .int .i64 t4, .int .i64 t5, .int .i64 t6, .bool true]) (by simp) 5
    have q6 : wq.cell? ⟨w.heap.size + 1, 6, none⟩ = some (.int .i64 t6) := kq.cell (p := w.heap.size + 1) (t := 28) (cs := #[.int .i64 t0, .int .i64 t1, .int .i64 t2, .int .i64 t3, .int .i64 t4, .int .i64 t5, .int .i64 t6, .bool true]) (by simp) 6
    have q7 : wq.cell? ⟨w.heap.size + 1, 7, none⟩ = some (.bool true) := kq.cell (p := w.heap.size + 1) (t := 28) (cs := #[.int .i64 t0, .int .i64 t1, .int .i64 t2, .int .i64 t3, .int .i64 t4, .int .i64 t5, .int .i64 t6, .bool true]) (by simp) 7
    have s0 : wq.cell? ⟨w.heap.size + 1 + 1, 0, none⟩ = some (.int .i64 ct) := kq.cell (p := w.heap.size + 1 + 1) (t := 30) (cs := #[.int .i64 ct, .int .i64 cv]) (by simp) 0
    have s1 : wq.cell? ⟨w.heap.size + 1 + 1, 1, none⟩ = some (.int .i64 cv) := kq.cell (p := w.heap.size + 1 + 1) (t := 30) (cs := #[.int .i64 ct, .int .i64 cv]) (by simp) 1
    have r0 : wq.cell? ⟨w.heap.size + 1 + 1 + 1, 0, none⟩ = some (.int .i64 0) := kq.cell (p := w.heap.size + 1 + 1 + 1) (t := 28) (cs := #[.int .i64 0, .int .i64 0, .int .i64 0, .int .i64 0, .int .i64 0, .int .i64 0, .int .i64 0, .bool false]) (by simp) 0
    have r1 : wq.cell? ⟨w.heap.size + 1 + 1 + 1, 1, none⟩ = some (.int .i64 0) := kq.cell (p := w.heap.size + 1 + 1 + 1) (t := 28) (cs := #[.int .i64 0, .int .i64 0, .int .i64 0, .int .i64 0, .int .i64 0, .int .i64 0, .int .i64 0, .bool false]) (by simp) 1
    have r2 : wq.cell? ⟨w.heap.size + 1 + 1 + 1, 2, none⟩ = some (.int .i64 0) := kq.cell (p := w.heap.size + 1 + 1 + 1) (t := 28) (cs := #[.int .i64 0, .int .i64 0, .int .i64 0, .int .i64 0, .int .i64 0, .int .i64 0, .int .i64 0, .bool false]) (by simp) 2
    have r3 : wq.cell? ⟨w.heap.size + 1 + 1 + 1, 3, none⟩ = some (.int .i64 0) := kq.cell (p := w.heap.size + 1 + 1 + 1) (t := 28) (cs := #[.int .i64 0, .int .i64 0, .int .i64 0, .int .i64 0, .int .i64 0, .int .i64 0, .int .i64 0, .bool false]) (by simp) 3
    have r4 : wq.cell? ⟨w.heap.size + 1 + 1 + 1, 4, none⟩ = some (.int .i64 0) := kq.cell (p := w.heap.size + 1 + 1 + 1) (t := 28) (cs := #[.int .i64 0, .int .i64 0, .int .i64 0, .int .i64 0, .int .i64 0, .int .i64 0, .int .i64 0, .bool false]) (by simp) 4
    have r5 : wq.cell? ⟨w.heap.size + 1 + 1 + 1, 5, none⟩ = some (.int .i64 0) := kq.cell (p := w.heap.size + 1 + 1 + 1) (t := 28) (cs := #[.int .i64 0, .int .i64 0, .int .i64 0, .int .i64 0, .int .i64 0, .int .i64 0, .int .i64 0, .bool false]) (by simp) 5
    have r6 : wq.cell? ⟨w.heap.size + 1 + 1 + 1, 6, none⟩ = some (.int .i64 0) := kq.cell (p := w.heap.size + 1 + 1 + 1) (t := 28) (cs := #[.int .i64 0, .int .i64 0, .int .i64 0, .int .i64 0, .int .i64 0, .int .i64 0, .int .i64 0, .bool false]) (by simp) 6
    have r7 : wq.cell? ⟨w.heap.size + 1 + 1 + 1, 7, none⟩ = some (.bool false) := kq.cell (p := w.heap.size + 1 + 1 + 1) (t := 28) (cs := #[.int .i64 0, .int .i64 0, .int .i64 0, .int .i64 0, .int .i64 0, .int .i64 0, .int .i64 0, .bool false]) (by simp) 7
    have fr0 := kq.frozen (p := w.heap.size + 1 + 1 + 1) (t := 28) (cs := #[.int .i64 0, .int .i64 0, .int .i64 0, .int .i64 0, .int .i64 0, .int .i64 0, .int .i64 0, .bool false]) (by simp) 0
    have fr1 := kq.frozen (p := w.heap.size + 1 + 1 + 1) (t := 28) (cs := #[.int .i64 0, .int .i64 0, .int .i64 0, .int .i64 0, .int .i64 0, .int .i64 0, .int .i64 0, .bool false]) (by simp) 1
    have fr2 := kq.frozen (p := w.heap.size + 1 + 1 + 1) (t := 28) (cs := #[.int .i64 0, .int .i64 0, .int .i64 0, .int .i64 0, .int .i64 0, .int .i64 0, .int .i64 0, .bool false]) (by simp) 2
    have fr3 := kq.frozen (p := w.heap.size + 1 + 1 + 1) (t := 28) (cs := #[.int .i64 0, .int .i64 0, .int .i64 0, .int .i64 0, .int .i64 0, .int .i64 0, .int .i64 0, .bool false]) (by simp) 3
    have fr4 := kq.frozen (p := w.heap.size + 1 + 1 + 1) (t := 28) (cs := #[.int .i64 0, .int .i64 0, .int .i64 0, .int .i64 0, .int .i64 0, .int .i64 0, .int .i64 0, .bool false]) (by simp) 4
    have fr5 := kq.frozen (p := w.heap.size + 1 + 1 + 1) (t := 28) (cs := #[.int .i64 0, .int .i64 0, .int .i64 0, .int .i64 0, .int .i64 0, .int .i64 0, .int .i64 0, .bool false]) (by simp) 5
    have fr6 := kq.frozen (p := w.heap.size + 1 + 1 + 1) (t := 28) (cs := #[.int .i64 0, .int .i64 0, .int .i64 0, .int .i64 0, .int .i64 0, .int .i64 0, .int .i64 0, .bool false]) (by simp) 6
    have fr7 := kq.frozen (p := w.heap.size + 1 + 1 + 1) (t := 28) (cs := #[.int .i64 0, .int .i64 0, .int .i64 0, .int .i64 0, .int .i64 0, .int .i64 0, .int .i64 0, .bool false]) (by simp) 7
    have z0 : wq.cell? ⟨w.heap.size + 1 + 1 + 1 + 1, 0, none⟩ = some (.int .i64 0) := kq.cell (p := w.heap.size + 1 + 1 + 1 + 1) (t := 30) (cs := #[.int .i64 0, .int .i64 0]) (by simp) 0
    have z1 : wq.cell? ⟨w.heap.size + 1 + 1 + 1 + 1, 1, none⟩ = some (.int .i64 0) := kq.cell (p := w.heap.size + 1 + 1 + 1 + 1) (t := 30) (cs := #[.int .i64 0, .int .i64 0]) (by simp) 1
    have fz0 := kq.frozen (p := w.heap.size + 1 + 1 + 1 + 1) (t := 30) (cs := #[.int .i64 0, .int .i64 0]) (by simp) 0
    have fz1 := kq.frozen (p := w.heap.size + 1 + 1 + 1 + 1) (t := 30) (cs := #[.int .i64 0, .int .i64 0]) (by simp) 1
    have KZ := Lib.hid kq
    clear kq
    go_region
    all_goals
      go_wp2_with fail
      first
        | (obtain ⟨w9, e9, ⟨d0, d1, d2, d3, d4, d5, d6, d7, d8, d9⟩, hb⟩ := touch_end (x0 := .int .i64 t0) (x1 := .int .i64 t1) (x2 := .int .i64 t2) (x3 := .int .i64 t3) (x4 := .int .i64 t4) (x5 := .int .i64 t5) (x6 := .int .i64 t6) (x7 := .bool true) (y0 := .int .i64 ct) (y1 := .int .i64 cv) (KZ.out.at_ (p := w.heap.size + 1 + 1 + 1) (t := 28) (cs := #[.int .i64 0, .int .i64 0, .int .i64 0, .int .i64 0, .int .i64 0, .int .i64 0, .int .i64 0, .bool false]) (by simp)) (KZ.out.at_ (p := w.heap.size + 1 + 1 + 1 + 1) (t := 30) (cs := #[.int .i64 0, .int .i64 0]) (by simp)) (by omega) KZ.out.1 (by omega) (by omega); rw [e9]; clear e9; exact bodyPost_ret (v := (.tuple #[.agg #[.int .i64 t0, .int .i64 t1, .int .i64 t2, .int .i64 t3, .int .i64 t4, .int .i64 t5, .int .i64 t6, .bool true], .agg #[.int .i64 ct, .int .i64 cv], .int .i64 0, .int .i64 4])) (by simp [results, Tryz.results10, go_sem, d0, d1, d2, d3, d4, d5, d6, d7, d8, d9]) rfl ⟨rfl, hb.drew⟩)
        | (obtain ⟨w9, e9, ⟨d0, d1, d2, d3, d4, d5, d6, d7, d8, d9⟩, hb⟩ := touch_end2 (x0 := .int .i64 t0) (x1 := .int .i64 t1) (x2 := .int .i64 t2) (x3 := .int .i64 t3) (x4 := .int .i64 t4) (x5 := .int .i64 t5) (x6 := .int .i64 t6) (x7 := .bool true) (y0 := .int .i64 ct) (y1 := .int .i64 cv) (KZ.out.at_ (p := w.heap.size + 1 + 1 + 1) (t := 28) (cs := #[.int .i64 0, .int .i64 0, .int .i64 0, .int .i64 0, .int .i64 0, .int .i64 0, .int .i64 0, .bool false]) (by simp)) (KZ.out.at_ (p := w.heap.size + 1 + 1 + 1 + 1) (t := 30) (cs := #[.int .i64 0, .int .i64 0]) (by simp)) (by omega) KZ.out.1 (by omega) (by omega); rw [e9]; clear e9; exact bodyPost_ret (v := (.tuple #[.agg #[.int .i64 t0, .int .i64 t1, .int .i64 t2, .int .i64 t3, .int .i64 t4, .int .i64 t5, .int .i64 t6, .bool true], .agg #[.int .i64 ct, .int .i64 cv], .int .i64 0, .int .i64 4])) (by simp [results, Tryz.results10, go_sem, d0, d1, d2, d3, d4, d5, d6, d7, d8, d9]) rfl ⟨rfl, hb.drew⟩)
end Go.Proofs.YteopplldbcgjjaaGreatDoor.Mx
namespace Go.Proofs.YteopplldbcgjjaaGreatDoor.Mx
open Go.ChangeShapes Go.WideShapes Go.ChangeAt Go.RowKit
set_option linter.unusedVariables false
def zeroTru : Tru := ⟨0, 0, 0, 0, 0, 0, 0, false⟩
end Go.Proofs.YteopplldbcgjjaaGreatDoor.Mx
namespace Go.Proofs.YteopplldbcgjjaaGreatDoor.Mx
open Go.ChangeShapes Go.WideShapes Go.ChangeAt Go.RowKit
set_option linter.unusedVariables false
noncomputable def touched (key : Int) (l : List Int) (t : Tru) (x ct cv value : Int) : Tru × (Int × Int) × Int × Int :=
  open Classical in
  if touchOk key l t x ct cv value then
    if t.failed = true then (t, (ct, cv), 0, 2)
    else if 100000 ≤ t.clock then (t, (ct, cv), 0, 3)
    else if t.clock < ct then (⟨t.clock, t.epoch, t.cursor, t.read, t.written, t.nread, t.nwritten, true⟩, (ct, cv), 0, 4)
    else (sumsT key ⟨t.clock + 1, t.epoch, t.cursor, t.read, t.written, t.nread, t.nwritten, false⟩ (behindB key l t.cursor x) (tripleIn x ct cv).1 (tripleIn x ct cv).2.1 (tripleIn x ct cv).2.2
        (tripleIn x (cellOf key x (t.clock + 1) (if value = -1 then valueIn key x ct cv else value)).1 (cellOf key x (t.clock + 1) (if value = -1 then valueIn key x ct cv else value)).2).1
        (tripleIn x (cellOf key x (t.clock + 1) (if value = -1 then valueIn key x ct cv else value)).1 (cellOf key x (t.clock + 1) (if value = -1 then valueIn key x ct cv else value)).2).2.1
        (tripleIn x (cellOf key x (t.clock + 1) (if value = -1 then valueIn key x ct cv else value)).1 (cellOf key x (t.clock + 1) (if value = -1 then valueIn key x ct cv else value)).2).2.2,
      cellOf key x (t.clock + 1) (if value = -1 then valueIn key x ct cv else value), valueIn key x ct cv, 0)
  else (zeroTru, (0, 0), 0, 1)
theorem specTouched_calls (key x ct cv value : Int) (A : Option Addr) (l : List Int) (cap : Nat) (t0 t1 t2 t3 t4 t5 t6 : Int) (t7 : Bool) (w : World) (hn : l.length ≤ maxLen) (hcap : l.length ≤ cap) (hA : Ints w .i64 w.heap.size A l) (hxx : I64 x) :
    Calls Tryz.prog 10 #[.agg #[.int .i64 key, .slice A l.length cap], .agg #[.int .i64 t0, .int .i64 t1, .int .i64 t2, .int .i64 t3, .int .i64 t4, .int .i64 t5, .int .i64 t6, .bool t7], .int .i64 x, .agg #[.int .i64 ct, .int .i64 cv], .int .i64 value] w fun e w' => e = .returned (.tuple #[.agg #[.int .i64 (touched key l ⟨t0, t1, t2, t3, t4, t5, t6, t7⟩ x ct cv value).1.clock, .int .i64 (touched key l ⟨t0, t1, t2, t3, t4, t5, t6, t7⟩ x ct cv value).1.epoch, .int .i64 (touched key l ⟨t0, t1, t2, t3, t4, t5, t6, t7⟩ x ct cv value).1.cursor, .int .i64 (touched key l ⟨t0, t1, t2, t3, t4, t5, t6, t7⟩ x ct cv value).1.read, .int .i64 (touched key l ⟨t0, t1, t2, t3, t4, t5, t6, t7⟩ x ct cv value).1.written, .int .i64 (touched key l ⟨t0, t1, t2, t3, t4, t5, t6, t7⟩ x ct cv value).1.nread, .int .i64 (touched key l ⟨t0, t1, t2, t3, t4, t5, t6, t7⟩ x ct cv value).1.nwritten, .bool (touched key l ⟨t0, t1, t2, t3, t4, t5, t6, t7⟩ x ct cv value).1.failed], .agg #[.int .i64 (touched key l ⟨t0, t1, t2, t3, t4, t5, t6, t7⟩ x ct cv value).2.1.1, .int .i64 (touched key l ⟨t0, t1, t2, t3, t4, t5, t6, t7⟩ x ct cv value).2.1.2], .int .i64 (touched key l ⟨t0, t1, t2, t3, t4, t5, t6, t7⟩ x ct cv value).2.2.1, .int .i64 (touched key l ⟨t0, t1, t2, t3, t4, t5, t6, t7⟩ x ct cv value).2.2.2]) ∧ Below w.heap.size w w' := by
  unfold touched
  by_cases h : touchOk key l ⟨t0, t1, t2, t3, t4, t5, t6, t7⟩ x ct cv value
  · rw [if_pos h]
    cases t7 with
    | true => rw [if_pos rfl]; exact specTouched_failed key x ct cv value A l cap t0 t1 t2 t3 t4 t5 t6 w hn hcap hA h.1 h.2.1 h.2.2.1 h.2.2.2
    | false =>
      rw [if_neg (by simp)]
      by_cases h1 : 100000 ≤ t0
      · rw [if_pos h1]; exact specTouched_spent key x ct cv value A l cap t0 t1 t2 t3 t4 t5 t6 w hn hcap hA h.1 h.2.1 h.2.2.1 h.2.2.2 h1
      · rw [if_neg h1]
        by_cases h2 : t0 < ct
        · rw [if_pos h2]; exact specTouched_caught key x ct cv value A l cap t0 t1 t2 t3 t4 t5 t6 w hn hcap hA h.1 h.2.1 h.2.2.1 h.2.2.2 h1 h2
        · rw [if_neg h2]; exact specTouched_ok key x ct cv value A l cap t0 t1 t2 t3 t4 t5 t6 w hn hcap hA h.1 h.2.1 h.2.2.1 h.2.2.2 h1 h2 hxx _ rfl
  · rw [if_neg h]; exact specTouched_bad key x ct cv value A l cap t0 t1 t2 t3 t4 t5 t6 t7 w hn hcap hA h
end Go.Proofs.YteopplldbcgjjaaGreatDoor.Mx

import Derived.Test.YteopplldbcgjjaaGreatDoorE05
import Derived.Test.YteopplldbcgjjaaGreatDoorE08
import Derived.Deep.AppendLies
import Derived.Test.YteopplldbcgjjaaGreatDoorE04
namespace Go.Proofs.YteopplldbcgjjaaGreatDoor.Mx
open Go.ChangeShapes Go.WideShapes Go.ChangeAt Go.RowKit
set_option linter.unusedVariables false
theorem trust_end {w w1 : World} {r : Nat} {x0 x1 x2 x3 x4 x5 x6 x7 z0 z1 z2 z3 z4 z5 z6 z7 : Value} (hk : CellsAt w1 r 28 #[z0, z1, z2, z3, z4, z5, z6, z7]) (hb : Below w.heap.size w w1) (hr : w.heap.size ≤ r) :
    ∃ w4, ((((((((w1.setCell ⟨r, 0, none⟩ x0).setCell ⟨r, 1, none⟩ x1).setCell ⟨r, 2, none⟩ x2).setCell ⟨r, 3, none⟩ x3).setCell ⟨r, 4, none⟩ x4).setCell ⟨r, 5, none⟩ x5).setCell ⟨r, 6, none⟩ x6).setCell ⟨r, 7, none⟩ x7) = w4 ∧ (w4.cell? ⟨r, 0, none⟩ = some x0 ∧ w4.cell? ⟨r, 1, none⟩ = some x1 ∧ w4.cell? ⟨r, 2, none⟩ = some x2 ∧ w4.cell? ⟨r, 3, none⟩ = some x3 ∧ w4.cell? ⟨r, 4, none⟩ = some x4 ∧ w4.cell? ⟨r, 5, none⟩ = some x5 ∧ w4.cell? ⟨r, 6, none⟩ = some x6 ∧ w4.cell? ⟨r, 7, none⟩ = some x7) ∧ CellsAt w4 r 28 #[x0, x1, x2, x3, x4, x5, x6, x7] ∧ Below w.heap.size w w4 ∧ w1.grownBy w4 (some r) := by
  have h0 := ((((((((hk.set_ 0 x0).set_ 1 x1).set_ 2 x2).set_ 3 x3).set_ 4 x4).set_ 5 x5).set_ 6 x6).set_ 7 x7)
  simp only [List.setIfInBounds_toArray, List.set_cons_zero, List.set_cons_succ] at h0
  refine ⟨_, rfl, ?_, h0, ((((((((hb.setCell (p := ⟨r, 0, none⟩) hr x0).setCell (p := ⟨r, 1, none⟩) hr x1).setCell (p := ⟨r, 2, none⟩) hr x2).setCell (p := ⟨r, 3, none⟩) hr x3).setCell (p := ⟨r, 4, none⟩) hr x4).setCell (p := ⟨r, 5, none⟩) hr x5).setCell (p := ⟨r, 6, none⟩) hr x6).setCell (p := ⟨r, 7, none⟩) hr x7), (gb_set (gb_set (gb_set (gb_set (gb_set (gb_set (gb_set (gb_set (gb_refl w1 (some r)) 0 x0) 1 x1) 2 x2) 3 x3) 4 x4) 5 x5) 6 x6) 7 x7)⟩
  generalize World.setCell _ _ _ = w4 at h0 ⊢
  exact ⟨h0.cell 0, h0.cell 1, h0.cell 2, h0.cell 3, h0.cell 4, h0.cell 5, h0.cell 6, h0.cell 7⟩
noncomputable def sumsT (key : Int) (t : Tru) (next : Bool) (a b c a' b' c' : Int) : Tru :=
  match next with
  | true => ⟨t.clock, t.epoch, t.cursor, t.read, t.written, addOf t.nread (tagOf key a b c), addOf t.nwritten (tagOf key a' b' c'), t.failed⟩
  | false => ⟨t.clock, t.epoch, t.cursor, addOf t.read (tagOf key a b c), addOf t.written (tagOf key a' b' c'), t.nread, t.nwritten, t.failed⟩
set_option maxHeartbeats 2000000 in
theorem l8Sums_true (key : Int) (A : Option Addr) (n cap : Nat) (t0 t1 t2 t3 t4 t5 t6 : Int) (t7 : Bool) (a b c a' b' c' : Int) (w : World) :
    Calls Tryz.prog 45 #[.agg #[.int .i64 key, .slice A n cap], .agg #[.int .i64 t0, .int .i64 t1, .int .i64 t2, .int .i64 t3, .int .i64 t4, .int .i64 t5, .int .i64 t6, .bool t7], .bool true, .agg #[.int .i64 a, .int .i64 b, .int .i64 c], .agg #[.int .i64 a', .int .i64 b', .int .i64 c']] w fun e w' => e = .returned (.agg #[.int .i64 (sumsT key ⟨t0, t1, t2, t3, t4, t5, t6, t7⟩ true a b c a' b' c').clock, .int .i64 (sumsT key ⟨t0, t1, t2, t3, t4, t5, t6, t7⟩ true a b c a' b' c').epoch, .int .i64 (sumsT key ⟨t0, t1, t2, t3, t4, t5, t6, t7⟩ true a b c a' b' c').cursor, .int .i64 (sumsT key ⟨t0, t1, t2, t3, t4, t5, t6, t7⟩ true a b c a' b' c').read, .int .i64 (sumsT key ⟨t0, t1, t2, t3, t4, t5, t6, t7⟩ true a b c a' b' c').written, .int .i64 (sumsT key ⟨t0, t1, t2, t3, t4, t5, t6, t7⟩ true a b c a' b' c').nread, .int .i64 (sumsT key ⟨t0, t1, t2, t3, t4, t5, t6, t7⟩ true a b c a' b' c').nwritten, .bool (sumsT key ⟨t0, t1, t2, t3, t4, t5, t6, t7⟩ true a b c a' b' c').failed]) ∧ Below w.heap.size w w' := by
  have k0 := (((((Kept.refl w).new 26 #[.int .i64 key, .slice A n cap]).new 28 #[.int .i64 t0, .int .i64 t1, .int .i64 t2, .int .i64 t3, .int .i64 t4, .int .i64 t5, .int .i64 t6, .bool t7]).new 85 #[.int .i64 a, .int .i64 b, .int .i64 c]).new 85 #[.int .i64 a', .int .i64 b', .int .i64 c']).new 28 #[.int .i64 0, .int .i64 0, .int .i64 0, .int .i64 0, .int .i64 0, .int .i64 0, .int .i64 0, .bool false]
  rw [show ((((w.alloc (.cells #[.int .i64 key, .slice A n cap] 26)).alloc (.cells #[.int .i64 t0, .int .i64 t1, .int .i64 t2, .int .i64 t3, .int .i64 t4, .int .i64 t5, .int .i64 t6, .bool t7] 28)).alloc (.cells #[.int .i64 a, .int .i64 b, .int .i64 c] 85)).alloc (.cells #[.int .i64 a', .int .i64 b', .int .i64 c'] 85)).heap.size = w.heap.size + 1 + 1 + 1 + 1 by simp, show (((w.alloc (.cells #[.int .i64 key, .slice A n cap] 26)).alloc (.cells #[.int .i64 t0, .int .i64 t1, .int .i64 t2, .int .i64 t3, .int .i64 t4, .int .i64 t5, .int .i64 t6, .bool t7] 28)).alloc (.cells #[.int .i64 a, .int .i64 b, .int .i64 c] 85)).heap.size = w.heap.size + 1 + 1 + 1 by simp, show ((w.alloc (.cells #[.int .i64 key, .slice A n cap] 26)).alloc (.cells #[.int .i64 t0, .int .i64 t1, .int .i64 t2, .int .i64 t3, .int .i64 t4, .int .i64 t5, .int .i64 t6, .bool t7] 28)).heap.size = w.heap.size + 1 + 1 by simp, show (w.alloc (.cells #[.int .i64 key, .slice A n cap] 26)).heap.size = w.heap.size + 1 by simp] at k0
  have K0 := Lib.hid k0
  have C := Lib.hid (fun u => specTag_calls key a b c u)
  have D := Lib.hid (fun u => specTag_calls key a' b' c' u)
  clear k0
  simp only [sumsT]
  generalize tagOf key a b c = u at C ⊢
  generalize tagOf key a' b' c' = v at D ⊢
  go_enter Tryz.func45, Tryz.ntmps45
  go_wp2_with fail
  refine (C.out _).mono ?_; rintro e w1 ⟨rfl, b1⟩
  have k1 := K0.out.below b1
  have p0 : w1.cell? ⟨w.heap.size, 0, none⟩ = some (.int .i64 key) := k1.cell (p := w.heap.size) (t := 26) (cs := #[.int .i64 key, .slice A n cap]) (by simp) 0
  have g0 : w1.cell? ⟨w.heap.size + 1 + 1 + 1, 0, none⟩ = some (.int .i64 a') := k1.cell (p := w.heap.size + 1 + 1 + 1) (t := 85) (cs := #[.int .i64 a', .int .i64 b', .int .i64 c']) (by simp) 0
  have g1 : w1.cell? ⟨w.heap.size + 1 + 1 + 1, 1, none⟩ = some (.int .i64 b') := k1.cell (p := w.heap.size + 1 + 1 + 1) (t := 85) (cs := #[.int .i64 a', .int .i64 b', .int .i64 c']) (by simp) 1
  have g2 : w1.cell? ⟨w.heap.size + 1 + 1 + 1, 2, none⟩ = some (.int .i64 c') := k1.cell (p := w.heap.size + 1 + 1 + 1) (t := 85) (cs := #[.int .i64 a', .int .i64 b', .int .i64 c']) (by simp) 2
  have K1 := Lib.hid k1
  clear b1 k1 C K0
  go_wp2_with fail
  refine (D.out _).mono ?_; rintro e w2 ⟨rfl, b2⟩
  have k2 := K1.out.below b2
  have q5 : w2.cell? ⟨w.heap.size + 1, 5, none⟩ = some (.int .i64 t5) := k2.cell (p := w.heap.size + 1) (t := 28) (cs := #[.int .i64 t0, .int .i64 t1, .int .i64 t2, .int .i64 t3, .int .i64 t4, .int .i64 t5, .int .i64 t6, .bool t7]) (by simp) 5
  have q6 : w2.cell? ⟨w.heap.size + 1, 6, none⟩ = some (.int .i64 t6) := k2.cell (p := w.heap.size + 1) (t := 28) (cs := #[.int .i64 t0, .int .i64 t1, .int .i64 t2, .int .i64 t3, .int .i64 t4, .int .i64 t5, .int .i64 t6, .bool t7]) (by simp) 6
  have f5 := k2.frozen (p := w.heap.size + 1) (t := 28) (cs := #[.int .i64 t0, .int .i64 t1, .int .i64 t2, .int .i64 t3, .int .i64 t4, .int .i64 t5, .int .i64 t6, .bool t7]) (by simp) 5
  have f6 := k2.frozen (p := w.heap.size + 1) (t := 28) (cs := #[.int .i64 t0, .int .i64 t1, .int .i64 t2, .int .i64 t3, .int .i64 t4, .int .i64 t5, .int .i64 t6, .bool t7]) (by simp) 6
  have k3 : Kept w [(w.heap.size + 1, 28, #[.int .i64 t0, .int .i64 t1, .int .i64 t2, .int .i64 t3, .int .i64 t4, .int .i64 t5, .int .i64 t6, .bool t7]), (w.heap.size + 1 + 1 + 1 + 1, 28, #[.int .i64 0, .int .i64 0, .int .i64 0, .int .i64 0, .int .i64 0, .int .i64 0, .int .i64 0, .bool false])] w2 := k2.sub (by intro x hx; simp at hx; rcases hx with rfl | rfl <;> simp)
  have K3 := Lib.hid ((k3.set (by intro x hx; simp at hx; subst hx; simp <;> omega) 5 (.int .i64 (addOf t5 u))).set (by intro x hx; simp at hx; subst hx; simp <;> omega) 6 (.int .i64 (addOf t6 v)))
  clear b2 k2 k3 D K1 p0 g0 g1 g2
  go_wp2_with fail
  refine (specAdd_calls _ _ _).mono ?_; rintro e w' ⟨rfl, rfl⟩
  go_wp2_with fail
  refine (specAdd_calls _ _ _).mono ?_; rintro e w' ⟨rfl, rfl⟩
  go_upto_region 8 with fail
  have k4 : Kept w [(w.heap.size + 1, 28, #[.int .i64 t0, .int .i64 t1, .int .i64 t2, .int .i64 t3, .int .i64 t4, .int .i64 (addOf t5 u), .int .i64 (addOf t6 v), .bool t7]), (w.heap.size + 1 + 1 + 1 + 1, 28, #[.int .i64 0, .int .i64 0, .int .i64 0, .int .i64 0, .int .i64 0, .int .i64 0, .int .i64 0, .bool false])] ((w2.setCell ⟨w.heap.size + 1, 5, none⟩ (.int .i64 (addOf t5 u))).setCell ⟨w.heap.size + 1, 6, none⟩ (.int .i64 (addOf t6 v))) := K3.out
  clear K3 q5 q6 f5 f6
  generalize World.setCell _ _ _ = w3 at k4 ⊢
  have a0 : w3.cell? ⟨w.heap.size + 1, 0, none⟩ = some (.int .i64 t0) := k4.cell (List.mem_cons_self ..) 0
  have a1 : w3.cell? ⟨w.heap.size + 1, 1, none⟩ = some (.int .i64 t1) := k4.cell (List.mem_cons_self ..) 1
  have a2 : w3.cell? ⟨w.heap.size + 1, 2, none⟩ = some (.int .i64 t2) := k4.cell (List.mem_cons_self ..) 2
  have a3 : w3.cell? ⟨w.heap.size + 1, 3, none⟩ = some (.int .i64 t3) := k4.cell (List.mem_cons_self ..) 3
  have a4 : w3.cell? ⟨w.heap.size + 1, 4, none⟩ = some (.int .i64 t4) := k4.cell (List.mem_cons_self ..) 4
  have a5 : w3.cell? ⟨w.heap.size + 1, 5, none⟩ = some (.int .i64 (addOf t5 u)) := k4.cell (List.mem_cons_self ..) 5
  have a6 : w3.cell? ⟨w.heap.size + 1, 6, none⟩ = some (.int .i64 (addOf t6 v)) := k4.cell (List.mem_cons_self ..) 6
  have a7 : w3.cell? ⟨w.heap.size + 1, 7, none⟩ = some (.bool t7) := k4.cell (List.mem_cons_self ..) 7
  have r0 : w3.cell? ⟨w.heap.size + 1 + 1 + 1 + 1, 0, none⟩ = some (.int .i64 0) := k4.tail.cell (List.mem_cons_self ..) 0
  have r1 : w3.cell? ⟨w.heap.size + 1 + 1 + 1 + 1, 1, none⟩ = some (.int .i64 0) := k4.tail.cell (List.mem_cons_self ..) 1
  have r2 : w3.cell? ⟨w.heap.size + 1 + 1 + 1 + 1, 2, none⟩ = some (.int .i64 0) := k4.tail.cell (List.mem_cons_self ..) 2
  have r3 : w3.cell? ⟨w.heap.size + 1 + 1 + 1 + 1, 3, none⟩ = some (.int .i64 0) := k4.tail.cell (List.mem_cons_self ..) 3
  have r4 : w3.cell? ⟨w.heap.size + 1 + 1 + 1 + 1, 4, none⟩ = some (.int .i64 0) := k4.tail.cell (List.mem_cons_self ..) 4
  have r5 : w3.cell? ⟨w.heap.size + 1 + 1 + 1 + 1, 5, none⟩ = some (.int .i64 0) := k4.tail.cell (List.mem_cons_self ..) 5
  have r6 : w3.cell? ⟨w.heap.size + 1 + 1 + 1 + 1, 6, none⟩ = some (.int .i64 0) := k4.tail.cell (List.mem_cons_self ..) 6
  have r7 : w3.cell? ⟨w.heap.size + 1 + 1 + 1 + 1, 7, none⟩ = some (.bool false) := k4.tail.cell (List.mem_cons_self ..) 7
  have h0 := k4.tail.frozen (List.mem_cons_self ..) 0
  have h1 := k4.tail.frozen (List.mem_cons_self ..) 1
  have h2 := k4.tail.frozen (List.mem_cons_self ..) 2
  have h3 := k4.tail.frozen (List.mem_cons_self ..) 3
  have h4 := k4.tail.frozen (List.mem_cons_self ..) 4
  have h5 := k4.tail.frozen (List.mem_cons_self ..) 5
  have h6 := k4.tail.frozen (List.mem_cons_self ..) 6
  have h7 := k4.tail.frozen (List.mem_cons_self ..) 7
  have K4 := Lib.hid k4
  clear k4
  go_wp2_with fail
  obtain ⟨w9, e9, ⟨d0, d1, d2, d3, d4, d5, d6, d7⟩, -, hb, -⟩ := trust_end (x0 := .int .i64 t0) (x1 := .int .i64 t1) (x2 := .int .i64 t2) (x3 := .int .i64 t3) (x4 := .int .i64 t4) (x5 := .int .i64 (addOf t5 u)) (x6 := .int .i64 (addOf t6 v)) (x7 := .bool t7) (K4.out.tail.at_ (List.mem_cons_self ..)) K4.out.1 (by omega)
  rw [e9]
  clear e9
  exact bodyPost_ret (v := .agg #[.int .i64 t0, .int .i64 t1, .int .i64 t2, .int .i64 t3, .int .i64 t4, .int .i64 (addOf t5 u), .int .i64 (addOf t6 v), .bool t7]) (by simp [results, Tryz.results45, go_sem, d0, d1, d2, d3, d4, d5, d6, d7]) rfl ⟨rfl, hb⟩
set_option maxHeartbeats 2000000 in
theorem l8Sums_false (key : Int) (A : Option Addr) (n cap : Nat) (t0 t1 t2 t3 t4 t5 t6 : Int) (t7 : Bool) (a b c a' b' c' : Int) (w : World) :
    Calls Tryz.prog 45 #[.agg #[.int .i64 key, .slice A n cap], .agg #[.int .i64 t0, .int .i64 t1, .int .i64 t2, .int .i64 t3, .int .i64 t4, .int .i64 t5, .int .i64 t6, .bool t7], .bool false, .agg #[.int .i64 a, .int .i64 b, .int .i64 c], .agg #[.int .i64 a', .int .i64 b', .int .i64 c']] w fun e w' => e = .returned (.agg #[.int .i64 (sumsT key ⟨t0, t1, t2, t3, t4, t5, t6, t7⟩ false a b c a' b' c').clock, .int .i64 (sumsT key ⟨t0, t1, t2, t3, t4, t5, t6, t7⟩ false a b c a' b' c').epoch, .int .i64 (sumsT key ⟨t0, t1, t2, t3, t4, t5, t6, t7⟩ false a b c a' b' c').cursor, .int .i64 (sumsT key ⟨t0, t1, t2, t3, t4, t5, t6, t7⟩ false a b c a' b' c').read, .int .i64 (sumsT key ⟨t0, t1, t2, t3, t4, t5, t6, t7⟩ false a b c a' b' c').written, .int .i64 (sumsT key ⟨t0, t1, t2, t3, t4, t5, t6, t7⟩ false a b c a' b' c').nread, .int .i64 (sumsT key ⟨t0, t1, t2, t3, t4, t5, t6, t7⟩ false a b c a' b' c').nwritten, .bool (sumsT key ⟨t0, t1, t2, t3, t4, t5, t6, t7⟩ false a b c a' b' c').failed]) ∧ Below w.heap.size w w' := by
  have k0 := (((((Kept.refl w).new 26 #[.int .i64 key, .slice A n cap]).new 28 #[.int .i64 t0, .int .i64 t1, .int .i64 t2, .int .i64 t3, .int .i64 t4, .int .i64 t5, .int .i64 t6, .bool t7]).new 85 #[.int .i64 a, .int .i64 b, .int .i64 c]).new 85 #[.int .i64 a', .int .i64 b', .int .i64 c']).new 28 #[.int .i64 0, .int .i64 0, .int .i64 0, .int .i64 0, .int .i64 0, .int .i64 0, .int .i64 0, .bool false]
  rw [show ((((w.alloc (.cells #[.int .i64 key, .slice A n cap] 26)).alloc (.cells #[.int .i64 t0, .int .i64 t1, .int .i64 t2, .int .i64 t3, .int .i64 t4, .int .i64 t5, .int .i64 t6, .bool t7] 28)).alloc (.cells #[.int .i64 a, .int .i64 b, .int .i64 c] 85)).alloc (.cells #[.int .i64 a', .int .i64 b', .int .i64 c'] 85)).heap.size = w.heap.size + 1 + 1 + 1 + 1 by simp, show (((w.alloc (.cells #[.int .i64 key, .slice A n cap] 26)).alloc (.cells #[.int .i64 t0, .int .i64 t1, .int .i64 t2, .int .i64 t3, .int .i64 t4, .int .i64 t5, .int .i64 t6, .bool t7] 28)).alloc (.cells #[.int .i64 a, .int .i64 b, .int .i64 c] 85)).heap.size = w.heap.size + 1 + 1 + 1 by simp, show ((w.alloc (.cells #[.int .i64 key, .slice A n cap] 26)).alloc (.cells #[.int .i64 t0, .int .i64 t1, .int .i64 t2, .int .i64 t3, .int .i64 t4, .int .i64 t5, .int .i64 t6, .bool t7] 28)).heap.size = w.heap.size + 1 + 1 by simp, show (w.alloc (.cells #[.int .i64 key, .slice A n cap] 26)).heap.size = w.heap.size + 1 by simp] at k0
  have K0 := Lib.hid k0
  have C := Lib.hid (fun u => specTag_calls key a b c u)
  have D := Lib.hid (fun u => specTag_calls key a' b' c' u)
  clear k0
  simp only [sumsT]
  generalize tagOf key a b c = u at C ⊢
  generalize tagOf key a' b' c' = v at D ⊢
  go_enter Tryz.func45, Tryz.ntmps45
  go_wp2_with fail
  refine (C.out _).mono ?_; rintro e w1 ⟨rfl, b1⟩
  have k1 := K0.out.below b1
  have p0 : w1.cell? ⟨w.heap.size, 0, none⟩ = some (.int .i64 key) := k1.cell (p := w.heap.size) (t := 26) (cs := #[.int .i64 key, .slice A n cap]) (by simp) 0
  have g0 : w1.cell? ⟨w.heap.size + 1 + 1 + 1, 0, none⟩ = some (.int .i64 a') := k1.cell (p := w.heap.size + 1 + 1 + 1) (t := 85) (cs := #[.int .i64 a', .int .i64 b', .int .i64 c']) (by simp) 0
  have g1 : w1.cell? ⟨w.heap.size + 1 + 1 + 1, 1, none⟩ = some (.int .i64 b') := k1.cell (p := w.heap.size + 1 + 1 + 1) (t := 85) (cs := #[.int .i64 a', .int .i64 b', .int .i64 c']) (by simp) 1
  have g2 : w1.cell? ⟨w.heap.size + 1 + 1 + 1, 2, none⟩ = some (.int .i64 c') := k1.cell (p := w.heap.size + 1 + 1 + 1) (t := 85) (cs := #[.int .i64 a', .int .i64 b', .int .i64 c']) (by simp) 2
  have K1 := Lib.hid k1
  clear b1 k1 C K0
  go_wp2_with fail
  refine (D.out _).mono ?_; rintro e w2 ⟨rfl, b2⟩
  have k2 := K1.out.below b2
  have q3 : w2.cell? ⟨w.heap.size + 1, 3, none⟩ = some (.int .i64 t3) := k2.cell (p := w.heap.size + 1) (t := 28) (cs := #[.int .i64 t0, .int .i64 t1, .int .i64 t2, .int .i64 t3, .int .i64 t4, .int .i64 t5, .int .i64 t6, .bool t7]) (by simp) 3
  have q4 : w2.cell? ⟨w.heap.size + 1, 4, none⟩ = some (.int .i64 t4) := k2.cell (p := w.heap.size + 1) (t := 28) (cs := #[.int .i64 t0, .int .i64 t1, .int .i64 t2, .int .i64 t3, .int .i64 t4, .int .i64 t5, .int .i64 t6, .bool t7]) (by simp) 4
  have f3 := k2.frozen (p := w.heap.size + 1) (t := 28) (cs := #[.int .i64 t0, .int .i64 t1, .int .i64 t2, .int .i64 t3, .int .i64 t4, .int .i64 t5, .int .i64 t6, .bool t7]) (by simp) 3
  have f4 := k2.frozen (p := w.heap.size + 1) (t := 28) (cs := #[.int .i64 t0, .int .i64 t1, .int .i64 t2, .int .i64 t3, .int .i64 t4, .int .i64 t5, .int .i64 t6, .bool t7]) (by simp) 4
  have k3 : Kept w [(w.heap.size + 1, 28, #[.int .i64 t0, .int .i64 t1, .int .i64 t2, .int .i64 t3, .int .i64 t4, .int .i64 t5, .int .i64 t6, .bool t7]), (w.heap.size + 1 + 1 + 1 + 1, 28, #[.int .i64 0, .int .i64 0, .int .i64 0, .int .i64 0, .int .i64 0, .int .i64 0, .int .i64 0, .bool false])] w2 := k2.sub (by intro x hx; simp at hx; rcases hx with rfl | rfl <;> simp)
  have K3 := Lib.hid ((k3.set (by intro x hx; simp at hx; subst hx; simp <;> omega) 3 (.int .i64 (addOf t3 u))).set (by intro x hx; simp at hx; subst hx; simp <;> omega) 4 (.int .i64 (addOf t4 v)))
  clear b2 k2 k3 D K1 p0 g0 g1 g2
  go_wp2_with fail
  refine (specAdd_calls _ _ _).mono ?_; rintro e w' ⟨rfl, rfl⟩
  go_wp2_with fail
  refine (specAdd_calls _ _ _).mono ?_; rintro e w' ⟨rfl, rfl⟩
  go_upto_region 8 with fail
  have k4 : Kept w [(w.heap.size + 1, 28, #[.int .i64 t0, .int .i64 t1, .int .i64 t2, .int .i64 (addOf t3 u), .int .i64 (addOf t4 v), .int .i64 t5, .int .i64 t6, .bool t7]), (w.heap.size + 1 + 1 + 1 + 1, 28, #[.int .i64 0, .int .i64 0, .int .i64 0, .int .i64 0, .int .i64 0, .int .i64 0, .int .i64 0, .bool false])] ((w2.setCell ⟨w.heap.size + 1, 3, none⟩ (.int .i64 (addOf t3 u))).setCell ⟨w.heap.size + 1, 4, none⟩ (.int .i64 (addOf t4 v))) := K3.out
  clear K3 q3 q4 f3 f4
  generalize World.setCell _ _ _ = w3 at k4 ⊢
  have a0 : w3.cell? ⟨w.heap.size + 1, 0, none⟩ = some (.int .i64 t0) := k4.cell (List.mem_cons_self ..) 0
  have a1 : w3.cell? ⟨w.heap.size + 1, 1, none⟩ = some (.int .i64 t1) := k4.cell (List.mem_cons_self ..) 1
  have a2 : w3.cell? ⟨w.heap.size + 1, 2, none⟩ = some (.int .i64 t2) := k4.cell (List.mem_cons_self ..) 2
  have a3 : w3.cell? ⟨w.heap.size + 1, 3, none⟩ = some (.int .i64 (addOf t3 u)) := k4.cell (List.mem_cons_self ..) 3
  have a4 : w3.cell? ⟨w.heap.size + 1, 4, none⟩ = some (.int .i64 (addOf t4 v)) := k4.cell (List.mem_cons_self ..) 4
  have a5 : w3.cell? ⟨w.heap.size + 1, 5, none⟩ = some (.int .i64 t5) := k4.cell (List.mem_cons_self ..) 5
  have a6 : w3.cell? ⟨w.heap.size + 1, 6, none⟩ = some (.int .i64 t6) := k4.cell (List.mem_cons_self ..) 6
  have a7 : w3.cell? ⟨w.heap.size + 1, 7, none⟩ = some (.bool t7) := k4.cell (List.mem_cons_self ..) 7
  have r0 : w3.cell? ⟨w.heap.size + 1 + 1 + 1 + 1, 0, none⟩ = some (.int .i64 0) := k4.tail.cell (List.mem_cons_self ..) 0
  have r1 : w3.cell? ⟨w.heap.size + 1 + 1 + 1 + 1, 1, none⟩ = some (.int .i64 0) := k4.tail.cell (List.mem_cons_self ..) 1
  have r2 : w3.cell? ⟨w.heap.size + 1 + 1 + 1 + 1, 2, none⟩ = some (.int .i64 0) := k4.tail.cell (List.mem_cons_self ..) 2
  have r3 : w3.cell? ⟨w.heap.size + 1 + 1 + 1 + 1, 3, none⟩ = some (.int .i64 0) := k4.tail.cell (List.mem_cons_self ..) 3
  have r4 : w3.cell? ⟨w.heap.size + 1 + 1 + 1 + 1, 4, none⟩ = some (.int .i64 0) := k4.tail.cell (List.mem_cons_self ..) 4
  have r5 : w3.cell? ⟨w.heap.size + 1 + 1 + 1 + 1, 5, none⟩ = some (.int .i64 0) := k4.tail.cell (List.mem_cons_self ..) 5
  have r6 : w3.cell? ⟨w.heap.size + 1 + 1 + 1 + 1, 6, none⟩ = some (.int .i64 0) := k4.tail.cell (List.mem_cons_self ..) 6
  have r7 : w3.cell? ⟨w.heap.size + 1 + 1 + 1 + 1, 7, none⟩ = some (.bool false) := k4.tail.cell (List.mem_cons_self ..) 7
  have h0 := k4.tail.frozen (List.mem_cons_self ..) 0
  have h1 := k4.tail.frozen (List.mem_cons_self ..) 1
  have h2 := k4.tail.frozen (List.mem_cons_self ..) 2
  have h3 := k4.tail.frozen (List.mem_cons_self ..) 3
  have h4 := k4.tail.frozen (List.mem_cons_self ..) 4
  have h5 := k4.tail.frozen (List.mem_cons_self ..) 5
  have h6 := k4.tail.frozen (List.mem_cons_self ..) 6
  have h7 := k4.tail.frozen (List.mem_cons_self ..) 7
  have K4 := Lib.hid k4
  clear k4
  go_wp2_with fail
  obtain ⟨w9, e9, ⟨d0, d1, d2, d3, d4, d5, d6, d7⟩, -, hb, -⟩ := trust_end (x0 := .int .i64 t0) (x1 := .int .i64 t1) (x2 := .int .i64 t2) (x3 := .int .i64 (addOf t3 u)) (x4 := .int .i64 (addOf t4 v)) (x5 := .int .i64 t5) (x6 := .int .i64 t6) (x7 := .bool t7) (K4.out.tail.at_ (List.mem_cons_self ..)) K4.out.1 (by omega)
  rw [e9]
  clear e9
  exact bodyPost_ret (v := .agg #[.int .i64 t0, .int .i64 t1, .int .i64 t2, .int .i64 (addOf t3 u), .int .i64 (addOf t4 v), .int .i64 t5, .int .i64 t6, .bool t7]) (by simp [results, Tryz.results45, go_sem, d0, d1, d2, d3, d4, d5, d6, d7]) rfl ⟨rfl, hb⟩
end Go.Proofs.YteopplldbcgjjaaGreatDoor.Mx
namespace Go.Proofs.YteopplldbcgjjaaGreatDoor.Mx
open Go.ChangeShapes Go.WideShapes Go.ChangeAt Go.RowKit
set_option linter.unusedVariables false
end Go.Proofs.YteopplldbcgjjaaGreatDoor.Mx
namespace Go.Proofs.YteopplldbcgjjaaGreatDoor.Mx
open Go.ChangeShapes Go.WideShapes Go.ChangeAt Go.RowKit
set_option linter.unusedVariables false
end Go.Proofs.YteopplldbcgjjaaGreatDoor.Mx

import Derived.Test.YteopplldbcgjjaaGreatDoorH36
namespace Go.Proofs.YteopplldbcgjjaaGreatDoor.Mx
open Go.ChangeShapes Go.WideShapes Go.ChangeAt Go.RowKit
set_option linter.unusedVariables false
open Go.Lib (hid)
set_option maxHeartbeats 64000000
theorem cel_put {w1 : World} {r : Nat} {t : TypeId} {x0 x1 y0 y1 : Value} (hk : CellsAt w1 r t #[y0, y1]) :
    CellsAt ((w1.setCell ⟨r, 0, none⟩ x0).setCell ⟨r, 1, none⟩ x1) r t #[x0, x1] ∧ w1.grownBy ((w1.setCell ⟨r, 0, none⟩ x0).setCell ⟨r, 1, none⟩ x1) (some r) :=
 ⟨(hk.set_ 0 x0).set_ 1 x1, gb_set (gb_set (gb_refl w1 (some r)) 0 x0) 1 x1⟩
theorem tru8_put {w1 : World} {r : Nat} {t : TypeId} {x0 x1 x2 x3 x4 x5 x6 x7 y0 y1 y2 y3 y4 y5 y6 y7 : Value} (hk : CellsAt w1 r t #[y0, y1, y2, y3, y4, y5, y6, y7]) :
    CellsAt ((((((((w1.setCell ⟨r, 0, none⟩ x0).setCell ⟨r, 1, none⟩ x1).setCell ⟨r, 2, none⟩ x2).setCell ⟨r, 3, none⟩ x3).setCell ⟨r, 4, none⟩ x4).setCell ⟨r, 5, none⟩ x5).setCell ⟨r, 6, none⟩ x6).setCell ⟨r, 7, none⟩ x7) r t #[x0, x1, x2, x3, x4, x5, x6, x7] ∧
    w1.grownBy ((((((((w1.setCell ⟨r, 0, none⟩ x0).setCell ⟨r, 1, none⟩ x1).setCell ⟨r, 2, none⟩ x2).setCell ⟨r, 3, none⟩ x3).setCell ⟨r, 4, none⟩ x4).setCell ⟨r, 5, none⟩ x5).setCell ⟨r, 6, none⟩ x6).setCell ⟨r, 7, none⟩ x7) (some r) := by
 have h := (((((((hk.set_ 0 x0).set_ 1 x1).set_ 2 x2).set_ 3 x3).set_ 4 x4).set_ 5 x5).set_ 6 x6).set_ 7 x7
 simp only [List.setIfInBounds_toArray, List.set_cons_zero, List.set_cons_succ] at h
 exact ⟨h, gb_set (gb_set (gb_set (gb_set (gb_set (gb_set (gb_set (gb_set (gb_refl w1 (some r)) 0 x0) 1 x1) 2 x2) 3 x3) 4 x4) 5 x5) 6 x6) 7 x7⟩
set_option maxRecDepth 20000 in
theorem scan_refused (a0 a1 a2 a3 a : Addr) (key x ct cv : Int) (A : Option Addr) (l : List Int) (cap : Nat) (t0 t1 t2 t3 t4 t5 t6 : Int) (t7 : Bool) (s0 s1 s2 s3 s4 s5 s6 : Int) (s7 : Bool) (d1 d2 code : Int) (w v0 : World) (he : Errs w a0 a1 a2 a3)
    (R : ∀ u, Below w.heap.size w u → Calls Tryz.prog 94 #[.agg (pA key A l.length cap), .int .i64 x, .agg (tA t0 t1 t2 t3 t4 t5 t6 t7), .agg (cA ct cv)] u (RefQ u a s0 s1 s2 s3 s4 s5 s6 s7 d1 d2))
    (Q : ∀ u r, Errs u a0 a1 a2 a3 → CellsAt u r 122 #[.iface 212 (.pointer (some a)), .int .i64 s0, .int .i64 s1, .int .i64 s2, .int .i64 s3, .int .i64 s4, .int .i64 s5, .int .i64 s6, .bool s7, .int .i64 d1, .int .i64 d2] → Calls Tryz.prog 34 #[.iface 118 (.pointer (some ⟨r, 0, none⟩))] u fun e w' => e = .returned (.int .i64 code) ∧ u = w')
    (hK : Kept w [(w.heap.size + 1 + 1 + 1 + 1 + 1, 95, (cA ct cv)), (w.heap.size + 1 + 1 + 1 + 1, 30, zC), (w.heap.size + 1 + 1 + 1, 28, zT), (w.heap.size + 1 + 1, 30, (cA ct cv)), (w.heap.size + 1, 28, (tA t0 t1 t2 t3 t4 t5 t6 t7)), (w.heap.size, 26, (pA key A l.length cap))] v0) :
    Calls Tryz.prog 56 #[.pointer (some ⟨w.heap.size + 1, 0, none⟩), .agg (pA key A l.length cap), .int .i64 x, .slice (some ⟨w.heap.size + 1 + 1 + 1 + 1 + 1, 0, none⟩) 1 1] v0 fun e w' => e = .returned (.int .i64 code) ∧ Kept w [(w.heap.size + 1 + 1 + 1 + 1 + 1, 95, (cA d1 d2)), (w.heap.size + 1 + 1 + 1 + 1, 30, zC), (w.heap.size + 1 + 1 + 1, 28, zT), (w.heap.size + 1 + 1, 30, (cA ct cv)), (w.heap.size + 1, 28, (tA s0 s1 s2 s3 s4 s5 s6 s7)), (w.heap.size, 26, (pA key A l.length cap))] w' := by
 have HK := hid hK
 have RC := hid R
 have LC := hid (fun (u : World) r (hb : Below w.heap.size w u) (hr : CellsAt u r 122 #[.iface 212 (.pointer (some a)), .int .i64 s0, .int .i64 s1, .int .i64 s2, .int .i64 s3, .int .i64 s4, .int .i64 s5, .int .i64 s6, .bool s7, .int .i64 d1, .int .i64 d2]) => leftBy_calls r a s0 s1 s2 s3 s4 s5 s6 s7 d1 d2 u (he.below hb).1 hr)
 have QC := hid (fun (u : World) r (hb : Below w.heap.size w u) (hr : CellsAt u r 122 #[.iface 212 (.pointer (some a)), .int .i64 s0, .int .i64 s1, .int .i64 s2, .int .i64 s3, .int .i64 s4, .int .i64 s5, .int .i64 s6, .bool s7, .int .i64 d1, .int .i64 d2]) => Q u r (he.below hb) hr)
 have LT := hid (hK.lt (x := (w.heap.size + 1 + 1 + 1 + 1 + 1, 95, (cA ct cv))) (by simp))
 clear he R Q hK
 go_enter Tryz.func56, Tryz.ntmps56
 go_upto_region 2 with fail
 have k0 : Kept w [(v0.heap.size, 26, (pA key A l.length cap)), (w.heap.size + 1 + 1 + 1 + 1 + 1, 95, (cA ct cv)), (w.heap.size + 1 + 1 + 1 + 1, 30, zC), (w.heap.size + 1 + 1 + 1, 28, zT), (w.heap.size + 1 + 1, 30, (cA ct cv)), (w.heap.size + 1, 28, (tA t0 t1 t2 t3 t4 t5 t6 t7)), (w.heap.size, 26, (pA key A l.length cap))] _ := HK.out.put1 v0.heap.size 26 (pA key A l.length cap) rfl
 generalize hv1 : World.alloc v0 _ = v1 at k0 ⊢
 have HZ := hid (show v0.heap.size < v1.heap.size by rw [← hv1]; simp)
 clear hv1
 have K0 := hid k0
 clear k0 HK
 go_wp2_with fail
 try go_step3
 try go_wp2_with fail
 try go_step3
 try go_wp2_with fail
 go_loopw [9, 15] (fun c9 i wr => c9 = .int .i64 0 ∧ i = .int .i64 0 ∧ Kept w [(v0.heap.size, 26, (pA key A l.length cap)), (w.heap.size + 1 + 1 + 1 + 1 + 1, 95, (cA ct cv)), (w.heap.size + 1 + 1 + 1 + 1, 30, zC), (w.heap.size + 1 + 1 + 1, 28, zT), (w.heap.size + 1 + 1, 30, (cA ct cv)), (w.heap.size + 1, 28, (tA t0 t1 t2 t3 t4 t5 t6 t7)), (w.heap.size, 26, (pA key A l.length cap))] wr ∧ v0.heap.size < wr.heap.size) (fun _ i _ => 1 - (intOf i).toNat)
 case atStart => exact ⟨rfl, rfl, K0.out, HZ.out⟩
 case round =>
  obtain ⟨rfl, rfl, k1, hz⟩ := hrel
  have HZ2 := hid hz
  clear hz HZ K0
  obtain ⟨X0, Y0, X1, Y1, X2, Y2, X3, Y3, X4, Y4, X5, Y5, X6, Y6, -⟩ := k1.rd
  go_upto_region 5 with fail
  have k2 := k1.put1 wr.heap.size 30 (cA ct cv) rfl
  clear k1 X0 Y0 X1 Y1 X2 Y2 X3 Y3 X4 Y4 X5 Y5 X6 Y6
  generalize World.alloc wr _ = w2 at k2 ⊢
  refine wp_region_class_tail (C := fun u => Kept w [(wr.heap.size, 30, (cA ct cv)), (v0.heap.size, 26, (pA key A l.length cap)), (w.heap.size + 1 + 1 + 1 + 1 + 1, 95, (cA ct cv)), (w.heap.size + 1 + 1 + 1 + 1, 30, zC), (w.heap.size + 1 + 1 + 1, 28, zT), (w.heap.size + 1 + 1, 30, (cA ct cv)), (w.heap.size + 1, 28, (tA t0 t1 t2 t3 t4 t5 t6 t7)), (w.heap.size, 26, (pA key A l.length cap))] u) 6 (by kernel_rfl) (by kernel_rfl) k2.drew ?_
  clear k2
  simp only [List.take_succ_cons, List.take_zero, List.drop_succ_cons, List.drop_zero]
  iterate 6 (first
   | go_big_quiet_skip
   | (go_big_quiet_want
      go_big_quiet_op
      first
       | go_big_quiet_on
       | (apply Exists.intro
          refine ⟨fun u hu => ?_, ?_⟩
          ·first
             | with_reducible rfl
             | (obtain ⟨X0, Y0, X1, Y1, X2, Y2, X3, Y3, X4, Y4, X5, Y5, X6, Y6, X7, Y7, -⟩ := hu.rd; go_simp; first | done | with_reducible rfl)
          go_big_quiet_on)))
  refine wpQuiet_nil ?_
  intro w3 k3
  obtain ⟨X0, Y0, X1, Y1, X2, Y2, X3, Y3, X4, Y4, X5, Y5, X6, Y6, X7, Y7, -⟩ := k3.rd
  go_wp2_with fail
  refine (RC.out _ k3.1).mono ?_; rintro e w4 ⟨r, rfl, hr4, b4⟩
  have k4 := k3.below b4
  clear k3 b4 X0 Y0 X1 Y1 X2 Y2 X3 Y3 X4 Y4 X5 Y5 X6 Y6 X7 Y7 RC
  go_wp2_with fail
  refine (LC.out _ r k4.1 hr4).mono ?_; rintro e w5 ⟨rfl, b5⟩
  have k5 := k4.below b5
  have hr5 := hr4.below b5 hr4.lt
  clear k4 hr4 b5 LC
  obtain ⟨X0, Y0, X1, Y1, X2, Y2, X3, Y3, X4, Y4, X5, Y5, X6, Y6, X7, Y7, -⟩ := k5.rd
  have lz : w.heap.size + 1 + 1 + 1 + 1 + 1 < v0.heap.size := LT.out
  have lz2 : v0.heap.size < wr.heap.size := HZ2.out
  have p1 := tru8_put (x0 := .int .i64 s0) (x1 := .int .i64 s1) (x2 := .int .i64 s2) (x3 := .int .i64 s3) (x4 := .int .i64 s4) (x5 := .int .i64 s5) (x6 := .int .i64 s6) (x7 := .bool s7) (k5.at_ (p := w.heap.size + 1) (t := 28) (cs := (tA t0 t1 t2 t3 t4 t5 t6 t7)) (by simp))
  have k6 : Kept w [(wr.heap.size, 30, (cA ct cv)), (v0.heap.size, 26, (pA key A l.length cap)), (w.heap.size + 1 + 1 + 1 + 1 + 1, 95, (cA ct cv)), (w.heap.size + 1 + 1 + 1 + 1, 30, zC), (w.heap.size + 1 + 1 + 1, 28, zT), (w.heap.size + 1 + 1, 30, (cA ct cv)), (w.heap.size + 1, 28, (tA s0 s1 s2 s3 s4 s5 s6 s7)), (w.heap.size, 26, (pA key A l.length cap))] _ := k5.put (k := 6) rfl (by unfold Apart; simp <;> omega) p1.2 p1.1
  have r1 : ¬ r = w.heap.size + 1 := fun e => by subst e; have h1 := k5.at_ (p := w.heap.size + 1) (t := 28) (cs := (tA t0 t1 t2 t3 t4 t5 t6 t7)) (by simp); unfold CellsAt at h1 hr5; rw [h1] at hr5; simp at hr5
  have r2 : ¬ r = w.heap.size + 1 + 1 + 1 + 1 + 1 := fun e => by subst e; have h1 := k5.at_ (p := w.heap.size + 1 + 1 + 1 + 1 + 1) (t := 95) (cs := (cA ct cv)) (by simp); unfold CellsAt at h1 hr5; rw [h1] at hr5; simp at hr5
  have hr6 := hr5.grown p1.2 (by intro e; injection e with e; exact r1 e)
  have p2 := cel_put (x0 := .int .i64 d1) (x1 := .int .i64 d2) (k6.at_ (p := w.heap.size + 1 + 1 + 1 + 1 + 1) (t := 95) (cs := (cA ct cv)) (by simp))
  have k7 : Kept w [(wr.heap.size, 30, (cA ct cv)), (v0.heap.size, 26, (pA key A l.length cap)), (w.heap.size + 1 + 1 + 1 + 1 + 1, 95, (cA d1 d2)), (w.heap.size + 1 + 1 + 1 + 1, 30, zC), (w.heap.size + 1 + 1 + 1, 28, zT), (w.heap.size + 1 + 1, 30, (cA ct cv)), (w.heap.size + 1, 28, (tA s0 s1 s2 s3 s4 s5 s6 s7)), (w.heap.size, 26, (pA key A l.length cap))] _ := k6.put (k := 2) rfl (by unfold Apart; simp <;> omega) p2.2 p2.1
  have hr7 := hr6.grown p2.2 (by intro e; injection e with e; exact r2 e)
  have K7 := hid k7
  have R7 := hid hr7
  clear p1 p2 k6 k7 hr6 hr7 hr5 r1 r2 k5
  go_upto_region 8 with fail
  have k7 := K7.out
  have r7 := R7.out
  clear K7 R7 X0 Y0 X1 Y1 X2 Y2 X3 Y3 X4 Y4 X5 Y5 X6 Y6 X7 Y7
  generalize World.setCell _ _ _ = w7 at k7 r7 ⊢
  go_wp2_with fail
  refine (QC.out _ r k7.1 r7).mono ?_; rintro e w8 ⟨rfl, rfl⟩
  have K7 := hid k7
  clear k7 r7 QC
  go_wp2_with fail
  try rw [Exit.noGoto_ret]
  go_ret
  exact ⟨rfl, K7.out.sub (by intro y hy; simp at hy ⊢; rcases hy with rfl | rfl | rfl | rfl | rfl | rfl <;> simp)⟩
set_option maxRecDepth 20000 in
theorem scan_on (key ct cv f y1 y2 z3 z6 cnt : Int) (r bb oo n cap : Nat) (t0 t1 t2 t3 t4 t5 t6 : Int) (w v0 : World) (hn : n ≤ 1048576) (hr : r < n) (hbb : bb < w.heap.size) (hcc : w.cell? ⟨bb, oo + r, none⟩ = some (.int .i64 cnt))
    (R : ∀ u, Below w.heap.size w u → Calls Tryz.prog 94 #[.agg (pA key (some ⟨bb, oo, none⟩) n cap), .int .i64 r, .agg (tA t0 t1 t2 t3 t4 t5 t6 false), .agg (cA ct cv)] u fun e w' => e = .returned .nilIface ∧ Below u.heap.size u w')
    (FC : ∀ u, Below w.heap.size w u → Calls Tryz.prog 51 #[.agg (pA key (some ⟨bb, oo, none⟩) n cap), .int .i64 r] u fun e w' => e = .returned (.int .i64 f) ∧ Below u.heap.size u w')
    (GC : ∀ u, CellsAt u (w.heap.size + 1) 28 (tA t0 t1 t2 t3 t4 t5 t6 false) → Calls Tryz.prog 95 #[.pointer (some ⟨w.heap.size + 1, 0, none⟩), .int .i64 key, .int .i64 (f + t2), .agg (cA ct cv)] u fun e w' => e = .returned (.agg (cA y1 y2)) ∧ u.grownBy w' (some (w.heap.size + 1)) ∧ CellsAt w' (w.heap.size + 1) 28 (tA (t0 + 1) t1 (t2 + 1) z3 t4 t5 z6 false))
    (hw : IntKind.i64.wrap (f + t2) = f + t2) (hlt : t2 + 1 < cnt)
    (hK : Kept w [(w.heap.size + 1 + 1 + 1 + 1 + 1, 95, (cA ct cv)), (w.heap.size + 1 + 1 + 1 + 1, 30, zC), (w.heap.size + 1 + 1 + 1, 28, zT), (w.heap.size + 1 + 1, 30, (cA ct cv)), (w.heap.size + 1, 28, (tA t0 t1 t2 t3 t4 t5 t6 false)), (w.heap.size, 26, (pA key (some ⟨bb, oo, none⟩) n cap))] v0) :
    Calls Tryz.prog 56 #[.pointer (some ⟨w.heap.size + 1, 0, none⟩), .agg (pA key (some ⟨bb, oo, none⟩) n cap), .int .i64 r, .slice (some ⟨w.heap.size + 1 + 1 + 1 + 1 + 1, 0, none⟩) 1 1] v0 fun e w' => e = .returned (.int .i64 0) ∧ Kept w [(w.heap.size + 1 + 1 + 1 + 1 + 1, 95, (cA y1 y2)), (w.heap.size + 1 + 1 + 1 + 1, 30, zC), (w.heap.size + 1 + 1 + 1, 28, zT), (w.heap.size + 1 + 1, 30, (cA ct cv)), (w.heap.size + 1, 28, (tA (t0 + 1) t1 (t2 + 1) z3 t4 t5 z6 false)), (w.heap.size, 26, (pA key (some ⟨bb, oo, none⟩) n cap))] w' := by
 have HK := hid hK
 have RC := hid R
 have FCK := hid FC
 have GCK := hid GC
 have HBB := hid hbb
 have HCC := hid hcc
 have LT := hid (hK.lt (x := (w.heap.size + 1 + 1 + 1 + 1 + 1, 95, (cA ct cv))) (by simp))
 have hr0 : (r : Int) < n := by omega
 have hd : decide (t2 + 1 < cnt) = true := decide_eq_true hlt
 clear R FC GC hK hbb hcc hlt
 go_enter Tryz.func56, Tryz.ntmps56
 go_upto_region 2 with fail
 have k0 : Kept w [(v0.heap.size, 26, (pA key (some ⟨bb, oo, none⟩) n cap)), (w.heap.size + 1 + 1 + 1 + 1 + 1, 95, (cA ct cv)), (w.heap.size + 1 + 1 + 1 + 1, 30, zC), (w.heap.size + 1 + 1 + 1, 28, zT), (w.heap.size + 1 + 1, 30, (cA ct cv)), (w.heap.size + 1, 28, (tA t0 t1 t2 t3 t4 t5 t6 false)), (w.heap.size, 26, (pA key (some ⟨bb, oo, none⟩) n cap))] _ := HK.out.put1 v0.heap.size 26 (pA key (some ⟨bb, oo, none⟩) n cap) rfl
 generalize hv1 : World.alloc v0 _ = v1 at k0 ⊢
 have HZ := hid (show v0.heap.size < v1.heap.size by rw [← hv1]; simp)
 clear hv1
 have K0 := hid k0
 clear k0 HK
 go_wp2_with fail
 try go_step3
 try go_wp2_with fail
 try go_step3
 try go_wp2_with fail
 go_loopw [9, 15] (fun c9 i wr => ∃ k : Nat, c9 = .int .i64 0 ∧ i = .int .i64 k ∧ v0.heap.size < wr.heap.size ∧ ((k = 0 ∧ Kept w [(v0.heap.size, 26, (pA key (some ⟨bb, oo, none⟩) n cap)), (w.heap.size + 1 + 1 + 1 + 1 + 1, 95, (cA ct cv)), (w.heap.size + 1 + 1 + 1 + 1, 30, zC), (w.heap.size + 1 + 1 + 1, 28, zT), (w.heap.size + 1 + 1, 30, (cA ct cv)), (w.heap.size + 1, 28, (tA t0 t1 t2 t3 t4 t5 t6 false)), (w.heap.size, 26, (pA key (some ⟨bb, oo, none⟩) n cap))] wr) ∨ (k = 1 ∧ Kept w [(v0.heap.size, 26, (pA key (some ⟨bb, oo, none⟩) n cap)), (w.heap.size + 1 + 1 + 1 + 1 + 1, 95, (cA y1 y2)), (w.heap.size + 1 + 1 + 1 + 1, 30, zC), (w.heap.size + 1 + 1 + 1, 28, zT), (w.heap.size + 1 + 1, 30, (cA ct cv)), (w.heap.size + 1, 28, (tA (t0 + 1) t1 (t2 + 1) z3 t4 t5 z6 false)), (w.heap.size, 26, (pA key (some ⟨bb, oo, none⟩) n cap))] wr))) (fun _ i _ => 1 - (intOf i).toNat)
 case atStart => exact ⟨0, rfl, rfl, HZ.out, .inl ⟨rfl, K0.out⟩⟩
 case round =>
  obtain ⟨k, rfl, rfl, hz, ⟨rfl, k1⟩ | ⟨rfl, k1⟩⟩ := hrel
  rotate_left
  ·have K7 := hid k1
   clear k1 K0 HZ RC FCK GCK
   go_wp2_with fail
   try rw [Exit.noGoto_ret]
   go_ret
   exact ⟨rfl, K7.out.sub (by intro y hy; simp at hy ⊢; rcases hy with rfl | rfl | rfl | rfl | rfl | rfl <;> simp)⟩
  have HZ2 := hid hz
  clear hz HZ K0
  obtain ⟨X0, Y0, X1, Y1, X2, Y2, X3, Y3, X4, Y4, X5, Y5, X6, Y6, -⟩ := k1.rd
  go_upto_region 5 with fail
  have k2 := k1.put1 wr.heap.size 30 (cA ct cv) rfl
  clear k1 X0 Y0 X1 Y1 X2 Y2 X3 Y3 X4 Y4 X5 Y5 X6 Y6
  generalize World.alloc wr _ = w2 at k2 ⊢
  refine wp_region_class_tail (C := fun u => Kept w [(wr.heap.size, 30, (cA ct cv)), (v0.heap.size, 26, (pA key (some ⟨bb, oo, none⟩) n cap)), (w.heap.size + 1 + 1 + 1 + 1 + 1, 95, (cA ct cv)), (w.heap.size + 1 + 1 + 1 + 1, 30, zC), (w.heap.size + 1 + 1 + 1, 28, zT), (w.heap.size + 1 + 1, 30, (cA ct cv)), (w.heap.size + 1, 28, (tA t0 t1 t2 t3 t4 t5 t6 false)), (w.heap.size, 26, (pA key (some ⟨bb, oo, none⟩) n cap))] u) 6 (by kernel_rfl) (by kernel_rfl) k2.drew ?_
  clear k2
  simp only [List.take_succ_cons, List.take_zero, List.drop_succ_cons, List.drop_zero]
  iterate 6 (first
   | go_big_quiet_skip
   | (go_big_quiet_want
      go_big_quiet_op
      first
       | go_big_quiet_on
       | (apply Exists.intro
          refine ⟨fun u hu => ?_, ?_⟩
          ·first
             | with_reducible rfl
             | (obtain ⟨X0, Y0, X1, Y1, X2, Y2, X3, Y3, X4, Y4, X5, Y5, X6, Y6, X7, Y7, -⟩ := hu.rd; go_simp; first | done | with_reducible rfl)
          go_big_quiet_on)))
  refine wpQuiet_nil ?_
  intro w3 k3
  obtain ⟨X0, Y0, X1, Y1, X2, Y2, X3, Y3, X4, Y4, X5, Y5, X6, Y6, X7, Y7, -⟩ := k3.rd
  go_wp2_with fail
  refine (RC.out _ k3.1).mono ?_; rintro e w4 ⟨rfl, b4⟩
  have k4 := k3.below b4
  clear k3 b4 X0 Y0 X1 Y1 X2 Y2 X3 Y3 X4 Y4 X5 Y5 X6 Y6 X7 Y7 RC
  go_upto_region 9 with fail
  have GL := hid (LT.out)
  have lz : w.heap.size + 1 + 1 + 1 + 1 + 1 < v0.heap.size := LT.out
  have lz2 : v0.heap.size < wr.heap.size := HZ2.out
  clear GL
  refine wp_region_free [false, false, false, false, false, false, false, true, false, true, false, true, true, false, true, false, true] (ShV [(7, .int .i64 f), (9, .pointer (some ⟨w.heap.size + 1, 0, none⟩)), (11, .int .i64 t2), (12, .int .i64 (f + t2)), (14, .agg (cA y1 y2))]) (fun D _ u => GoC (fun u => Kept w [(wr.heap.size, 30, (cA ct cv)), (v0.heap.size, 26, (pA key (some ⟨bb, oo, none⟩) n cap)), (w.heap.size + 1 + 1 + 1 + 1 + 1, 95, (cA ct cv)), (w.heap.size + 1 + 1 + 1 + 1, 30, zC), (w.heap.size + 1 + 1 + 1, 28, zT), (w.heap.size + 1 + 1, 30, (cA ct cv)), (w.heap.size + 1, 28, (tA t0 t1 t2 t3 t4 t5 t6 false)), (w.heap.size, 26, (pA key (some ⟨bb, oo, none⟩) n cap))] u) (fun u => Kept w [(wr.heap.size, 30, (cA ct cv)), (v0.heap.size, 26, (pA key (some ⟨bb, oo, none⟩) n cap)), (w.heap.size + 1 + 1 + 1 + 1 + 1, 95, (cA ct cv)), (w.heap.size + 1 + 1 + 1 + 1, 30, zC), (w.heap.size + 1 + 1 + 1, 28, zT), (w.heap.size + 1 + 1, 30, (cA ct cv)), (w.heap.size + 1, 28, (tA (t0 + 1) t1 (t2 + 1) z3 t4 t5 z6 false)), (w.heap.size, 26, (pA key (some ⟨bb, oo, none⟩) n cap))] u) (fun u => Kept w [(wr.heap.size, 30, (cA ct cv)), (v0.heap.size, 26, (pA key (some ⟨bb, oo, none⟩) n cap)), (w.heap.size + 1 + 1 + 1 + 1 + 1, 95, (cA y1 y2)), (w.heap.size + 1 + 1 + 1 + 1, 30, zC), (w.heap.size + 1 + 1 + 1, 28, zT), (w.heap.size + 1 + 1, 30, (cA ct cv)), (w.heap.size + 1, 28, (tA (t0 + 1) t1 (t2 + 1) z3 t4 t5 z6 false)), (w.heap.size, 26, (pA key (some ⟨bb, oo, none⟩) n cap))] u) D u) (by kernel_rfl) (by kernel_rfl) (fun γ => by kernel_rfl) (fun D γ γ' w _ h => h) (ShV.inh _) (fun γ => GoC.start k4.drew) (fun γ hγ => ?_)
  clear k4
  have g7 : γ 7 = .int .i64 f := hγ 7 rfl
  have g9 : γ 9 = .pointer (some ⟨w.heap.size + 1, 0, none⟩) := hγ 9 rfl
  have g11 : γ 11 = .int .i64 t2 := hγ 11 rfl
  have g12 : γ 12 = .int .i64 (f + t2) := hγ 12 rfl
  have g14 : γ 14 = .agg (cA y1 y2) := hγ 14 rfl
  have g16 : γ 16 = undef := hγ 16 rfl
  apply Exists.intro
  refine ⟨fun D => ?_, ?_, ?_⟩
  ·simp only [hushL, cond_true, cond_false, Nat.reduceAdd, g7, g9, g11, g12, g14, g16]
   iterate 17 (first
    | go_big_quiet_skip
    | (go_big_quiet_want
       go_big_quiet_op
       first
        | go_big_quiet_on
        | (apply Exists.intro
           refine ⟨fun u hu => ?_, ?_⟩
           ·first
              | with_reducible rfl
              | (obtain ⟨X0, Y0, X1, Y1, -⟩ := (show Kept w [(wr.heap.size, 30, (cA ct cv)), (v0.heap.size, 26, (pA key (some ⟨bb, oo, none⟩) n cap))] u from GoC.all hu (R := fun u => Kept w [(wr.heap.size, 30, (cA ct cv)), (v0.heap.size, 26, (pA key (some ⟨bb, oo, none⟩) n cap))] u) (fun h => h.sub (by intro y hy; simp at hy ⊢; rcases hy with rfl | rfl <;> simp)) (fun h => h.sub (by intro y hy; simp at hy ⊢; rcases hy with rfl | rfl <;> simp)) (fun h => h.sub (by intro y hy; simp at hy ⊢; rcases hy with rfl | rfl <;> simp))).rd; go_simp; first | done | with_reducible rfl)
           go_big_quiet_on)))
   exact wpQuiet_nil rfl
  ·simp only [freeOk, Nat.reduceAdd]
   refine ⟨fun D u hD hd hu => ?_, fun D u hD hd hu => ?_, fun D u hD hd hu => ?_, fun D u hD hd hu => ?_, fun D u hD hd hu => ?_, fun D u hD hd hu => ?_, trivial⟩
   ·have e14 := GoC.bf (fun e => (hu.1 e).2) hD
    have k := hu.2.2.2.1 e14
    exact steps_call ((FCK.out u k.1).mono fun e w' ⟨he, hb⟩ => ⟨_, he, rfl, hu.on 7 (.inl rfl) e14 (GoC.bf hu.2.2.1 e14) (fun e => by cases e) (k.below hb)⟩) rfl rfl rfl rfl (by kernel_rfl)
   ·exact steps_nilN rfl rfl ⟨rfl, hu.nil⟩
   ·have e12 := GoC.bf (fun e => (hu.2.1 e).1) hD
    have e14 := (hu.pre12 e12).1
    have k := hu.2.2.2.1 e14
    exact steps_loadN ((k.at_ (p := w.heap.size + 1) (t := 28) (cs := (tA t0 t1 t2 t3 t4 t5 t6 false)) (by simp)).cell 2) rfl rfl ⟨_, Tryz.underlying2⟩ ⟨rfl, hu.on 11 (.inr (.inl rfl)) e14 (hu.pre12 e12).2 (fun e => by cases e) k⟩
   ·have d7 := hd { on := 7, ground := Ground.data } (by simp) rfl rfl
    have d11 := hd { on := 11, ground := Ground.data } (by simp) rfl rfl
    have e14 := (hu.pre12 hD).1
    have k := hu.2.2.2.1 e14
    exact steps_addN rfl (a := f) (b := t2) rfl rfl ⟨by rw [hw]; rfl, hu.on 12 (.inr (.inr rfl)) e14 (hu.pre12 hD).2 (fun _ => ⟨d11, d7⟩) k⟩
   ·have d7 := hd { on := 7, ground := Ground.chain } (by simp) rfl rfl
    have d12 := hd { on := 12, ground := Ground.data } (by simp) rfl rfl
    have k := hu.2.2.2.1 hD
    exact steps_call ((GCK.out u (k.at_ (p := w.heap.size + 1) (t := 28) (cs := (tA t0 t1 t2 t3 t4 t5 t6 false)) (by simp))).mono fun e w' ⟨he, hg, hc⟩ => ⟨_, he, rfl, hu.did hD d12 d7 (show Kept w [(wr.heap.size, 30, (cA ct cv)), (v0.heap.size, 26, (pA key (some ⟨bb, oo, none⟩) n cap)), (w.heap.size + 1 + 1 + 1 + 1 + 1, 95, (cA ct cv)), (w.heap.size + 1 + 1 + 1 + 1, 30, zC), (w.heap.size + 1 + 1 + 1, 28, zT), (w.heap.size + 1 + 1, 30, (cA ct cv)), (w.heap.size + 1, 28, (tA (t0 + 1) t1 (t2 + 1) z3 t4 t5 z6 false)), (w.heap.size, 26, (pA key (some ⟨bb, oo, none⟩) n cap))] w' from k.put (k := 6) rfl (by unfold Apart; simp <;> omega) hg hc)⟩) rfl rfl rfl rfl (by kernel_rfl)
   ·have d14 := hd { on := 14, ground := Ground.data } (by simp) rfl rfl
    have k := hu.2.2.2.2.1 d14 hD
    exact steps_storeB (k.at_ (p := w.heap.size + 1 + 1 + 1 + 1 + 1) (t := 95) (cs := (cA ct cv)) (by simp)) rfl rfl rfl (by kernel_rfl) rfl (by simp [Value.oneCell']) (fun w' hc hg => ⟨rfl, hu.put d14 (show Kept w [(wr.heap.size, 30, (cA ct cv)), (v0.heap.size, 26, (pA key (some ⟨bb, oo, none⟩) n cap)), (w.heap.size + 1 + 1 + 1 + 1 + 1, 95, (cA y1 y2)), (w.heap.size + 1 + 1 + 1 + 1, 30, zC), (w.heap.size + 1 + 1 + 1, 28, zT), (w.heap.size + 1 + 1, 30, (cA ct cv)), (w.heap.size + 1, 28, (tA (t0 + 1) t1 (t2 + 1) z3 t4 t5 z6 false)), (w.heap.size, 26, (pA key (some ⟨bb, oo, none⟩) n cap))] w' from k.put (k := 2) rfl (by unfold Apart; simp <;> omega) hg hc)⟩)
  intro D w7 hD hu
  have k7 := hu.2.2.2.2.2 (hD 16 (by simp) rfl)
  clear hu hD FCK GCK g7 g9 g11 g12 g14 g16 hγ
  go_upto_region 11 with fail
  refine wp_region_class (C := fun u => Kept w [(wr.heap.size, 30, (cA ct cv)), (v0.heap.size, 26, (pA key (some ⟨bb, oo, none⟩) n cap)), (w.heap.size + 1 + 1 + 1 + 1 + 1, 95, (cA y1 y2)), (w.heap.size + 1 + 1 + 1 + 1, 30, zC), (w.heap.size + 1 + 1 + 1, 28, zT), (w.heap.size + 1 + 1, 30, (cA ct cv)), (w.heap.size + 1, 28, (tA (t0 + 1) t1 (t2 + 1) z3 t4 t5 z6 false)), (w.heap.size, 26, (pA key (some ⟨bb, oo, none⟩) n cap))] u) (by kernel_rfl) (by kernel_rfl) k7.drew ?_
  clear k7
  iterate 11 (first
   | go_big_quiet_skip
   | (go_big_quiet_want
      go_big_quiet_op
      first
       | go_big_quiet_on
       | (apply Exists.intro
          refine ⟨fun u hu => ?_, ?_⟩
          ·first
             | with_reducible rfl
             | (obtain ⟨X0, Y0, X1, Y1, X2, Y2, X3, Y3, X4, Y4, X5, Y5, X6, Y6, X7, Y7, -⟩ := hu.rd; have f0 := (hu.1.cell (p := ⟨bb, oo + r, none⟩) HBB.out).trans HCC.out; go_simp; first | done | with_reducible rfl)
          go_big_quiet_on)))
  refine wpQuiet_nil ?_
  intro w8 k8
  have K8 := hid k8
  clear k8
  go_wp2_with fail
  go_roundw
  case rel => exact ⟨1, rfl, by go_num, by have := K8.out.lt (x := (wr.heap.size, 30, (cA ct cv))) (by simp); simp only [] at this; omega, .inr ⟨rfl, K8.out.sub (by intro y hy; simp at hy ⊢; rcases hy with rfl | rfl | rfl | rfl | rfl | rfl | rfl <;> simp)⟩⟩
  case measure => simp [intOf]
set_option maxRecDepth 20000 in
theorem scan_pass (key ct cv f y1 y2 z3 z6 cnt : Int) (r bb oo n cap : Nat) (t0 t1 t2 t3 t4 t5 t6 : Int) (w v0 : World) (hn : n ≤ 1048576) (hr : r < n) (hbb : bb < w.heap.size) (hcc : w.cell? ⟨bb, oo + r, none⟩ = some (.int .i64 cnt))
    (R : ∀ u, Below w.heap.size w u → Calls Tryz.prog 94 #[.agg (pA key (some ⟨bb, oo, none⟩) n cap), .int .i64 r, .agg (tA t0 t1 t2 t3 t4 t5 t6 false), .agg (cA ct cv)] u fun e w' => e = .returned .nilIface ∧ Below u.heap.size u w')
    (FC : ∀ u, Below w.heap.size w u → Calls Tryz.prog 51 #[.agg (pA key (some ⟨bb, oo, none⟩) n cap), .int .i64 r] u fun e w' => e = .returned (.int .i64 f) ∧ Below u.heap.size u w')
    (GC : ∀ u, CellsAt u (w.heap.size + 1) 28 (tA t0 t1 t2 t3 t4 t5 t6 false) → Calls Tryz.prog 95 #[.pointer (some ⟨w.heap.size + 1, 0, none⟩), .int .i64 key, .int .i64 (f + t2), .agg (cA ct cv)] u fun e w' => e = .returned (.agg (cA y1 y2)) ∧ u.grownBy w' (some (w.heap.size + 1)) ∧ CellsAt w' (w.heap.size + 1) 28 (tA (t0 + 1) t1 (t2 + 1) z3 t4 t5 z6 false))
    (hw : IntKind.i64.wrap (f + t2) = f + t2) (hlt : ¬ t2 + 1 < cnt) (hz : (z3 == t4) = true) (h1 : 0 ≤ t1) (h1' : t1 ≤ 1000)
    (hK : Kept w [(w.heap.size + 1 + 1 + 1 + 1 + 1, 95, (cA ct cv)), (w.heap.size + 1 + 1 + 1 + 1, 30, zC), (w.heap.size + 1 + 1 + 1, 28, zT), (w.heap.size + 1 + 1, 30, (cA ct cv)), (w.heap.size + 1, 28, (tA t0 t1 t2 t3 t4 t5 t6 false)), (w.heap.size, 26, (pA key (some ⟨bb, oo, none⟩) n cap))] v0) :
    Calls Tryz.prog 56 #[.pointer (some ⟨w.heap.size + 1, 0, none⟩), .agg (pA key (some ⟨bb, oo, none⟩) n cap), .int .i64 r, .slice (some ⟨w.heap.size + 1 + 1 + 1 + 1 + 1, 0, none⟩) 1 1] v0 fun e w' => e = .returned (.int .i64 5) ∧ Kept w [(w.heap.size + 1 + 1 + 1 + 1 + 1, 95, (cA y1 y2)), (w.heap.size + 1 + 1 + 1 + 1, 30, zC), (w.heap.size + 1 + 1 + 1, 28, zT), (w.heap.size + 1 + 1, 30, (cA ct cv)), (w.heap.size + 1, 28, (tA (t0 + 1) (t1 + 1) 0 t5 z6 0 0 false)), (w.heap.size, 26, (pA key (some ⟨bb, oo, none⟩) n cap))] w' := by
 have HK := hid hK
 have RC := hid R
 have FCK := hid FC
 have GCK := hid GC
 have HBB := hid hbb
 have HCC := hid hcc
 have LT := hid (hK.lt (x := (w.heap.size + 1 + 1 + 1 + 1 + 1, 95, (cA ct cv))) (by simp))
 have hr0 : (r : Int) < n := by omega
 have hd : decide (t2 + 1 < cnt) = false := decide_eq_false hlt
 have PA := hid (fun (u : World) (h : CellsAt u (w.heap.size + 1) 28 (tA (t0 + 1) t1 (t2 + 1) z3 t4 t5 z6 false)) => pass_calls (w.heap.size + 1) (t0 + 1) t1 (t2 + 1) z3 t4 t5 z6 false u h1 h1' h)
 clear h1 h1'
 clear R FC GC hK hbb hcc hlt
 go_enter Tryz.func56, Tryz.ntmps56
 go_upto_region 2 with fail
 have k0 : Kept w [(v0.heap.size, 26, (pA key (some ⟨bb, oo, none⟩) n cap)), (w.heap.size + 1 + 1 + 1 + 1 + 1, 95, (cA ct cv)), (w.heap.size + 1 + 1 + 1 + 1, 30, zC), (w.heap.size + 1 + 1 + 1, 28, zT), (w.heap.size + 1 + 1, 30, (cA ct cv)), (w.heap.size + 1, 28, (tA t0 t1 t2 t3 t4 t5 t6 false)), (w.heap.size, 26, (pA key (some ⟨bb, oo, none⟩) n cap))] _ := HK.out.put1 v0.heap.size 26 (pA key (some ⟨bb, oo, none⟩) n cap) rfl
 generalize hv1 : World.alloc v0 _ = v1 at k0 ⊢
 have HZ := hid (show v0.heap.size < v1.heap.size by rw [← hv1]; simp)
 clear hv1
 have K0 := hid k0
 clear k0 HK
 go_wp2_with fail
 try go_step3
 try go_wp2_with fail
 try go_step3
 try go_wp2_with fail
 go_loopw [9, 15] (fun c9 i wr => c9 = .int .i64 0 ∧ i = .int .i64 0 ∧ Kept w [(v0.heap.size, 26, (pA key (some ⟨bb, oo, none⟩) n cap)), (w.heap.size + 1 + 1 + 1 + 1 + 1, 95, (cA ct cv)), (w.heap.size + 1 + 1 + 1 + 1, 30, zC), (w.heap.size + 1 + 1 + 1, 28, zT), (w.heap.size + 1 + 1, 30, (cA ct cv)), (w.heap.size + 1, 28, (tA t0 t1 t2 t3 t4 t5 t6 false)), (w.heap.size, 26, (pA key (some ⟨bb, oo, none⟩) n cap))] wr ∧ v0.heap.size < wr.heap.size) (fun _ i _ => 1 - (intOf i).toNat)
 case atStart => exact ⟨rfl, rfl, K0.out, HZ.out⟩
 case round =>
  obtain ⟨rfl, rfl, k1, hzz⟩ := hrel
  have HZ2 := hid hzz
  clear hzz HZ K0
  obtain ⟨X0, Y0, X1, Y1, X2, Y2, X3, Y3, X4, Y4, X5, Y5, X6, Y6, -⟩ := k1.rd
  go_upto_region 5 with fail
  have k2 := k1.put1 wr.heap.size 30 (cA ct cv) rfl
  clear k1 X0 Y0 X1 Y1 X2 Y2 X3 Y3 X4 Y4 X5 Y5 X6 Y6
  generalize World.alloc wr _ = w2 at k2 ⊢
  refine wp_region_class_tail (C := fun u => Kept w [(wr.heap.size, 30, (cA ct cv)), (v0.heap.size, 26, (pA key (some ⟨bb, oo, none⟩) n cap)), (w.heap.size + 1 + 1 + 1 + 1 + 1, 95, (cA ct cv)), (w.heap.size + 1 + 1 + 1 + 1, 30, zC), (w.heap.size + 1 + 1 + 1, 28, zT), (w.heap.size + 1 + 1, 30, (cA ct cv)), (w.heap.size + 1, 28, (tA t0 t1 t2 t3 t4 t5 t6 false)), (w.heap.size, 26, (pA key (some ⟨bb, oo, none⟩) n cap))] u) 6 (by kernel_rfl) (by kernel_rfl) k2.drew ?_
  clear k2
  simp only [List.take_succ_cons, List.take_zero, List.drop_succ_cons, List.drop_zero]
  iterate 6 (first
   | go_big_quiet_skip
   | (go_big_quiet_want
      go_big_quiet_op
      first
       | go_big_quiet_on
       | (apply Exists.intro
          refine ⟨fun u hu => ?_, ?_⟩
          ·first
             | with_reducible rfl
             | (obtain ⟨X0, Y0, X1, Y1, X2, Y2, X3, Y3, X4, Y4, X5, Y5, X6, Y6, X7, Y7, -⟩ := hu.rd; go_simp; first | done | with_reducible rfl)
          go_big_quiet_on)))
  refine wpQuiet_nil ?_
  intro w3 k3
  obtain ⟨X0, Y0, X1, Y1, X2, Y2, X3, Y3, X4, Y4, X5, Y5, X6, Y6, X7, Y7, -⟩ := k3.rd
  go_wp2_with fail
  refine (RC.out _ k3.1).mono ?_; rintro e w4 ⟨rfl, b4⟩
  have k4 := k3.below b4
  clear k3 b4 X0 Y0 X1 Y1 X2 Y2 X3 Y3 X4 Y4 X5 Y5 X6 Y6 X7 Y7 RC
  go_upto_region 9 with fail
  have GL := hid (LT.out)
  have lz : w.heap.size + 1 + 1 + 1 + 1 + 1 < v0.heap.size := LT.out
  have lz2 : v0.heap.size < wr.heap.size := HZ2.out
  clear GL
  refine wp_region_free [false, false, false, false, false, false, false, true, false, true, false, true, true, false, true, false, true] (ShV [(7, .int .i64 f), (9, .pointer (some ⟨w.heap.size + 1, 0, none⟩)), (11, .int .i64 t2), (12, .int .i64 (f + t2)), (14, .agg (cA y1 y2))]) (fun D _ u => GoC (fun u => Kept w [(wr.heap.size, 30, (cA ct cv)), (v0.heap.size, 26, (pA key (some ⟨bb, oo, none⟩) n cap)), (w.heap.size + 1 + 1 + 1 + 1 + 1, 95, (cA ct cv)), (w.heap.size + 1 + 1 + 1 + 1, 30, zC), (w.heap.size + 1 + 1 + 1, 28, zT), (w.heap.size + 1 + 1, 30, (cA ct cv)), (w.heap.size + 1, 28, (tA t0 t1 t2 t3 t4 t5 t6 false)), (w.heap.size, 26, (pA key (some ⟨bb, oo, none⟩) n cap))] u) (fun u => Kept w [(wr.heap.size, 30, (cA ct cv)), (v0.heap.size, 26, (pA key (some ⟨bb, oo, none⟩) n cap)), (w.heap.size + 1 + 1 + 1 + 1 + 1, 95, (cA ct cv)), (w.heap.size + 1 + 1 + 1 + 1, 30, zC), (w.heap.size + 1 + 1 + 1, 28, zT), (w.heap.size + 1 + 1, 30, (cA ct cv)), (w.heap.size + 1, 28, (tA (t0 + 1) t1 (t2 + 1) z3 t4 t5 z6 false)), (w.heap.size, 26, (pA key (some ⟨bb, oo, none⟩) n cap))] u) (fun u => Kept w [(wr.heap.size, 30, (cA ct cv)), (v0.heap.size, 26, (pA key (some ⟨bb, oo, none⟩) n cap)), (w.heap.size + 1 + 1 + 1 + 1 + 1, 95, (cA y1 y2)), (w.heap.size + 1 + 1 + 1 + 1, 30, zC), (w.heap.size + 1 + 1 + 1, 28, zT), (w.heap.size + 1 + 1, 30, (cA ct cv)), (w.heap.size + 1, 28, (tA (t0 + 1) t1 (t2 + 1) z3 t4 t5 z6 false)), (w.heap.size, 26, (pA key (some ⟨bb, oo, none⟩) n cap))] u) D u) (by kernel_rfl) (by kernel_rfl) (fun γ => by kernel_rfl) (fun D γ γ' w _ h => h) (ShV.inh _) (fun γ => GoC.start k4.drew) (fun γ hγ => ?_)
  clear k4
  have g7 : γ 7 = .int .i64 f := hγ 7 rfl
  have g9 : γ 9 = .pointer (some ⟨w.heap.size + 1, 0, none⟩) := hγ 9 rfl
  have g11 : γ 11 = .int .i64 t2 := hγ 11 rfl
  have g12 : γ 12 = .int .i64 (f + t2) := hγ 12 rfl
  have g14 : γ 14 = .agg (cA y1 y2) := hγ 14 rfl
  have g16 : γ 16 = undef := hγ 16 rfl
  apply Exists.intro
  refine ⟨fun D => ?_, ?_, ?_⟩
  ·simp only [hushL, cond_true, cond_false, Nat.reduceAdd, g7, g9, g11, g12, g14, g16]
   iterate 17 (first
    | go_big_quiet_skip
    | (go_big_quiet_want
       go_big_quiet_op
       first
        | go_big_quiet_on
        | (apply Exists.intro
           refine ⟨fun u hu => ?_, ?_⟩
           ·first
              | with_reducible rfl
              | (obtain ⟨X0, Y0, X1, Y1, -⟩ := (show Kept w [(wr.heap.size, 30, (cA ct cv)), (v0.heap.size, 26, (pA key (some ⟨bb, oo, none⟩) n cap))] u from GoC.all hu (R := fun u => Kept w [(wr.heap.size, 30, (cA ct cv)), (v0.heap.size, 26, (pA key (some ⟨bb, oo, none⟩) n cap))] u) (fun h => h.sub (by intro y hy; simp at hy ⊢; rcases hy with rfl | rfl <;> simp)) (fun h => h.sub (by intro y hy; simp at hy ⊢; rcases hy with rfl | rfl <;> simp)) (fun h => h.sub (by intro y hy; simp at hy ⊢; rcases hy with rfl | rfl <;> simp))).rd; go_simp; first | done | with_reducible rfl)
           go_big_quiet_on)))
   exact wpQuiet_nil rfl
  ·simp only [freeOk, Nat.reduceAdd]
   refine ⟨fun D u hD hd hu => ?_, fun D u hD hd hu => ?_, fun D u hD hd hu => ?_, fun D u hD hd hu => ?_, fun D u hD hd hu => ?_, fun D u hD hd hu => ?_, trivial⟩
   ·have e14 := GoC.bf (fun e => (hu.1 e).2) hD
    have k := hu.2.2.2.1 e14
    exact steps_call ((FCK.out u k.1).mono fun e w' ⟨he, hb⟩ => ⟨_, he, rfl, hu.on 7 (.inl rfl) e14 (GoC.bf hu.2.2.1 e14) (fun e => by cases e) (k.below hb)⟩) rfl rfl rfl rfl (by kernel_rfl)
   ·exact steps_nilN rfl rfl ⟨rfl, hu.nil⟩
   ·have e12 := GoC.bf (fun e => (hu.2.1 e).1) hD
    have e14 := (hu.pre12 e12).1
    have k := hu.2.2.2.1 e14
    exact steps_loadN ((k.at_ (p := w.heap.size + 1) (t := 28) (cs := (tA t0 t1 t2 t3 t4 t5 t6 false)) (by simp)).cell 2) rfl rfl ⟨_, Tryz.underlying2⟩ ⟨rfl, hu.on 11 (.inr (.inl rfl)) e14 (hu.pre12 e12).2 (fun e => by cases e) k⟩
   ·have d7 := hd { on := 7, ground := Ground.data } (by simp) rfl rfl
    have d11 := hd { on := 11, ground := Ground.data } (by simp) rfl rfl
    have e14 := (hu.pre12 hD).1
    have k := hu.2.2.2.1 e14
    exact steps_addN rfl (a := f) (b := t2) rfl rfl ⟨by rw [hw]; rfl, hu.on 12 (.inr (.inr rfl)) e14 (hu.pre12 hD).2 (fun _ => ⟨d11, d7⟩) k⟩
   ·have d7 := hd { on := 7, ground := Ground.chain } (by simp) rfl rfl
    have d12 := hd { on := 12, ground := Ground.data } (by simp) rfl rfl
    have k := hu.2.2.2.1 hD
    exact steps_call ((GCK.out u (k.at_ (p := w.heap.size + 1) (t := 28) (cs := (tA t0 t1 t2 t3 t4 t5 t6 false)) (by simp))).mono fun e w' ⟨he, hg, hc⟩ => ⟨_, he, rfl, hu.did hD d12 d7 (show Kept w [(wr.heap.size, 30, (cA ct cv)), (v0.heap.size, 26, (pA key (some ⟨bb, oo, none⟩) n cap)), (w.heap.size + 1 + 1 + 1 + 1 + 1, 95, (cA ct cv)), (w.heap.size + 1 + 1 + 1 + 1, 30, zC), (w.heap.size + 1 + 1 + 1, 28, zT), (w.heap.size + 1 + 1, 30, (cA ct cv)), (w.heap.size + 1, 28, (tA (t0 + 1) t1 (t2 + 1) z3 t4 t5 z6 false)), (w.heap.size, 26, (pA key (some ⟨bb, oo, none⟩) n cap))] w' from k.put (k := 6) rfl (by unfold Apart; simp <;> omega) hg hc)⟩) rfl rfl rfl rfl (by kernel_rfl)
   ·have d14 := hd { on := 14, ground := Ground.data } (by simp) rfl rfl
    have k := hu.2.2.2.2.1 d14 hD
    exact steps_storeB (k.at_ (p := w.heap.size + 1 + 1 + 1 + 1 + 1) (t := 95) (cs := (cA ct cv)) (by simp)) rfl rfl rfl (by kernel_rfl) rfl (by simp [Value.oneCell']) (fun w' hc hg => ⟨rfl, hu.put d14 (show Kept w [(wr.heap.size, 30, (cA ct cv)), (v0.heap.size, 26, (pA key (some ⟨bb, oo, none⟩) n cap)), (w.heap.size + 1 + 1 + 1 + 1 + 1, 95, (cA y1 y2)), (w.heap.size + 1 + 1 + 1 + 1, 30, zC), (w.heap.size + 1 + 1 + 1, 28, zT), (w.heap.size + 1 + 1, 30, (cA ct cv)), (w.heap.size + 1, 28, (tA (t0 + 1) t1 (t2 + 1) z3 t4 t5 z6 false)), (w.heap.size, 26, (pA key (some ⟨bb, oo, none⟩) n cap))] w' from k.put (k := 2) rfl (by unfold Apart; simp <;> omega) hg hc)⟩)
  intro D w7 hD hu
  have k7 := hu.2.2.2.2.2 (hD 16 (by simp) rfl)
  clear hu hD FCK GCK g7 g9 g11 g12 g14 g16 hγ
  go_upto_region 11 with fail
  refine wp_region_class (C := fun u => Kept w [(wr.heap.size, 30, (cA ct cv)), (v0.heap.size, 26, (pA key (some ⟨bb, oo, none⟩) n cap)), (w.heap.size + 1 + 1 + 1 + 1 + 1, 95, (cA y1 y2)), (w.heap.size + 1 + 1 + 1 + 1, 30, zC), (w.heap.size + 1 + 1 + 1, 28, zT), (w.heap.size + 1 + 1, 30, (cA ct cv)), (w.heap.size + 1, 28, (tA (t0 + 1) t1 (t2 + 1) z3 t4 t5 z6 false)), (w.heap.size, 26, (pA key (some ⟨bb, oo, none⟩) n cap))] u) (by kernel_rfl) (by kernel_rfl) k7.drew ?_
  clear k7
  iterate 11 (first
   | go_big_quiet_skip
   | (go_big_quiet_want
      go_big_quiet_op
      first
       | go_big_quiet_on
       | (apply Exists.intro
          refine ⟨fun u hu => ?_, ?_⟩
          ·first
             | with_reducible rfl
             | (obtain ⟨X0, Y0, X1, Y1, X2, Y2, X3, Y3, X4, Y4, X5, Y5, X6, Y6, X7, Y7, -⟩ := hu.rd; have f0 := (hu.1.cell (p := ⟨bb, oo + r, none⟩) HBB.out).trans HCC.out; go_simp; first | done | with_reducible rfl)
          go_big_quiet_on)))
  refine wpQuiet_nil ?_
  intro w8 k8
  go_upto_region 12 with fail
  refine wp_region_class (C := fun u => Kept w [(wr.heap.size, 30, (cA ct cv)), (v0.heap.size, 26, (pA key (some ⟨bb, oo, none⟩) n cap)), (w.heap.size + 1 + 1 + 1 + 1 + 1, 95, (cA y1 y2)), (w.heap.size + 1 + 1 + 1 + 1, 30, zC), (w.heap.size + 1 + 1 + 1, 28, zT), (w.heap.size + 1 + 1, 30, (cA ct cv)), (w.heap.size + 1, 28, (tA (t0 + 1) t1 (t2 + 1) z3 t4 t5 z6 false)), (w.heap.size, 26, (pA key (some ⟨bb, oo, none⟩) n cap))] u) (by kernel_rfl) (by kernel_rfl) k8.drew ?_
  clear k8
  iterate 10 (first
   | go_big_quiet_skip
   | (go_big_quiet_want
      go_big_quiet_op
      first
       | go_big_quiet_on
       | (apply Exists.intro
          refine ⟨fun u hu => ?_, ?_⟩
          ·first
             | with_reducible rfl
             | (obtain ⟨X0, Y0, X1, Y1, X2, Y2, X3, Y3, X4, Y4, X5, Y5, X6, Y6, X7, Y7, -⟩ := hu.rd; go_simp; first | done | with_reducible rfl)
          go_big_quiet_on)))
  refine wpQuiet_nil ?_
  intro w9 k9
  go_wp2_with fail
  refine (PA.out _ (k9.at_ (p := w.heap.size + 1) (t := 28) (cs := (tA (t0 + 1) t1 (t2 + 1) z3 t4 t5 z6 false)) (by simp))).mono ?_; rintro e w10 ⟨rfl, g10, c10⟩
  have K10 := hid (show Kept w [(wr.heap.size, 30, (cA ct cv)), (v0.heap.size, 26, (pA key (some ⟨bb, oo, none⟩) n cap)), (w.heap.size + 1 + 1 + 1 + 1 + 1, 95, (cA y1 y2)), (w.heap.size + 1 + 1 + 1 + 1, 30, zC), (w.heap.size + 1 + 1 + 1, 28, zT), (w.heap.size + 1 + 1, 30, (cA ct cv)), (w.heap.size + 1, 28, (tA (t0 + 1) (t1 + 1) 0 t5 z6 0 0 false)), (w.heap.size, 26, (pA key (some ⟨bb, oo, none⟩) n cap))] _ from k9.put (k := 6) rfl (by unfold Apart; simp <;> omega) g10 c10)
  clear k9 g10 c10 PA
  go_wp2_with fail
  try rw [Exit.noGoto_ret]
  go_ret
  exact ⟨rfl, K10.out.sub (by intro y hy; simp at hy ⊢; rcases hy with rfl | rfl | rfl | rfl | rfl | rfl <;> simp)⟩
set_option maxRecDepth 20000 in
theorem scan_fail (key ct cv f y1 y2 z3 z6 cnt : Int) (r bb oo n cap : Nat) (t0 t1 t2 t3 t4 t5 t6 : Int) (w v0 : World) (hn : n ≤ 1048576) (hr : r < n) (hbb : bb < w.heap.size) (hcc : w.cell? ⟨bb, oo + r, none⟩ = some (.int .i64 cnt))
    (R : ∀ u, Below w.heap.size w u → Calls Tryz.prog 94 #[.agg (pA key (some ⟨bb, oo, none⟩) n cap), .int .i64 r, .agg (tA t0 t1 t2 t3 t4 t5 t6 false), .agg (cA ct cv)] u fun e w' => e = .returned .nilIface ∧ Below u.heap.size u w')
    (FC : ∀ u, Below w.heap.size w u → Calls Tryz.prog 51 #[.agg (pA key (some ⟨bb, oo, none⟩) n cap), .int .i64 r] u fun e w' => e = .returned (.int .i64 f) ∧ Below u.heap.size u w')
    (GC : ∀ u, CellsAt u (w.heap.size + 1) 28 (tA t0 t1 t2 t3 t4 t5 t6 false) → Calls Tryz.prog 95 #[.pointer (some ⟨w.heap.size + 1, 0, none⟩), .int .i64 key, .int .i64 (f + t2), .agg (cA ct cv)] u fun e w' => e = .returned (.agg (cA y1 y2)) ∧ u.grownBy w' (some (w.heap.size + 1)) ∧ CellsAt w' (w.heap.size + 1) 28 (tA (t0 + 1) t1 (t2 + 1) z3 t4 t5 z6 false))
    (hw : IntKind.i64.wrap (f + t2) = f + t2) (hlt : ¬ t2 + 1 < cnt) (hz : (z3 == t4) = false)
    (hK : Kept w [(w.heap.size + 1 + 1 + 1 + 1 + 1, 95, (cA ct cv)), (w.heap.size + 1 + 1 + 1 + 1, 30, zC), (w.heap.size + 1 + 1 + 1, 28, zT), (w.heap.size + 1 + 1, 30, (cA ct cv)), (w.heap.size + 1, 28, (tA t0 t1 t2 t3 t4 t5 t6 false)), (w.heap.size, 26, (pA key (some ⟨bb, oo, none⟩) n cap))] v0) :
    Calls Tryz.prog 56 #[.pointer (some ⟨w.heap.size + 1, 0, none⟩), .agg (pA key (some ⟨bb, oo, none⟩) n cap), .int .i64 r, .slice (some ⟨w.heap.size + 1 + 1 + 1 + 1 + 1, 0, none⟩) 1 1] v0 fun e w' => e = .returned (.int .i64 4) ∧ Kept w [(w.heap.size + 1 + 1 + 1 + 1 + 1, 95, (cA y1 y2)), (w.heap.size + 1 + 1 + 1 + 1, 30, zC), (w.heap.size + 1 + 1 + 1, 28, zT), (w.heap.size + 1 + 1, 30, (cA ct cv)), (w.heap.size + 1, 28, (tA (t0 + 1) t1 0 z3 t4 0 0 true)), (w.heap.size, 26, (pA key (some ⟨bb, oo, none⟩) n cap))] w' := by
 have HK := hid hK
 have RC := hid R
 have FCK := hid FC
 have GCK := hid GC
 have HBB := hid hbb
 have HCC := hid hcc
 have LT := hid (hK.lt (x := (w.heap.size + 1 + 1 + 1 + 1 + 1, 95, (cA ct cv))) (by simp))
 have hr0 : (r : Int) < n := by omega
 have hd : decide (t2 + 1 < cnt) = false := decide_eq_false hlt
 have PA := hid (fun (u : World) (h : CellsAt u (w.heap.size + 1) 28 (tA (t0 + 1) t1 (t2 + 1) z3 t4 t5 z6 false)) => fail_calls (w.heap.size + 1) (t0 + 1) t1 (t2 + 1) z3 t4 t5 z6 false u h)
 clear R FC GC hK hbb hcc hlt
 go_enter Tryz.func56, Tryz.ntmps56
 go_upto_region 2 with fail
 have k0 : Kept w [(v0.heap.size, 26, (pA key (some ⟨bb, oo, none⟩) n cap)), (w.heap.size + 1 + 1 + 1 + 1 + 1, 95, (cA ct cv)), (w.heap.size + 1 + 1 + 1 + 1, 30, zC), (w.heap.size + 1 + 1 + 1, 28, zT), (w.heap.size + 1 + 1, 30, (cA ct cv)), (w.heap.size + 1, 28, (tA t0 t1 t2 t3 t4 t5 t6 false)), (w.heap.size, 26, (pA key (some ⟨bb, oo, none⟩) n cap))] _ := HK.out.put1 v0.heap.size 26 (pA key (some ⟨bb, oo, none⟩) n cap) rfl
 generalize hv1 : World.alloc v0 _ = v1 at k0 ⊢
 have HZ := hid (show v0.heap.size < v1.heap.size by rw [← hv1]; simp)
 clear hv1
 have K0 := hid k0
 clear k0 HK
 go_wp2_with fail
 try go_step3
 try go_wp2_with fail
 try go_step3
 try go_wp2_with fail
 go_loopw [9, 15] (fun c9 i wr => c9 = .int .i64 0 ∧ i = .int .i64 0 ∧ Kept w [(v0.heap.size, 26, (pA key (some ⟨bb, oo, none⟩) n cap)), (w.heap.size + 1 + 1 + 1 + 1 + 1, 95, (cA ct cv)), (w.heap.size + 1 + 1 + 1 + 1, 30, zC), (w.heap.size + 1 + 1 + 1, 28, zT), (w.heap.size + 1 + 1, 30, (cA ct cv)), (w.heap.size + 1, 28, (tA t0 t1 t2 t3 t4 t5 t6 false)), (w.heap.size, 26, (pA key (some ⟨bb, oo, none⟩) n cap))] wr ∧ v0.heap.size < wr.heap.size) (fun _ i _ => 1 - (intOf i).toNat)
 case atStart => exact ⟨rfl, rfl, K0.out, HZ.out⟩
 case round =>
  obtain ⟨rfl, rfl, k1, hzz⟩ := hrel
  have HZ2 := hid hzz
  clear hzz HZ K0
  obtain ⟨X0, Y0, X1, Y1, X2, Y2, X3, Y3, X4, Y4, X5, Y5, X6, Y6, -⟩ := k1.rd
  go_upto_region 5 with fail
  have k2 := k1.put1 wr.heap.size 30 (cA ct cv) rfl
  clear k1 X0 Y0 X1 Y1 X2 Y2 X3 Y3 X4 Y4 X5 Y5 X6 Y6
  generalize World.alloc wr _ = w2 at k2 ⊢
  refine wp_region_class_tail (C := fun u => Kept w [(wr.heap.size, 30, (cA ct cv)), (v0.heap.size, 26, (pA key (some ⟨bb, oo, none⟩) n cap)), (w.heap.size + 1 + 1 + 1 + 1 + 1, 95, (cA ct cv)), (w.heap.size + 1 + 1 + 1 + 1, 30, zC), (w.heap.size + 1 + 1 + 1, 28, zT), (w.heap.size + 1 + 1, 30, (cA ct cv)), (w.heap.size + 1, 28, (tA t0 t1 t2 t3 t4 t5 t6 false)), (w.heap.size, 26, (pA key (some ⟨bb, oo, none⟩) n cap))] u) 6 (by kernel_rfl) (by kernel_rfl) k2.drew ?_
  clear k2
  simp only [List.take_succ_cons, List.take_zero, List.drop_succ_cons, List.drop_zero]
  iterate 6 (first
   | go_big_quiet_skip
   | (go_big_quiet_want
      go_big_quiet_op
      first
       | go_big_quiet_on
       | (apply Exists.intro
          refine ⟨fun u hu => ?_, ?_⟩
          ·first
             | with_reducible rfl
             | (obtain ⟨X0, Y0, X1, Y1, X2, Y2, X3, Y3, X4, Y4, X5, Y5, X6, Y6, X7, Y7, -⟩ := hu.rd; go_simp; first | done | with_reducible rfl)
          go_big_quiet_on)))
  refine wpQuiet_nil ?_
  intro w3 k3
  obtain ⟨X0, Y0, X1, Y1, X2, Y2, X3, Y3, X4, Y4, X5, Y5, X6, Y6, X7, Y7, -⟩ := k3.rd
  go_wp2_with fail
  refine (RC.out _ k3.1).mono ?_; rintro e w4 ⟨rfl, b4⟩
  have k4 := k3.below b4
  clear k3 b4 X0 Y0 X1 Y1 X2 Y2 X3 Y3 X4 Y4 X5 Y5 X6 Y6 X7 Y7 RC
  go_upto_region 9 with fail
  have GL := hid (LT.out)
  have lz : w.heap.size + 1 + 1 + 1 + 1 + 1 < v0.heap.size := LT.out
  have lz2 : v0.heap.size < wr.heap.size := HZ2.out
  clear GL
  refine wp_region_free [false, false, false, false, false, false, false, true, false, true, false, true, true, false, true, false, true] (ShV [(7, .int .i64 f), (9, .pointer (some ⟨w.heap.size + 1, 0, none⟩)), (11, .int .i64 t2), (12, .int .i64 (f + t2)), (14, .agg (cA y1 y2))]) (fun D _ u => GoC (fun u => Kept w [(wr.heap.size, 30, (cA ct cv)), (v0.heap.size, 26, (pA key (some ⟨bb, oo, none⟩) n cap)), (w.heap.size + 1 + 1 + 1 + 1 + 1, 95, (cA ct cv)), (w.heap.size + 1 + 1 + 1 + 1, 30, zC), (w.heap.size + 1 + 1 + 1, 28, zT), (w.heap.size + 1 + 1, 30, (cA ct cv)), (w.heap.size + 1, 28, (tA t0 t1 t2 t3 t4 t5 t6 false)), (w.heap.size, 26, (pA key (some ⟨bb, oo, none⟩) n cap))] u) (fun u => Kept w [(wr.heap.size, 30, (cA ct cv)), (v0.heap.size, 26, (pA key (some ⟨bb, oo, none⟩) n cap)), (w.heap.size + 1 + 1 + 1 + 1 + 1, 95, (cA ct cv)), (w.heap.size + 1 + 1 + 1 + 1, 30, zC), (w.heap.size + 1 + 1 + 1, 28, zT), (w.heap.size + 1 + 1, 30, (cA ct cv)), (w.heap.size + 1, 28, (tA (t0 + 1) t1 (t2 + 1) z3 t4 t5 z6 false)), (w.heap.size, 26, (pA key (some ⟨bb, oo, none⟩) n cap))] u) (fun u => Kept w [(wr.heap.size, 30, (cA ct cv)), (v0.heap.size, 26, (pA key (some ⟨bb, oo, none⟩) n cap)), (w.heap.size + 1 + 1 + 1 + 1 + 1, 95, (cA y1 y2)), (w.heap.size + 1 + 1 + 1 + 1, 30, zC), (w.heap.size + 1 + 1 + 1, 28, zT), (w.heap.size + 1 + 1, 30, (cA ct cv)), (w.heap.size + 1, 28, (tA (t0 + 1) t1 (t2 + 1) z3 t4 t5 z6 false)), (w.heap.size, 26, (pA key (some ⟨bb, oo, none⟩) n cap))] u) D u) (by kernel_rfl) (by kernel_rfl) (fun γ => by kernel_rfl) (fun D γ γ' w _ h => h) (ShV.inh _) (fun γ => GoC.start k4.drew) (fun γ hγ => ?_)
  clear k4
  have g7 : γ 7 = .int .i64 f := hγ 7 rfl
  have g9 : γ 9 = .pointer (some ⟨w.heap.size + 1, 0, none⟩) := hγ 9 rfl
  have g11 : γ 11 = .int .i64 t2 := hγ 11 rfl
  have g12 : γ 12 = .int .i64 (f + t2) := hγ 12 rfl
  have g14 : γ 14 = .agg (cA y1 y2) := hγ 14 rfl
  have g16 : γ 16 = undef := hγ 16 rfl
  apply Exists.intro
  refine ⟨fun D => ?_, ?_, ?_⟩
  ·simp only [hushL, cond_true, cond_false, Nat.reduceAdd, g7, g9, g11, g12, g14, g16]
   iterate 17 (first
    | go_big_quiet_skip
    | (go_big_quiet_want
       go_big_quiet_op
       first
        | go_big_quiet_on
        | (apply Exists.intro
           refine ⟨fun u hu => ?_, ?_⟩
           ·first
              | with_reducible rfl
              | (obtain ⟨X0, Y0, X1, Y1, -⟩ := (show Kept w [(wr.heap.size, 30, (cA ct cv)), (v0.heap.size, 26, (pA key (some ⟨bb, oo, none⟩) n cap))] u from GoC.all hu (R := fun u => Kept w [(wr.heap.size, 30, (cA ct cv)), (v0.heap.size, 26, (pA key (some ⟨bb, oo, none⟩) n cap))] u) (fun h => h.sub (by intro y hy; simp at hy ⊢; rcases hy with rfl | rfl <;> simp)) (fun h => h.sub (by intro y hy; simp at hy ⊢; rcases hy with rfl | rfl <;> simp)) (fun h => h.sub (by intro y hy; simp at hy ⊢; rcases hy with rfl | rfl <;> simp))).rd; go_simp; first | done | with_reducible rfl)
           go_big_quiet_on)))
   exact wpQuiet_nil rfl
  ·simp only [freeOk, Nat.reduceAdd]
   refine ⟨fun D u hD hd hu => ?_, fun D u hD hd hu => ?_, fun D u hD hd hu => ?_, fun D u hD hd hu => ?_, fun D u hD hd hu => ?_, fun D u hD hd hu => ?_, trivial⟩
   ·have e14 := GoC.bf (fun e => (hu.1 e).2) hD
    have k := hu.2.2.2.1 e14
    exact steps_call ((FCK.out u k.1).mono fun e w' ⟨he, hb⟩ => ⟨_, he, rfl, hu.on 7 (.inl rfl) e14 (GoC.bf hu.2.2.1 e14) (fun e => by cases e) (k.below hb)⟩) rfl rfl rfl rfl (by kernel_rfl)
   ·exact steps_nilN rfl rfl ⟨rfl, hu.nil⟩
   ·have e12 := GoC.bf (fun e => (hu.2.1 e).1) hD
    have e14 := (hu.pre12 e12).1
    have k := hu.2.2.2.1 e14
    exact steps_loadN ((k.at_ (p := w.heap.size + 1) (t := 28) (cs := (tA t0 t1 t2 t3 t4 t5 t6 false)) (by simp)).cell 2) rfl rfl ⟨_, Tryz.underlying2⟩ ⟨rfl, hu.on 11 (.inr (.inl rfl)) e14 (hu.pre12 e12).2 (fun e => by cases e) k⟩
   ·have d7 := hd { on := 7, ground := Ground.data } (by simp) rfl rfl
    have d11 := hd { on := 11, ground := Ground.data } (by simp) rfl rfl
    have e14 := (hu.pre12 hD).1
    have k := hu.2.2.2.1 e14
    exact steps_addN rfl (a := f) (b := t2) rfl rfl ⟨by rw [hw]; rfl, hu.on 12 (.inr (.inr rfl)) e14 (hu.pre12 hD).2 (fun _ => ⟨d11, d7⟩) k⟩
   ·have d7 := hd { on := 7, ground := Ground.chain } (by simp) rfl rfl
    have d12 := hd { on := 12, ground := Ground.data } (by simp) rfl rfl
    have k := hu.2.2.2.1 hD
    exact steps_call ((GCK.out u (k.at_ (p := w.heap.size + 1) (t := 28) (cs := (tA t0 t1 t2 t3 t4 t5 t6 false)) (by simp))).mono fun e w' ⟨he, hg, hc⟩ => ⟨_, he, rfl, hu.did hD d12 d7 (show Kept w [(wr.heap.size, 30, (cA ct cv)), (v0.heap.size, 26, (pA key (some ⟨bb, oo, none⟩) n cap)), (w.heap.size + 1 + 1 + 1 + 1 + 1, 95, (cA ct cv)), (w.heap.size + 1 + 1 + 1 + 1, 30, zC), (w.heap.size + 1 + 1 + 1, 28, zT), (w.heap.size + 1 + 1, 30, (cA ct cv)), (w.heap.size + 1, 28, (tA (t0 + 1) t1 (t2 + 1) z3 t4 t5 z6 false)), (w.heap.size, 26, (pA key (some ⟨bb, oo, none⟩) n cap))] w' from k.put (k := 6) rfl (by unfold Apart; simp <;> omega) hg hc)⟩) rfl rfl rfl rfl (by kernel_rfl)
   ·have d14 := hd { on := 14, ground := Ground.data } (by simp) rfl rfl
    have k := hu.2.2.2.2.1 d14 hD
    exact steps_storeB (k.at_ (p := w.heap.size + 1 + 1 + 1 + 1 + 1) (t := 95) (cs := (cA ct cv)) (by simp)) rfl rfl rfl (by kernel_rfl) rfl (by simp [Value.oneCell']) (fun w' hc hg => ⟨rfl, hu.put d14 (show Kept w [(wr.heap.size, 30, (cA ct cv)), (v0.heap.size, 26, (pA key (some ⟨bb, oo, none⟩) n cap)), (w.heap.size + 1 + 1 + 1 + 1 + 1, 95, (cA y1 y2)), (w.heap.size + 1 + 1 + 1 + 1, 30, zC), (w.heap.size + 1 + 1 + 1, 28, zT), (w.heap.size + 1 + 1, 30, (cA ct cv)), (w.heap.size + 1, 28, (tA (t0 + 1) t1 (t2 + 1) z3 t4 t5 z6 false)), (w.heap.size, 26, (pA key (some ⟨bb, oo, none⟩) n cap))] w' from k.put (k := 2) rfl (by unfold Apart; simp <;> omega) hg hc)⟩)
  intro D w7 hD hu
  have k7 := hu.2.2.2.2.2 (hD 16 (by simp) rfl)
  clear hu hD FCK GCK g7 g9 g11 g12 g14 g16 hγ
  go_upto_region 11 with fail
  refine wp_region_class (C := fun u => Kept w [(wr.heap.size, 30, (cA ct cv)), (v0.heap.size, 26, (pA key (some ⟨bb, oo, none⟩) n cap)), (w.heap.size + 1 + 1 + 1 + 1 + 1, 95, (cA y1 y2)), (w.heap.size + 1 + 1 + 1 + 1, 30, zC), (w.heap.size + 1 + 1 + 1, 28, zT), (w.heap.size + 1 + 1, 30, (cA ct cv)), (w.heap.size + 1, 28, (tA (t0 + 1) t1 (t2 + 1) z3 t4 t5 z6 false)), (w.heap.size, 26, (pA key (some ⟨bb, oo, none⟩) n cap))] u) (by kernel_rfl) (by kernel_rfl) k7.drew ?_
  clear k7
  iterate 11 (first
   | go_big_quiet_skip
   | (go_big_quiet_want
      go_big_quiet_op
      first
       | go_big_quiet_on
       | (apply Exists.intro
          refine ⟨fun u hu => ?_, ?_⟩
          ·first
             | with_reducible rfl
             | (obtain ⟨X0, Y0, X1, Y1, X2, Y2, X3, Y3, X4, Y4, X5, Y5, X6, Y6, X7, Y7, -⟩ := hu.rd; have f0 := (hu.1.cell (p := ⟨bb, oo + r, none⟩) HBB.out).trans HCC.out; go_simp; first | done | with_reducible rfl)
          go_big_quiet_on)))
  refine wpQuiet_nil ?_
  intro w8 k8
  go_upto_region 12 with fail
  refine wp_region_class (C := fun u => Kept w [(wr.heap.size, 30, (cA ct cv)), (v0.heap.size, 26, (pA key (some ⟨bb, oo, none⟩) n cap)), (w.heap.size + 1 + 1 + 1 + 1 + 1, 95, (cA y1 y2)), (w.heap.size + 1 + 1 + 1 + 1, 30, zC), (w.heap.size + 1 + 1 + 1, 28, zT), (w.heap.size + 1 + 1, 30, (cA ct cv)), (w.heap.size + 1, 28, (tA (t0 + 1) t1 (t2 + 1) z3 t4 t5 z6 false)), (w.heap.size, 26, (pA key (some ⟨bb, oo, none⟩) n cap))] u) (by kernel_rfl) (by kernel_rfl) k8.drew ?_
  clear k8
  iterate 10 (first
   | go_big_quiet_skip
   | (go_big_quiet_want
      go_big_quiet_op
      first
       | go_big_quiet_on
       | (apply Exists.intro
          refine ⟨fun u hu => ?_, ?_⟩
          ·first
             | with_reducible rfl
             | (obtain ⟨X0, Y0, X1, Y1, X2, Y2, X3, Y3, X4, Y4, X5, Y5, X6, Y6, X7, Y7, -⟩ := hu.rd; go_simp; first | done | with_reducible rfl)
          go_big_quiet_on)))
  refine wpQuiet_nil ?_
  intro w9 k9
  go_wp2_with fail
  refine (PA.out _ (k9.at_ (p := w.heap.size + 1) (t := 28) (cs := (tA (t0 + 1) t1 (t2 + 1) z3 t4 t5 z6 false)) (by simp))).mono ?_; rintro e w10 ⟨rfl, g10, c10⟩
  have K10 := hid (show Kept w [(wr.heap.size, 30, (cA ct cv)), (v0.heap.size, 26, (pA key (some ⟨bb, oo, none⟩) n cap)), (w.heap.size + 1 + 1 + 1 + 1 + 1, 95, (cA y1 y2)), (w.heap.size + 1 + 1 + 1 + 1, 30, zC), (w.heap.size + 1 + 1 + 1, 28, zT), (w.heap.size + 1 + 1, 30, (cA ct cv)), (w.heap.size + 1, 28, (tA (t0 + 1) t1 0 z3 t4 0 0 true)), (w.heap.size, 26, (pA key (some ⟨bb, oo, none⟩) n cap))] _ from k9.put (k := 6) rfl (by unfold Apart; simp <;> omega) g10 c10)
  clear k9 g10 c10 PA
  go_wp2_with fail
  try rw [Exit.noGoto_ret]
  go_ret
  exact ⟨rfl, K10.out.sub (by intro y hy; simp at hy ⊢; rcases hy with rfl | rfl | rfl | rfl | rfl | rfl <;> simp)⟩
end Go.Proofs.YteopplldbcgjjaaGreatDoor.Mx

import Derived.Test.YteopplldbcgjjaaGreatDoorH32
import Derived.Test.YteopplldbcgjjaaGreatDoorH38
import Derived.Test.YteopplldbcgjjaaGreatDoorH39
import Derived.Test.YteopplldbcgjjaaGreatDoorH28
namespace Go.Proofs.YteopplldbcgjjaaGreatDoor.Mx
open Go.ChangeShapes Go.WideShapes Go.ChangeAt Go.RowKit
set_option linter.unusedVariables false
open Go.Lib (hid)
set_option maxHeartbeats 64000000
theorem ceGuardS : Tryz.prog.eqGuardType Tryz.prog.depth 30 = false := by kernel_rfl
theorem truGuardS : Tryz.prog.eqGuardType Tryz.prog.depth 28 = false := by kernel_rfl
set_option maxRecDepth 20000 in
theorem scansFn_calls (a0 a1 a2 a3 : Addr) (A : Option Addr) (l : List Int) (cap : Nat) (w : World) (hn : l.length ≤ maxLen) (hA : Ints w .u8 w.heap.size A l) (h8 : ∀ i, i < l.length → 0 ≤ l.getD i 0 ∧ l.getD i 0 ≤ 255) (he : Errs w a0 a1 a2 a3) :
    Calls Tryz.prog 4 #[.slice A l.length cap] w fun e w' => e = .returned (.bool true) ∧ Below w.heap.size w w' := by
 by_cases hs : 4096 < l.length
 ·go_enter Tryz.func4, Tryz.ntmps4
  go_wp2_with fail
  refine (big_yes A l.length cap w hs).mono ?_; rintro e w' ⟨rfl, rfl⟩
  go_wp2_with fail
  go_ret
  exact ⟨rfl, Below.refl _ _⟩
 ·have hs' : l.length ≤ 4096 := by omega
  have HN := hid hs'
  have HNM := hid hn
  have H8 := hid h8
  have HE := hid he
  have HEW := hid he
  have HA := hid hA
  clear hs hn hA h8 he
  go_enter Tryz.func4, Tryz.ntmps4
  go_wp2_with fail
  refine (big_no A l.length cap w hs').mono ?_; rintro e w' ⟨rfl, rfl⟩
  go_wp2_with fail
  refine (drawScanned_calls A l cap w HN.out HA.out).mono ?_; rintro e w1 ⟨key, Q, zs, c, t, rr, ct, cv, rfl, hct, hcv, h5, hc, ht, hI, b1⟩
  have HCT := hid (show I64 ct ∧ I64 cv from ⟨hct, hcv⟩)
  have h5' : zs.length ≤ 1048576 := by omega
  have h5m : zs.length ≤ maxLen := by unfold maxLen; omega
  have HL := hid h5'
  have HM := hid h5m
  have HC := hid hc
  clear h5 h5' h5m hc hs' ht hct hcv
  have K0 := hid ((Kept.refl w).below b1)
  have J0 := hid hI
  have A0 := hid ((HA.out.below b1 (Nat.le_refl _)).more b1.size)
  have E0 := hid (HE.out.below b1)
  clear hI b1 HA HE
  have K1 := hid (K0.out.put1 w1.heap.size 26 (pA key Q zs.length c) (rfl))
  have I2 := hid ((J0.out.below (box_below w1 (.cells (pA key Q zs.length c) 26)) (Nat.le_refl _)).more ((box_below w1 (.cells (pA key Q zs.length c) 26))).size)
  have I3 := hid ((A0.out.below (box_below w1 (.cells (pA key Q zs.length c) 26)) (Nat.le_refl _)).more ((box_below w1 (.cells (pA key Q zs.length c) 26))).size)
  have E4 := hid (E0.out.below ((box_below w1 (.cells (pA key Q zs.length c) 26))))
  clear K0 J0 A0 E0
  have K5 := hid (K1.out.put1 (w1.heap.size + 1) 28 (tR t) (by simp))
  have I6 := hid ((I2.out.below (box_below (w1.alloc (.cells (pA key Q zs.length c) 26)) (.cells (tR t) 28)) (Nat.le_refl _)).more ((box_below (w1.alloc (.cells (pA key Q zs.length c) 26)) (.cells (tR t) 28))).size)
  have I7 := hid ((I3.out.below (box_below (w1.alloc (.cells (pA key Q zs.length c) 26)) (.cells (tR t) 28)) (Nat.le_refl _)).more ((box_below (w1.alloc (.cells (pA key Q zs.length c) 26)) (.cells (tR t) 28))).size)
  have E8 := hid (E4.out.below ((box_below (w1.alloc (.cells (pA key Q zs.length c) 26)) (.cells (tR t) 28))))
  clear K1 I2 I3 E4
  have K9 := hid (K5.out.put1 (w1.heap.size + 1 + 1) 30 (cA ct cv) (by simp))
  have I10 := hid ((I6.out.below (box_below ((w1.alloc (.cells (pA key Q zs.length c) 26)).alloc (.cells (tR t) 28)) (.cells (cA ct cv) 30)) (Nat.le_refl _)).more ((box_below ((w1.alloc (.cells (pA key Q zs.length c) 26)).alloc (.cells (tR t) 28)) (.cells (cA ct cv) 30))).size)
  have I11 := hid ((I7.out.below (box_below ((w1.alloc (.cells (pA key Q zs.length c) 26)).alloc (.cells (tR t) 28)) (.cells (cA ct cv) 30)) (Nat.le_refl _)).more ((box_below ((w1.alloc (.cells (pA key Q zs.length c) 26)).alloc (.cells (tR t) 28)) (.cells (cA ct cv) 30))).size)
  have E12 := hid (E8.out.below ((box_below ((w1.alloc (.cells (pA key Q zs.length c) 26)).alloc (.cells (tR t) 28)) (.cells (cA ct cv) 30))))
  clear K5 I6 I7 E8
  go_upto_region 4 with fail
  generalize World.alloc (World.alloc _ _) _ = v1 at K9 I10 I11 E12 ⊢
  obtain ⟨X0, Y0, X1, Y1, X2, Y2, -⟩ := K9.out.rd
  have CI := hid (fun (u : World) hE hQ => implScanned_calls a0 a1 a2 a3 key rr ct cv Q zs c t.clock t.epoch t.cursor t.read t.written t.nread t.nwritten t.failed u HL.out HC.out hQ HCT.out.1 HCT.out.2 hE)
  have CS := hid (fun (u : World) hQ => specScanned_calls key rr ct cv Q zs c t.clock t.epoch t.cursor t.read t.written t.nread t.nwritten t.failed u HM.out HC.out hQ)
  rw [show (⟨t.clock, t.epoch, t.cursor, t.read, t.written, t.nread, t.nwritten, t.failed⟩ : Tru) = t from rfl] at CI CS
  generalize scanned key zs rr t ct cv = R at CI CS
  obtain ⟨r, ⟨e0, e1⟩, k⟩ := R
  simp only [] at CI CS
  go_wp2_with fail
  refine (CI.out _ E12.out I10.out).mono ?_; rintro e wa ⟨rfl, ba⟩
  clear X0 Y0 X1 Y1 X2 Y2
  have K13 := hid (K9.out.below (ba))
  have I14 := hid ((I10.out.below ba (Nat.le_refl _)).more (ba).size)
  have I15 := hid ((I11.out.below ba (Nat.le_refl _)).more (ba).size)
  have E16 := hid (E12.out.below (ba))
  clear K9 I10 I11 E12
  clear ba CI
  have K17 := hid (K13.out.put1 wa.heap.size 28 (tR r) (rfl))
  have I18 := hid ((I14.out.below (box_below wa (.cells (tR r) 28)) (Nat.le_refl _)).more ((box_below wa (.cells (tR r) 28))).size)
  have I19 := hid ((I15.out.below (box_below wa (.cells (tR r) 28)) (Nat.le_refl _)).more ((box_below wa (.cells (tR r) 28))).size)
  have E20 := hid (E16.out.below ((box_below wa (.cells (tR r) 28))))
  clear K13 I14 I15 E16
  have K21 := hid (K17.out.put1 (wa.heap.size + 1) 30 (cA e0 e1) (by simp))
  have I22 := hid ((I18.out.below (box_below (wa.alloc (.cells (tR r) 28)) (.cells (cA e0 e1) 30)) (Nat.le_refl _)).more ((box_below (wa.alloc (.cells (tR r) 28)) (.cells (cA e0 e1) 30))).size)
  have I23 := hid ((I19.out.below (box_below (wa.alloc (.cells (tR r) 28)) (.cells (cA e0 e1) 30)) (Nat.le_refl _)).more ((box_below (wa.alloc (.cells (tR r) 28)) (.cells (cA e0 e1) 30))).size)
  have E24 := hid (E20.out.below ((box_below (wa.alloc (.cells (tR r) 28)) (.cells (cA e0 e1) 30))))
  clear K17 I18 I19 E20
  go_upto_region 5 with fail
  generalize World.alloc (World.alloc _ _) _ = v2 at K21 I22 I23 E24 ⊢
  obtain ⟨X0, Y0, X1, Y1, X2, Y2, X3, Y3, X4, Y4, -⟩ := K21.out.rd
  go_wp2_with fail
  refine (CS.out _ I22.out).mono ?_; rintro e wb ⟨rfl, bb⟩
  clear X0 Y0 X1 Y1 X2 Y2 X3 Y3 X4 Y4
  have K25 := hid (K21.out.below (bb))
  have I26 := hid ((I22.out.below bb (Nat.le_refl _)).more (bb).size)
  have I27 := hid ((I23.out.below bb (Nat.le_refl _)).more (bb).size)
  have E28 := hid (E24.out.below (bb))
  clear K21 I22 I23 E24
  clear bb CS
  have K29 := hid (K25.out.put1 wb.heap.size 28 (tR r) (rfl))
  have I30 := hid ((I26.out.below (box_below wb (.cells (tR r) 28)) (Nat.le_refl _)).more ((box_below wb (.cells (tR r) 28))).size)
  have I31 := hid ((I27.out.below (box_below wb (.cells (tR r) 28)) (Nat.le_refl _)).more ((box_below wb (.cells (tR r) 28))).size)
  have E32 := hid (E28.out.below ((box_below wb (.cells (tR r) 28))))
  clear K25 I26 I27 E28
  have K33 := hid (K29.out.put1 (wb.heap.size + 1) 30 (cA e0 e1) (by simp))
  have I34 := hid ((I30.out.below (box_below (wb.alloc (.cells (tR r) 28)) (.cells (cA e0 e1) 30)) (Nat.le_refl _)).more ((box_below (wb.alloc (.cells (tR r) 28)) (.cells (cA e0 e1) 30))).size)
  have I35 := hid ((I31.out.below (box_below (wb.alloc (.cells (tR r) 28)) (.cells (cA e0 e1) 30)) (Nat.le_refl _)).more ((box_below (wb.alloc (.cells (tR r) 28)) (.cells (cA e0 e1) 30))).size)
  have E36 := hid (E32.out.below ((box_below (wb.alloc (.cells (tR r) 28)) (.cells (cA e0 e1) 30))))
  clear K29 I30 I31 E32
  go_upto_region 6 with fail
  generalize World.alloc (World.alloc _ _) _ = v3 at K33 I34 I35 E36 ⊢
  obtain ⟨X0, Y0, X1, Y1, X2, Y2, X3, Y3, X4, Y4, X5, Y5, X6, Y6, -⟩ := K33.out.rd
  have hm := truGuardS
  have hm2 := ceGuardS
  go_wp2_with fail
  refine (roll_calls A l cap 8 _ HNM.out I35.out).mono ?_; rintro e u0 ⟨rfl, bd, hdice⟩
  clear X0 Y0 X1 Y1 X2 Y2 X3 Y3 X4 Y4 X5 Y5 X6 Y6
  clear hm hm2
  have B0 := hid (K33.out.1.trans (bd.mono K33.out.1.size))
  have EW := hid (E36.out.below bd)
  have D0 := hid hdice
  have hg0 : w.heap.size ≤ v3.heap.size := K33.out.1.size
  generalize hg : v3.heap.size = g at D0 hg0 ⊢
  clear hdice bd K33 I34 I35 E36
  clear hg HCT HL HM HC
  go_wp2_with fail
  refine (throw_calls g A l cap 1000 _ HNM.out D0.out H8.out (by omega)).mono ?_; rintro e u1 ⟨kq, rfl, ⟨kq0, kq1⟩, g_, d_⟩
  have hb1 := bgb B0.out g_ B0.out.size hg0
  have D1 := hid d_
  have B1 := hid hb1
  clear hb1 g_ d_ B0 D0
  obtain ⟨key, hkey⟩ : ∃ k : Int, k = 1 + kq := ⟨_, rfl⟩
  have hwk : IntKind.i64.wrap (1 + kq) = key := (IntWalk.i64_in _ (by omega)).trans hkey.symm
  have HKY := hid hkey
  clear hkey
  go_wp2_with fail
  refine (throw_calls g A l cap 5 _ HNM.out D1.out H8.out (by omega)).mono ?_; rintro e u2 ⟨nq, rfl, ⟨nq0, nq1⟩, g_, d_⟩
  have hb2 := bgb B1.out g_ B1.out.size hg0
  have D2 := hid d_
  have B2 := hid hb2
  clear hb2 g_ d_ B1 D1
  obtain ⟨n, hn⟩ : ∃ n : Nat, (n : Int) = 1 + nq := ⟨(1 + nq).toNat, by omega⟩
  have hwn : IntKind.i64.wrap (1 + nq) = n := (IntWalk.i64_in _ (by omega)).trans hn.symm
  have HKN := hid (show (1 ≤ key ∧ key ≤ 1000) ∧ 1 ≤ n ∧ n ≤ 5 by have := HKY.out; omega)
  clear kq0 kq1 nq0 nq1 hn HKY
  go_upto_region 10 with fail
  have hgq := D2.out.lt
  have d3 := (D2.out.below (allocP u2 (.cells #[.int .i64 n] 2)) D2.out.lt)
  have b3 := B2.out.trans ((allocP u2 (.cells #[.int .i64 n] 2)).mono B2.out.size)
  have n3 := CellsAt.new u2 2 #[.int .i64 n]
  have z3 : (u2.alloc (.cells #[.int .i64 n] 2)).heap.size = u2.heap.size + 1 := by simp
  generalize hu3 : u2.alloc (.cells #[.int .i64 n] 2) = u3 at d3 b3 n3 z3 ⊢
  clear hu3
  have d4 := (d3.below (allocP u3 (.cells (pA key (some ⟨u2.heap.size, 0, none⟩) 1 1) 26)) d3.lt)
  have b4 := b3.trans ((allocP u3 (.cells (pA key (some ⟨u2.heap.size, 0, none⟩) 1 1) 26)).mono b3.size)
  have n4 := n3.below (allocP u3 (.cells (pA key (some ⟨u2.heap.size, 0, none⟩) 1 1) 26)) n3.lt
  have p4 := CellsAt.new u3 26 (pA key (some ⟨u2.heap.size, 0, none⟩) 1 1)
  rw [z3] at p4
  have z4 : (u3.alloc (.cells (pA key (some ⟨u2.heap.size, 0, none⟩) 1 1) 26)).heap.size = u2.heap.size + 1 + 1 := by simp [z3]
  generalize u3.alloc (.cells (pA key (some ⟨u2.heap.size, 0, none⟩) 1 1) 26) = u4 at d4 b4 n4 p4 z4 ⊢
  clear d3 b3 n3 D2 B2
  generalize hqb : u2.heap.size = qb at n4 p4 z4 z3 hgq ⊢
  obtain ⟨pb, hpb⟩ : ∃ pb, pb = qb + 1 := ⟨_, rfl⟩
  try rw [hqb] at z3
  try rw [z3]
  try rw [← hpb]
  rw [← hpb] at p4
  have HPB := hid hpb
  clear hpb
  have hIn : Ints u4 .i64 u4.heap.size (some ⟨qb, 0, none⟩) [(n : Int)] := fun i hi => by
   obtain rfl : i = 0 := by simp at hi; omega
   exact ⟨qb, 0, rfl, n4.lt, by have := n4.cell 0; simpa using this⟩
  have NT := hid (newT qb u4 HKN.out.1 HKN.out.2 hIn)
  have D4 := hid d4
  have B4 := hid b4
  have N4 := hid n4
  have P4 := hid p4
  have pc : ∀ i, u4.cell? ⟨pb, i, none⟩ = (pA key (some ⟨qb, 0, none⟩) 1 1)[i]? := p4.cell
  clear d4 b4 n4 p4 hIn hwk hwn
  go_wp2_with fail
  refine (NT.out).mono ?_; rintro e u5 ⟨gc, cc, rfl, hgc, hgc2, row5, b5⟩
  clear pc NT
  have d6 := (D4.out.below b5 D4.out.lt)
  have b6 := B4.out.trans (b5.mono B4.out.size)
  have n6 := N4.out.below b5 N4.out.lt
  have p6 := P4.out.below b5 P4.out.lt
  clear D4 B4 N4 P4 b5
  obtain ⟨T0, hT0⟩ : ∃ T0 : Tru, T0 = ⟨n, 0, 0, 0, sumOf key (trisNew key 0 n), 0, 0, false⟩ := ⟨_, rfl⟩
  obtain ⟨L0, hL0⟩ : ∃ L0, L0 = cellsNew key 0 n := ⟨_, rfl⟩
  have KP0 := hid (show Kp key n 0 T0 L0 by rw [hT0, hL0]; exact Kp.new HKN.out.1 HKN.out.2)
  have TC0 := hid (show T0.clock = n ∧ T0.epoch = 0 by rw [hT0]; exact ⟨rfl, rfl⟩)
  rw [← hL0] at row5
  have tb6 := CellsAt.new u5 28 (tA n 0 0 0 (sumOf key (trisNew key 0 n)) 0 0 false)
  have w9 : W9 w g qb pb gc u5.heap.size A l cap key (n : Int) T0 L0 (u5.alloc (.cells (tA n 0 0 0 (sumOf key (trisNew key 0 n)) 0 0 false) 28)) := ⟨b6.trans ((allocP u5 _).mono b6.size), d6.below (allocP u5 _) d6.lt, n6.below (allocP u5 _) n6.lt, p6.below (allocP u5 _) p6.lt, by rw [hT0]; exact tb6, row5.below (allocP u5 _), by have := HPB.out; omega⟩
  clear b6 d6 n6 p6 row5 tb6
  go_upto_region 11 with fail
  generalize u5.alloc (.cells (tA n 0 0 0 (sumOf key (trisNew key 0 n)) 0 0 false) 28) = u6 at w9 ⊢
  generalize u5.heap.size = tb at w9 ⊢
  have H9 := hid w9
  clear w9 hT0 hL0 z3 z4 hgq hgc hgc2 HPB hqb hg0
  have hn1 : (1 : Int) ≤ n := by have := HKN.out.2; omega
  have hn5 : (n : Int) ≤ 5 := by have := HKN.out.2; omega
  go_wp2_with fail
  go_loopw [17, 18] (fun p i u => ∃ (k : Nat) (T : Tru) (L : List Ce), p = .int .i64 T.epoch ∧ i = .int .i64 k ∧ k ≤ 60 ∧ T.clock ≤ 5 + k ∧ T.epoch ≤ k ∧ Kp key n 0 T L ∧ W9 w g qb pb gc tb A l cap key (n : Int) T L u) (fun _ i _ => 60 - (intOf i).toNat)
  case atStart => exact ⟨0, T0, L0, by rw [TC0.out.2], rfl, by omega, by have := TC0.out.1; omega, by have := TC0.out.2; omega, KP0.out, H9.out⟩
  case round =>
   obtain ⟨k, T, L, rfl, rfl, hk, hcl, hep, hkp, h9⟩ := hrel
   clear H9 KP0 TC0
   have H9 := hid h9
   have KP := hid hkp
   have HCL := hid (show T.clock < 100000 ∧ T.epoch < 1000 by omega)
   have HCE := hid (show T.clock ≤ 5 + k ∧ T.epoch ≤ k from ⟨hcl, hep⟩)
   have HLEN := hid hkp.len
   obtain ⟨cu0, cu1, cu2, cu3⟩ := hkp.cursor
   have hep0 : 0 ≤ T.epoch := hkp.ok.2.2.2.1.1
   clear hcl hkp h9
   by_cases hlt : k < 60
   ·skip
    have hlt' : (k : Int) < 60 := by omega
    have hk0 : (0 : Int) ≤ k := by omega
    obtain ⟨X0, Y0, X1, Y1, X2, Y2, -⟩ := H9.out.rd
    go_wp2_with fail
    refine (throw_calls g A l cap n _ HNM.out H9.out.d H8.out (by omega)).mono ?_; rintro e ua ⟨m0, rfl, ⟨m00, m01⟩, g_, d_⟩
    have H9a := hid (H9.out.thrown g_ d_)
    clear H9 g_ d_
    clear X0 Y0 X1 Y1 X2 Y2
    obtain ⟨m, rfl⟩ : ∃ m : Nat, m0 = m := ⟨m0.toNat, by omega⟩
    go_wp2_with fail
    refine (throw_calls g A l cap 2 _ HNM.out H9a.out.d H8.out (by omega)).mono ?_; rintro e ub ⟨bt, rfl, ⟨bt0, bt1⟩, g_, d_⟩
    have H9b := hid (H9a.out.thrown g_ d_)
    clear H9a g_ d_
    rcases (show bt = 0 ∨ bt = 1 by omega) with rfl | rfl
    ·skip
     have hmn : m < n := by omega
     have hmz : (m : Int) < n := by omega
     have hmz0 : (0 : Int) ≤ m := by omega
     clear m00 m01 bt0 bt1
     have HML := hid (show m < L.length by rw [HLEN.out]; exact hmn)
     have HGOOD := hid (show ∃ T' e0 e1 k5, TG key n T L m T' e0 e1 k5 from by obtain ⟨T', e0, e1, n5, k5, -, hg⟩ := touch_good KP.out hmn HCL.out.1 (v := -1) (by omega) (by omega); exact ⟨T', e0, e1, k5, hg⟩)
     obtain ⟨X0, Y0, X1, Y1, X2, Y2, -⟩ := H9b.out.rd
     go_upto_region 17 with fail
     refine wp_region_free [false, false, false, true, false, false, false, false, true, false, true, false, true, false, false, false, false, false, true, false, true, false] (ShL [(3, fun v => v = .agg (tR T)), (8, fun v => v = .agg (cA ((L.getD m (0, 0)).1) ((L.getD m (0, 0)).2))), (10, fun v => ∃ x : Int, v = .int .i64 x ∧ 0 ≤ x ∧ x ≤ 10007), (12, fun v => ∃ (T' : Tru) (e0 e1 n5 k5 : Int), v = .tuple #[.agg (tR T'), .agg (cA e0 e1), .int .i64 n5, .int .i64 k5] ∧ TG key n T L m T' e0 e1 k5)]) (fun D γ u => T9 w g qb pb gc tb A l cap key (n : Int) T L m [3, 8, 10] 12 18 20 D γ u) (by kernel_rfl) (by kernel_rfl) (fun γ => by kernel_rfl) (fun D γ γ' w ha h => h.loc ha) (ShL.inh _ ?inh) (fun γ => T9.start H9b.out.drew) (fun γ hγ => ?_)
     case inh =>
      intro y hy
      simp only [List.mem_cons, List.not_mem_nil, or_false] at hy
      rcases hy with rfl | rfl | rfl | rfl
      ·exact ⟨_, rfl⟩
      ·exact ⟨_, rfl⟩
      ·exact ⟨_, 0, rfl, by omega, by omega⟩
      ·obtain ⟨T8, e8, e9, k8, hg8⟩ := HGOOD.out
       exact ⟨_, T8, e8, e9, 0, k8, rfl, hg8⟩
     have g3 : γ 3 = .agg (tR T) := hγ 3 rfl
     have g8 : γ 8 = .agg (cA ((L.getD m (0, 0)).1) ((L.getD m (0, 0)).2)) := hγ 8 rfl
     obtain ⟨x, g10, x0, x1⟩ : ∃ x : Int, γ 10 = .int .i64 x ∧ 0 ≤ x ∧ x ≤ 10007 := hγ 10 rfl
     have hwx : IntKind.i64.wrap (x - 1) = x - 1 := IntWalk.i64_in _ (by omega)
     obtain ⟨T', e0, e1, n5, k5, g12, hgood⟩ : ∃ (T' : Tru) (e0 e1 n5 k5 : Int), γ 12 = .tuple #[.agg (tR T'), .agg (cA e0 e1), .int .i64 n5, .int .i64 k5] ∧ TG key n T L m T' e0 e1 k5 := hγ 12 rfl
     have g18 : γ 18 = undef := hγ 18 rfl
     have g20 : γ 20 = undef := hγ 20 rfl
     have HG := hid hgood
     clear hgood HGOOD
     apply Exists.intro
     refine ⟨fun D => ?_, ?_, ?_⟩
     ·simp only [hushL, cond_true, cond_false, Nat.reduceAdd, g3, g8, g10, g12, g18, g20]
      iterate 22 (first
       | go_big_quiet_skip
       | (go_big_quiet_want
          go_big_quiet_op
          first
           | go_big_quiet_on
           | (apply Exists.intro
              refine ⟨fun u hu => ?_, ?_⟩
              ·first
                 | with_reducible rfl
                 | (obtain ⟨T1, L1, h1⟩ := hu.some9; obtain ⟨X0, Y0, X1, Y1, X2, Y2, -⟩ := h1.rd; go_simp; first | done | with_reducible rfl)
              go_big_quiet_on)))
      exact wpQuiet_nil rfl
     ·simp only [freeOk, Nat.reduceAdd]
      refine ⟨fun D u hD hd hu => ?_, fun D u hD hd hu => ?_, fun D u hD hd hu => ?_, fun D u hD hd hu => ?_, fun D u hD hd hu => ?_, fun D u hD hd hu => ?_, trivial⟩
      ·have e := T9.bf (fun e => hu.1 e 3 (by simp)) hD
       have h := hu.asIs e
       exact steps_load h.t rfl rfl Tryz.underlying28 rfl (by kernel_rfl) ⟨rfl, hu.step e 3 (by decide) h⟩
      ·have e := T9.bf (fun e => hu.1 e 8 (by simp)) hD
       have h := hu.asIs e
       exact steps_loadE (h.r.cells HML.out).1 (h.r.cells HML.out).2 rfl rfl Tryz.underlying30 rfl (by kernel_rfl) ⟨rfl, hu.step e 8 (by decide) h⟩
      ·have e := T9.bf (fun e => hu.1 e 10 (by simp)) hD
       have h := hu.asIs e
       exact steps_call ((throw_calls g A l cap 10008 u HNM.out h.d H8.out (by omega)).mono fun e' w' ⟨x, he, hb, hg, hdd⟩ => ⟨_, he, ⟨x, rfl, by omega, by omega⟩, hu.step e 10 (by decide) (h.thrown hg hdd)⟩) rfl rfl rfl rfl (by kernel_rfl)
      ·have d3 : D 3 = true := hd ⟨3, .data⟩ (by simp) rfl rfl
       have d8 : D 8 = true := hd ⟨8, .data⟩ (by simp) rfl rfl
       have d10 : D 10 = true := hd ⟨10, .chain⟩ (by simp) rfl rfl
       have h := hu.asIs hD
       exact steps_call ((touch9 HEW.out h KP.out hmn HCL.out.1 (v := x - 1) (by omega) (by omega)).mono fun e w' ⟨v, he, hs, hb⟩ => ⟨v, he, hs, hu.call hD (by intro i hi; simp only [List.mem_cons, List.not_mem_nil, or_false] at hi; rcases hi with rfl | rfl | rfl <;> assumption) (by decide) (h.below hb)⟩) rfl rfl rfl rfl (by kernel_rfl)
      ·have dq : D 12 = true := hd ⟨12, .phase⟩ (by simp) rfl rfl
       obtain ⟨T1, L1, h1⟩ := hu.some9
       exact steps_store h1.t rfl rfl rfl (by kernel_rfl) rfl (by simp [Value.oneCell']) (fun w' hc hg => ⟨rfl, hu.put1 dq hD (by decide) g12 hg hc⟩)
      ·have ds : D 18 = true := by first | (refine hd ⟨18, .chain⟩ ?_ rfl rfl; simp; done) | (refine hd ⟨18, .phase⟩ ?_ rfl rfl; simp; done)
       have row := hu.rowL hD
       exact steps_storeE (row.cells HML.out).1 (row.cells HML.out).2 row.frozen rfl rfl rfl (by kernel_rfl) (by simp [Value.oneCell']) ⟨rfl, hu.put2 ds (by decide) g12 (row.set HML.out e0 e1).2 (row.set HML.out e0 e1).1⟩
     ·intro D uf hD hu
      have h9 := hid (hu.done (hD 18 (by simp) rfl) (hD 20 (by simp) rfl) g12)
      clear hu hD hγ g3 g8 g10 g12 g18 g20 H9b
      obtain ⟨rfl, kp2, cl2, ep2, -⟩ := HG.out
      have KP2 := hid kp2
      have CE2 := hid (show T'.clock ≤ 5 + (k + 1 : Nat) ∧ T'.epoch ≤ (k + 1 : Nat) by have := HCE.out; omega)
      have EP2 := hid ep2
      clear kp2 cl2 ep2 HG
      go_wp2_with fail
      go_roundw
      case rel => exact ⟨k + 1, T', _, by rw [EP2.out], by go_num, by omega, CE2.out.1, CE2.out.2, KP2.out, h9.out⟩
      case measure => simp [intOf]; omega
    ·skip
     clear m00 m01 bt0 bt1
     have HML := hid (show T.cursor.toNat < L.length by rw [HLEN.out]; exact cu2)
     have HCU := hid cu3
     clear cu3
     have HGOOD := hid (show ∃ T' e0 e1 k5, SG key n 0 T L T.cursor.toNat T' e0 e1 k5 from by obtain ⟨T', e0, e1, k5, -, hg⟩ := scan_good KP.out HCU.out.symm HCL.out.1 HCL.out.2 (.inl rfl); exact ⟨T', e0, e1, k5, hg⟩)
     obtain ⟨X0, Y0, X1, Y1, X2, Y2, -⟩ := H9b.out.rd
     go_upto_region 21 with fail
     refine wp_region_free [false, false, false, true, false, false, false, true, true, false, false, false, false, true, false, true, false] (ShL [(3, fun v => v = .agg (tR T)), (7, fun v => v = .agg (cA ((L.getD T.cursor.toNat (0, 0)).1) ((L.getD T.cursor.toNat (0, 0)).2))), (8, fun v => ∃ (T' : Tru) (e0 e1 k5 : Int), v = .tuple #[.agg (tR T'), .agg (cA e0 e1), .int .i64 k5] ∧ SG key n 0 T L T.cursor.toNat T' e0 e1 k5)]) (fun D γ u => T9 w g qb pb gc tb A l cap key (n : Int) T L T.cursor.toNat [3, 7] 8 13 15 D γ u) (by kernel_rfl) (by kernel_rfl) (fun γ => by kernel_rfl) (fun D γ γ' w ha h => h.loc ha) (ShL.inh _ ?inh) (fun γ => T9.start H9b.out.drew) (fun γ hγ => ?_)
     case inh =>
      intro y hy
      simp only [List.mem_cons, List.not_mem_nil, or_false] at hy
      rcases hy with rfl | rfl | rfl
      ·exact ⟨_, rfl⟩
      ·exact ⟨_, rfl⟩
      ·obtain ⟨T8, e8, e9, k8, hg8⟩ := HGOOD.out
       exact ⟨_, T8, e8, e9, k8, rfl, hg8⟩
     have g3 : γ 3 = .agg (tR T) := hγ 3 rfl
     have g7 : γ 7 = .agg (cA ((L.getD T.cursor.toNat (0, 0)).1) ((L.getD T.cursor.toNat (0, 0)).2)) := hγ 7 rfl
     obtain ⟨T', e0, e1, k5, g8, hgood⟩ : ∃ (T' : Tru) (e0 e1 k5 : Int), γ 8 = .tuple #[.agg (tR T'), .agg (cA e0 e1), .int .i64 k5] ∧ SG key n 0 T L T.cursor.toNat T' e0 e1 k5 := hγ 8 rfl
     have g13 : γ 13 = undef := hγ 13 rfl
     have g15 : γ 15 = undef := hγ 15 rfl
     have HG := hid hgood
     clear hgood HGOOD
     apply Exists.intro
     refine ⟨fun D => ?_, ?_, ?_⟩
     ·simp only [hushL, cond_true, cond_false, Nat.reduceAdd, g3, g7, g8, g13, g15]
      iterate 17 (first
       | go_big_quiet_skip
       | (go_big_quiet_want
          go_big_quiet_op
          first
           | go_big_quiet_on
           | (apply Exists.intro
              refine ⟨fun u hu => ?_, ?_⟩
              ·first
                 | with_reducible rfl
                 | (obtain ⟨T1, L1, h1⟩ := hu.some9; obtain ⟨X0, Y0, X1, Y1, X2, Y2, -⟩ := h1.rd; go_simp; first | done | with_reducible rfl)
              go_big_quiet_on)))
      exact wpQuiet_nil rfl
     ·simp only [freeOk, Nat.reduceAdd]
      refine ⟨fun D u hD hd hu => ?_, fun D u hD hd hu => ?_, fun D u hD hd hu => ?_, fun D u hD hd hu => ?_, fun D u hD hd hu => ?_, trivial⟩
      ·have e := T9.bf (fun e => hu.1 e 3 (by simp)) hD
       have h := hu.asIs e
       exact steps_load h.t rfl rfl Tryz.underlying28 rfl (by kernel_rfl) ⟨rfl, hu.step e 3 (by decide) h⟩
      ·have e := T9.bf (fun e => hu.1 e 7 (by simp)) hD
       have h := hu.asIs e
       exact steps_loadE (h.r.cells HML.out).1 (h.r.cells HML.out).2 rfl rfl Tryz.underlying30 rfl (by kernel_rfl) ⟨rfl, hu.step e 7 (by decide) h⟩
      ·have d3 : D 3 = true := hd ⟨3, .data⟩ (by simp) rfl rfl
       have d7 : D 7 = true := hd ⟨7, .data⟩ (by simp) rfl rfl
       have h := hu.asIs hD
       exact steps_call ((scan9 HEW.out h KP.out HCU.out.symm HCL.out.1 HCL.out.2 (.inl rfl)).mono fun e w' ⟨v, he, hs, hb⟩ => ⟨v, he, hs, hu.call hD (by intro i hi; simp only [List.mem_cons, List.not_mem_nil, or_false] at hi; rcases hi with rfl | rfl <;> assumption) (by decide) (h.below hb)⟩) rfl rfl rfl rfl (by kernel_rfl)
      ·have dq : D 8 = true := hd ⟨8, .phase⟩ (by simp) rfl rfl
       obtain ⟨T1, L1, h1⟩ := hu.some9
       exact steps_store h1.t rfl rfl rfl (by kernel_rfl) rfl (by simp [Value.oneCell']) (fun w' hc hg => ⟨rfl, hu.put1 dq hD (by decide) g8 hg hc⟩)
      ·have ds : D 13 = true := by first | (refine hd ⟨13, .chain⟩ ?_ rfl rfl; simp; done) | (refine hd ⟨13, .phase⟩ ?_ rfl rfl; simp; done)
       have row := hu.rowL hD
       exact steps_storeE (row.cells HML.out).1 (row.cells HML.out).2 row.frozen rfl rfl rfl (by kernel_rfl) (by simp [Value.oneCell']) ⟨rfl, hu.put2 ds (by decide) g8 (row.set HML.out e0 e1).2 (row.set HML.out e0 e1).1⟩
     ·intro D uf hD hu
      have h9 := hid (hu.done (hD 13 (by simp) rfl) (hD 15 (by simp) rfl) g8)
      clear hu hD hγ g3 g7 g8 g13 g15 H9b
      obtain ⟨rfl, -, kp2, cl2, ep2, -⟩ | ⟨rfl, -, -, kp2, cl2, ep2, -⟩ | ⟨-, hbad, -, -⟩ := HG.out
      ·have KP2 := hid kp2
       have CE2 := hid (show T'.clock ≤ 5 + (k + 1 : Nat) ∧ T'.epoch ≤ (k + 1 : Nat) by have := HCE.out; omega)
       have EP2 := hid ep2
       clear kp2 cl2 ep2 HG
       go_wp2_with fail
       go_roundw
       case rel => exact ⟨k + 1, T', _, by rw [EP2.out], by go_num, by omega, CE2.out.1, CE2.out.2, KP2.out, h9.out⟩
       case measure => simp [intOf]; omega
      ·have KP2 := hid kp2
       have CE2 := hid (show T'.clock ≤ 5 + (k + 1 : Nat) ∧ T'.epoch ≤ (k + 1 : Nat) by have := HCE.out; omega)
       have EP2 := hid ep2
       have hwe : IntKind.i64.wrap (T.epoch + 1) = T.epoch + 1 := IntWalk.i64_in _ (by have := HCE.out; omega)
       clear kp2 cl2 ep2 HG
       go_wp2_with fail
       go_roundw
       case rel => exact ⟨k + 1, T', _, by rw [EP2.out], by go_num, by omega, CE2.out.1, CE2.out.2, KP2.out, h9.out⟩
       case measure => simp [intOf]; omega
      ·exact absurd rfl (hbad 0)
   ·skip
    have hlt' : ¬ (k : Int) < 60 := by omega
    have HK60 := hid (show k = 60 by omega)
    clear hlt
    obtain ⟨X0, Y0, X1, Y1, X2, Y2, -⟩ := H9.out.rd
    have hne : (T.epoch != T.epoch) = false := by simp
    go_wp2_with fail
    refine (trust9 H9.out KP.out).mono ?_; rintro e ux ⟨rfl, bx⟩
    clear X0 Y0 X1 Y1 X2 Y2
    have H9x := hid (H9.out.below bx)
    have HC2 := hid (show T.clock ≤ 65 ∧ T.epoch ≤ 60 by have := HCE.out; have := HK60.out; omega)
    have HC20 := hid cu0
    clear bx H9 hlt' hne HCE HK60 HCL HLEN cu0 cu1 cu2 cu3 hk
    go_wp2_with fail
    go_loopw [20] (fun i u => ∃ (k : Nat) (T : Tru) (L : List Ce), i = .int .i64 k ∧ k ≤ 5 ∧ (T.cursor ≠ 0 → (k : Int) + 1 ≤ T.cursor) ∧ T.clock ≤ 65 + k ∧ T.epoch ≤ 60 + k ∧ Kp key n 0 T L ∧ W9 w g qb pb gc tb A l cap key (n : Int) T L u) (fun i _ => 10 - (intOf i).toNat)
    case atStart => exact ⟨0, T, L, rfl, by omega, fun h => by have := HC20.out; omega, by have := HC2.out; omega, by have := HC2.out; omega, KP.out, H9x.out⟩
    case round =>
     clear H9x KP HC2 HC20 hep0
     obtain ⟨k, T, L, rfl, hk5, hcur, hcl, hep, hkp, h9⟩ := hrel
     have H9 := hid h9
     have KP := hid hkp
     have HCL := hid (show T.clock < 100000 ∧ T.epoch < 1000 by omega)
     have HCE := hid (show T.clock ≤ 65 + k ∧ T.epoch ≤ 60 + k from ⟨hcl, hep⟩)
     have HLEN := hid hkp.len
     obtain ⟨cu0, cu1, cu2, cu3⟩ := hkp.cursor
     clear hcl hep hkp h9
     by_cases hz : T.cursor = 0
     rotate_left
     ·skip
      have hcz := hcur hz
      have hzb : (T.cursor != 0) = true := by simpa using hz
      have hk9 : ¬ (9 : Int) < k := by omega
      have hk0 : (0 : Int) ≤ k := by omega
      have HCK := hid (show (k : Int) + 1 ≤ T.cursor ∧ k ≤ 4 by omega)
      clear hcz hcur hz hk5
      have HML := hid (show T.cursor.toNat < L.length by rw [HLEN.out]; exact cu2)
      have HCU := hid cu3
      clear cu3
      have HGOOD := hid (show ∃ T' e0 e1 k5, SG key n 0 T L T.cursor.toNat T' e0 e1 k5 from by obtain ⟨T', e0, e1, k5, -, hg⟩ := scan_good KP.out HCU.out.symm HCL.out.1 HCL.out.2 (.inl rfl); exact ⟨T', e0, e1, k5, hg⟩)
      obtain ⟨X0, Y0, X1, Y1, X2, Y2, -⟩ := H9.out.rd
      go_upto_region 34 with fail
      refine wp_region_free [false, false, false, true, false, false, false, true, true, false, false, false, false, true, false, true, false] (ShL [(3, fun v => v = .agg (tR T)), (7, fun v => v = .agg (cA ((L.getD T.cursor.toNat (0, 0)).1) ((L.getD T.cursor.toNat (0, 0)).2))), (8, fun v => ∃ (T' : Tru) (e0 e1 k5 : Int), v = .tuple #[.agg (tR T'), .agg (cA e0 e1), .int .i64 k5] ∧ SG key n 0 T L T.cursor.toNat T' e0 e1 k5)]) (fun D γ u => T9 w g qb pb gc tb A l cap key (n : Int) T L T.cursor.toNat [3, 7] 8 13 15 D γ u) (by kernel_rfl) (by kernel_rfl) (fun γ => by kernel_rfl) (fun D γ γ' w ha h => h.loc ha) (ShL.inh _ ?inh) (fun γ => T9.start H9.out.drew) (fun γ hγ => ?_)
      case inh =>
       intro y hy
       simp only [List.mem_cons, List.not_mem_nil, or_false] at hy
       rcases hy with rfl | rfl | rfl
       ·exact ⟨_, rfl⟩
       ·exact ⟨_, rfl⟩
       ·obtain ⟨T8, e8, e9, k8, hg8⟩ := HGOOD.out
        exact ⟨_, T8, e8, e9, k8, rfl, hg8⟩
      have g3 : γ 3 = .agg (tR T) := hγ 3 rfl
      have g7 : γ 7 = .agg (cA ((L.getD T.cursor.toNat (0, 0)).1) ((L.getD T.cursor.toNat (0, 0)).2)) := hγ 7 rfl
      obtain ⟨T', e0, e1, k5, g8, hgood⟩ : ∃ (T' : Tru) (e0 e1 k5 : Int), γ 8 = .tuple #[.agg (tR T'), .agg (cA e0 e1), .int .i64 k5] ∧ SG key n 0 T L T.cursor.toNat T' e0 e1 k5 := hγ 8 rfl
      have g13 : γ 13 = undef := hγ 13 rfl
      have g15 : γ 15 = undef := hγ 15 rfl
      have HG := hid hgood
      clear hgood HGOOD
      apply Exists.intro
      refine ⟨fun D => ?_, ?_, ?_⟩
      ·simp only [hushL, cond_true, cond_false, Nat.reduceAdd, g3, g7, g8, g13, g15]
       iterate 17 (first
        | go_big_quiet_skip
        | (go_big_quiet_want
           go_big_quiet_op
           first
            | go_big_quiet_on
            | (apply Exists.intro
               refine ⟨fun u hu => ?_, ?_⟩
               ·first
                  | with_reducible rfl
                  | (obtain ⟨T1, L1, h1⟩ := hu.some9; obtain ⟨X0, Y0, X1, Y1, X2, Y2, -⟩ := h1.rd; go_simp; first | done | with_reducible rfl)
               go_big_quiet_on)))
       exact wpQuiet_nil rfl
      ·simp only [freeOk, Nat.reduceAdd]
       refine ⟨fun D u hD hd hu => ?_, fun D u hD hd hu => ?_, fun D u hD hd hu => ?_, fun D u hD hd hu => ?_, fun D u hD hd hu => ?_, trivial⟩
       ·have e := T9.bf (fun e => hu.1 e 3 (by simp)) hD
        have h := hu.asIs e
        exact steps_load h.t rfl rfl Tryz.underlying28 rfl (by kernel_rfl) ⟨rfl, hu.step e 3 (by decide) h⟩
       ·have e := T9.bf (fun e => hu.1 e 7 (by simp)) hD
        have h := hu.asIs e
        exact steps_loadE (h.r.cells HML.out).1 (h.r.cells HML.out).2 rfl rfl Tryz.underlying30 rfl (by kernel_rfl) ⟨rfl, hu.step e 7 (by decide) h⟩
       ·have d3 : D 3 = true := hd ⟨3, .data⟩ (by simp) rfl rfl
        have d7 : D 7 = true := hd ⟨7, .data⟩ (by simp) rfl rfl
        have h := hu.asIs hD
        exact steps_call ((scan9 HEW.out h KP.out HCU.out.symm HCL.out.1 HCL.out.2 (.inl rfl)).mono fun e w' ⟨v, he, hs, hb⟩ => ⟨v, he, hs, hu.call hD (by intro i hi; simp only [List.mem_cons, List.not_mem_nil, or_false] at hi; rcases hi with rfl | rfl <;> assumption) (by decide) (h.below hb)⟩) rfl rfl rfl rfl (by kernel_rfl)
       ·have dq : D 8 = true := hd ⟨8, .phase⟩ (by simp) rfl rfl
        obtain ⟨T1, L1, h1⟩ := hu.some9
        exact steps_store h1.t rfl rfl rfl (by kernel_rfl) rfl (by simp [Value.oneCell']) (fun w' hc hg => ⟨rfl, hu.put1 dq hD (by decide) g8 hg hc⟩)
       ·have ds : D 13 = true := by first | (refine hd ⟨13, .chain⟩ ?_ rfl rfl; simp; done) | (refine hd ⟨13, .phase⟩ ?_ rfl rfl; simp; done)
        have row := hu.rowL hD
        exact steps_storeE (row.cells HML.out).1 (row.cells HML.out).2 row.frozen rfl rfl rfl (by kernel_rfl) (by simp [Value.oneCell']) ⟨rfl, hu.put2 ds (by decide) g8 (row.set HML.out e0 e1).2 (row.set HML.out e0 e1).1⟩
      ·intro D uf hD hu
       have h9 := hid (hu.done (hD 13 (by simp) rfl) (hD 15 (by simp) rfl) g8)
       clear hu hD hγ g3 g7 g8 g13 g15 H9
       obtain ⟨rfl, -, kp2, cl2, ep2, cr2⟩ | ⟨rfl, -, -, kp2, cl2, ep2, cr2⟩ | ⟨-, hbad, -, -⟩ := HG.out
       ·have KP2 := hid kp2
        have CE2 := hid (show T'.clock ≤ 65 + (k + 1 : Nat) ∧ T'.epoch ≤ 60 + (k + 1 : Nat) by have := HCE.out; omega)
        have CR2 := hid (show T'.cursor ≠ 0 → ((k + 1 : Nat) : Int) + 1 ≤ T'.cursor from fun h => by have := HCK.out; omega)
        clear kp2 cl2 ep2 cr2 HG
        go_wp2_with fail
        go_roundw
        case rel => exact ⟨k + 1, T', _, by go_num, by have := HCK.out; omega, CR2.out, CE2.out.1, CE2.out.2, KP2.out, h9.out⟩
        case measure => simp [intOf]; have := HCK.out; omega
       ·have KP2 := hid kp2
        have CE2 := hid (show T'.clock ≤ 65 + (k + 1 : Nat) ∧ T'.epoch ≤ 60 + (k + 1 : Nat) by have := HCE.out; omega)
        have CR2 := hid (show T'.cursor ≠ 0 → ((k + 1 : Nat) : Int) + 1 ≤ T'.cursor from fun h => by have := HCK.out; omega)
        clear kp2 cl2 ep2 cr2 HG
        go_wp2_with fail
        go_roundw
        case rel => exact ⟨k + 1, T', _, by go_num, by have := HCK.out; omega, CR2.out, CE2.out.1, CE2.out.2, KP2.out, h9.out⟩
        case measure => simp [intOf]; have := HCK.out; omega
       ·exact absurd rfl (hbad 0)
     ·skip
      have HZ0 := hid hz
      have hzb : (T.cursor != 0) = false := by simp [hz]
      have HC3 := hid (show T.clock ≤ 70 ∧ T.epoch ≤ 65 by have := HCE.out; omega)
      clear hz hcur hk5 HCE HCL cu0 cu1 cu2 cu3
      obtain ⟨X0, Y0, X1, Y1, X2, Y2, -⟩ := H9.out.rd
      go_wp2_with fail
      refine (throw_calls g A l cap n _ HNM.out H9.out.d H8.out (by omega)).mono ?_; rintro e ua ⟨m0, rfl, ⟨m00, m01⟩, g_, d_⟩
      have H9a := hid (H9.out.thrown g_ d_)
      clear H9 g_ d_ hzb
      clear X0 Y0 X1 Y1 X2 Y2
      obtain ⟨m, rfl⟩ : ∃ m : Nat, m0 = m := ⟨m0.toNat, by omega⟩
      have hmn : m < n := by omega
      have hmz : (m : Int) < n := by omega
      have hmz0 : (0 : Int) ≤ m := by omega
      clear m00 m01
      have HML := hid (show m < L.length by rw [HLEN.out]; exact hmn)
      have hvb := (KP.out.cl m hmn).1.2
      unfold isVal at hvb
      obtain ⟨v1, hv1⟩ : ∃ v1, v1 = (L.getD m (0, 0)).2 := ⟨_, rfl⟩
      rw [← hv1] at hvb
      have HV1 := hid hv1
      clear hv1
      obtain ⟨hv0, hv2⟩ := hvb
      have c1 : ua.cell? ⟨gc, m * 2 + 1, none⟩ = some (.int .i64 v1) := by rw [HV1.out]; exact (H9a.out.r.cells HML.out).2
      have hw1 : IntKind.i64.wrap (v1 + 1) = v1 + 1 := IntWalk.i64_in _ (by omega)
      go_upto_region 36 with fail
      go_region_with (go_at_call 18; refine (throw_calls g A l cap 10006 _ HNM.out (H9a.out.drew).d H8.out (by omega)).mono ?_; rintro e ux ⟨x, rfl, ⟨x0, x1⟩, gx, dx⟩; have HX := hid ((H9a.out.drew).thrown gx dx); have cx : ux.cell? ⟨gc, m * 2 + 1, none⟩ = some (.int .i64 v1) := (by rw [HV1.out]; exact (HX.out.r.cells HML.out).2); have fx : ∀ i, ux.frozen? ⟨gc, i, none⟩ = false := HX.out.r.frozen; have hw2 : IntKind.i64.wrap (v1 + 1 + x) = v1 + 1 + x := IntWalk.i64_in _ (by omega); clear gx dx)
      all_goals
       have hy : (v1 + 1 + x).tmod 10007 = (v1 + (1 + x)) % 10007 := by rw [Int.tmod_eq_emod_of_nonneg (by omega)]; congr 1; omega
       generalize (v1 + 1 + x).tmod 10007 = y at hy ⊢
       have h5 := HX.out.row (gb_set (gb_refl ux (some gc)) (m * 2 + 1) (.int .i64 y)) (HX.out.r.set1 HML.out y)
       obtain ⟨d, hd, kp⟩ := KP.out.bend HZ0.out hmn (x := 1 + x) (by omega) (by omega)
       rw [← HV1.out, ← hy] at kp
       generalize L.set m ((L.getD m (0, 0)).1, y) = L7 at h5 kp
       generalize World.setCell ux _ _ = u7 at h5 ⊢
       have H7 := hid h5
       have KP7 := hid kp
       have HD := hid hd
       clear h5 kp hd hy hw2 fx cx HX x0 x1 hw1 c1 H9a HV1 HML hv0 hv2 KP HLEN
       go_simp
       go_wp2_with fail
       go_loopw [9, 23] (fun k9 i u => ∃ (j : Nat) (T : Tru) (L : List Ce), i = .int .i64 j ∧ W9 w g qb pb gc tb A l cap key (n : Int) T L u ∧ ((j < n ∧ T.cursor = j ∧ T.clock ≤ 70 + j ∧ T.epoch ≤ 65 ∧ Kp key n d T L) ∨ (j = n ∧ k9 = .int .i64 4 ∧ T.failed = true))) (fun _ i _ => n - (intOf i).toNat)
       case atStart => exact ⟨0, T, L7, rfl, H7.out, .inl ⟨by omega, HZ0.out, by have := HC3.out; omega, HC3.out.2, KP7.out⟩⟩
       case round =>
        clear H7 KP7 HC3 HZ0 hmn hmz hmz0
        obtain ⟨j, T, L, rfl, h9, hw⟩ := hrel
        have H9 := hid h9
        clear h9
        obtain ⟨hjn, hcj, hcl, hep, hkp⟩ | ⟨rfl, rfl, hf⟩ := hw
        ·skip
         have hjz : (j : Int) < n := by omega
         have hj0 : (0 : Int) ≤ j := by omega
         have KP := hid hkp
         have HCL := hid (show T.clock < 100000 ∧ T.epoch < 1000 by omega)
         have HCE := hid (show T.clock ≤ 70 + j ∧ T.epoch ≤ 65 from ⟨hcl, hep⟩)
         have HCU := hid hcj
         have HML := hid (show j < L.length by rw [hkp.len]; exact hjn)
         have HJN := hid hjn
         clear hcl hep hkp hcj hjn
         have HGOOD := hid (show ∃ T' e0 e1 k5, SG key n d T L j T' e0 e1 k5 from by obtain ⟨T', e0, e1, k5, -, hg⟩ := scan_good KP.out HCU.out HCL.out.1 HCL.out.2 (.inr HD.out); exact ⟨T', e0, e1, k5, hg⟩)
         obtain ⟨X0, Y0, X1, Y1, X2, Y2, -⟩ := H9.out.rd
         go_upto_region 40 with fail
         refine wp_region_free [false, false, false, true, false, false, false, true, true, false, false, false, false, true, false, true, false] (ShL [(3, fun v => v = .agg (tR T)), (7, fun v => v = .agg (cA ((L.getD j (0, 0)).1) ((L.getD j (0, 0)).2))), (8, fun v => ∃ (T' : Tru) (e0 e1 k5 : Int), v = .tuple #[.agg (tR T'), .agg (cA e0 e1), .int .i64 k5] ∧ SG key n d T L j T' e0 e1 k5)]) (fun D γ u => T9 w g qb pb gc tb A l cap key (n : Int) T L j [3, 7] 8 13 15 D γ u) (by kernel_rfl) (by kernel_rfl) (fun γ => by kernel_rfl) (fun D γ γ' w ha h => h.loc ha) (ShL.inh _ ?inh) (fun γ => T9.start H9.out.drew) (fun γ hγ => ?_)
         case inh =>
          intro y hy
          simp only [List.mem_cons, List.not_mem_nil, or_false] at hy
          rcases hy with rfl | rfl | rfl
          ·exact ⟨_, rfl⟩
          ·exact ⟨_, rfl⟩
          ·obtain ⟨T8, e8, e9, k8, hg8⟩ := HGOOD.out
           exact ⟨_, T8, e8, e9, k8, rfl, hg8⟩
         have g3 : γ 3 = .agg (tR T) := hγ 3 rfl
         have g7 : γ 7 = .agg (cA ((L.getD j (0, 0)).1) ((L.getD j (0, 0)).2)) := hγ 7 rfl
         obtain ⟨T', e0, e1, k5, g8, hgood⟩ : ∃ (T' : Tru) (e0 e1 k5 : Int), γ 8 = .tuple #[.agg (tR T'), .agg (cA e0 e1), .int .i64 k5] ∧ SG key n d T L j T' e0 e1 k5 := hγ 8 rfl
         have g13 : γ 13 = undef := hγ 13 rfl
         have g15 : γ 15 = undef := hγ 15 rfl
         have HG := hid hgood
         clear hgood HGOOD
         apply Exists.intro
         refine ⟨fun D => ?_, ?_, ?_⟩
         ·simp only [hushL, cond_true, cond_false, Nat.reduceAdd, g3, g7, g8, g13, g15]
          iterate 17 (first
           | go_big_quiet_skip
           | (go_big_quiet_want
              go_big_quiet_op
              first
               | go_big_quiet_on
               | (apply Exists.intro
                  refine ⟨fun u hu => ?_, ?_⟩
                  ·first
                     | with_reducible rfl
                     | (obtain ⟨T1, L1, h1⟩ := hu.some9; obtain ⟨X0, Y0, X1, Y1, X2, Y2, -⟩ := h1.rd; go_simp; first | done | with_reducible rfl)
                  go_big_quiet_on)))
          exact wpQuiet_nil rfl
         ·simp only [freeOk, Nat.reduceAdd]
          refine ⟨fun D u hD hd hu => ?_, fun D u hD hd hu => ?_, fun D u hD hd hu => ?_, fun D u hD hd hu => ?_, fun D u hD hd hu => ?_, trivial⟩
          ·have e := T9.bf (fun e => hu.1 e 3 (by simp)) hD
           have h := hu.asIs e
           exact steps_load h.t rfl rfl Tryz.underlying28 rfl (by kernel_rfl) ⟨rfl, hu.step e 3 (by decide) h⟩
          ·have e := T9.bf (fun e => hu.1 e 7 (by simp)) hD
           have h := hu.asIs e
           exact steps_loadE (h.r.cells HML.out).1 (h.r.cells HML.out).2 rfl rfl Tryz.underlying30 rfl (by kernel_rfl) ⟨rfl, hu.step e 7 (by decide) h⟩
          ·have d3 : D 3 = true := hd ⟨3, .data⟩ (by simp) rfl rfl
           have d7 : D 7 = true := hd ⟨7, .data⟩ (by simp) rfl rfl
           have h := hu.asIs hD
           exact steps_call ((scan9 HEW.out h KP.out HCU.out HCL.out.1 HCL.out.2 (.inr HD.out)).mono fun e w' ⟨v, he, hs, hb⟩ => ⟨v, he, hs, hu.call hD (by intro i hi; simp only [List.mem_cons, List.not_mem_nil, or_false] at hi; rcases hi with rfl | rfl <;> assumption) (by decide) (h.below hb)⟩) rfl rfl rfl rfl (by kernel_rfl)
          ·have dq : D 8 = true := hd ⟨8, .phase⟩ (by simp) rfl rfl
           obtain ⟨T1, L1, h1⟩ := hu.some9
           exact steps_store h1.t rfl rfl rfl (by kernel_rfl) rfl (by simp [Value.oneCell']) (fun w' hc hg => ⟨rfl, hu.put1 dq hD (by decide) g8 hg hc⟩)
          ·have ds : D 13 = true := by first | (refine hd ⟨13, .chain⟩ ?_ rfl rfl; simp; done) | (refine hd ⟨13, .phase⟩ ?_ rfl rfl; simp; done)
           have row := hu.rowL hD
           exact steps_storeE (row.cells HML.out).1 (row.cells HML.out).2 row.frozen rfl rfl rfl (by kernel_rfl) (by simp [Value.oneCell']) ⟨rfl, hu.put2 ds (by decide) g8 (row.set HML.out e0 e1).2 (row.set HML.out e0 e1).1⟩
         ·intro D uf hD hu
          have h9 := hid (hu.done (hD 13 (by simp) rfl) (hD 15 (by simp) rfl) g8)
          clear hu hD hγ g3 g7 g8 g13 g15 H9
          obtain ⟨rfl, hlt, kp2, cl2, ep2, cr2⟩ | ⟨-, h0, -, -, -, -, -⟩ | ⟨rfl, -, hlt, hf⟩ := HG.out
          ·have HW := hid (show j + 1 < n ∧ T'.cursor = ((j + 1 : Nat) : Int) ∧ T'.clock ≤ 70 + ((j + 1 : Nat) : Int) ∧ T'.epoch ≤ 65 ∧ Kp key n d T' (L.set j (e0, e1)) from ⟨by have := HCU.out; omega, by have := HCU.out; omega, by have := HCE.out; omega, by have := HCE.out; omega, kp2⟩)
           clear kp2 cl2 ep2 cr2 hlt HG
           go_wp2_with fail
           go_roundw
           case rel => exact ⟨j + 1, T', _, by go_num, h9.out, .inl HW.out⟩
           case measure => simp [intOf]; have := HJN.out; omega
          ·exact absurd h0 (by have := HD.out 0; simpa using this)
          ·have HW := hid (show j + 1 = n ∧ T'.failed = true from ⟨by have := HCU.out; have := HJN.out; omega, hf⟩)
           clear hf hlt HG
           go_wp2_with fail
           go_roundw
           case rel => exact ⟨j + 1, T', _, by go_num, h9.out, .inr ⟨HW.out.1, rfl, HW.out.2⟩⟩
           case measure => simp [intOf]; have := HJN.out; omega
        ·skip
         obtain ⟨X0, Y0, X1, Y1, X2, Y2, -⟩ := H9.out.rd
         clear X2
         have kq : wr.cell? ⟨tb, 7, none⟩ = some (.bool true) := by rw [← hf]; exact H9.out.t.cell 7
         go_wp2_with fail
         go_ret
         exact ⟨rfl, H9.out.b⟩
end Go.Proofs.YteopplldbcgjjaaGreatDoor.Mx

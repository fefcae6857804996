import Derived.Test.YtjbnknccnhdapaaGreatG35
import Derived.Test.YtjbnknccnhdapaaGreatG03
import Derived.Test.YtjbnknccnhdapaaGreatG05
import Derived.OpenShut
import Derived.ShutString
import Derived.ChangeOld
namespace Go.Proofs.YtjbnknccnhdapaaGreat.Mx
open Go.ChangeShapes Go.WideShapes Go.ChangeAt Go.RowKit
set_option linter.unusedVariables false
set_option maxRecDepth 20000 in
set_option maxHeartbeats 16000000 in
theorem slotsLaw_calls (A : Option Addr) (l : List Int) (cap : Nat) (w : World) (hn : l.length ≤ maxLen) (hA : Ints w .u8 w.heap.size A l) (h8 : ∀ i, i < l.length → 0 ≤ l.getD i 0 ∧ l.getD i 0 ≤ 255) :
    Calls Tryz.prog 3 #[.slice A l.length cap] w fun e w' => e = .returned (.bool true) ∧ Below w.heap.size w w' := by
 by_cases hs : 4096 < l.length
 ·go_enter Tryz.func3, Tryz.ntmps3
  go_wp2_with fail
  refine (big_yes A l.length cap w hs).mono ?_; rintro e w' ⟨rfl, rfl⟩
  go_wp2_with fail
  go_ret
  exact ⟨rfl, Below.refl _ _⟩
 ·have hs' : l.length ≤ 4096 := by omega
  have HN := Lib.hid hs'
  have HNM := Lib.hid hn
  have HA := Lib.hid hA
  have H8 := Lib.hid h8
  clear hs hn hA h8
  go_enter Tryz.func3, Tryz.ntmps3
  go_wp2_with fail
  refine (big_no A l.length cap w hs').mono ?_; rintro e w' ⟨rfl, rfl⟩
  clear hs'
  go_wp2_with fail
  refine (drawSlotOk_calls A l cap w HN.out HA.out).mono ?_; rintro e w1 ⟨k1, A1, z1, c1, x1, B1, L1, t1, m1, C1, M1, q1, rfl, i1, l1, n1, j1, o1, p1, h1, u1, v1, b1⟩
  have K0 := Lib.hid ((Kept.refl w).below b1)
  have lw0 := b1.size
  have J0 := Lib.hid ((HA.out.below b1 (Nat.le_refl _)).more b1.size)
  have M0 := Lib.hid h1
  have N0 := Lib.hid u1
  have O0 := Lib.hid v1
  clear h1 u1 v1 b1 HA
  have SI := Lib.hid (fun u hI hT hC => implSlotOk_calls k1 A1 z1 c1 n1 x1 B1 L1 t1 m1 C1 M1 q1 u (by omega) hI (by omega) hT j1 i1 (by omega) hC)
  have SP := Lib.hid (fun u hI hT hC => specSlotOk_calls k1 A1 z1 c1 x1 B1 L1 t1 m1 C1 M1 q1 u (by unfold maxLen; omega) hI (by omega) hT j1 i1 (by omega) hC)
  generalize slotB k1 z1 x1 L1 m1 M1 = zb at SI SP
  have hzb : (zb != zb) = false := by simp
  clear i1 j1
  have K1 := Lib.hid (K0.out.put1 w1.heap.size 26 #[.int .i64 k1, .slice A1 z1.length c1] (rfl))
  have I2 := Lib.hid ((J0.out.below (box_below w1 (.cells #[.int .i64 k1, .slice A1 z1.length c1] 26)) (Nat.le_refl _)).more ((box_below w1 (.cells #[.int .i64 k1, .slice A1 z1.length c1] 26))).size)
  have I3 := Lib.hid ((M0.out.below (box_below w1 (.cells #[.int .i64 k1, .slice A1 z1.length c1] 26)) (Nat.le_refl _)).more ((box_below w1 (.cells #[.int .i64 k1, .slice A1 z1.length c1] 26))).size)
  have T4 := Lib.hid (Sls.grow N0.out (box_below w1 (.cells #[.int .i64 k1, .slice A1 z1.length c1] 26)))
  have T5 := Lib.hid (Sls.grow O0.out (box_below w1 (.cells #[.int .i64 k1, .slice A1 z1.length c1] 26)))
  clear K0 J0 M0 N0 O0
  have K6 := Lib.hid (K1.out.put1 (w1.heap.size + 1) 32 #[.int .i64 x1, .slice B1 L1.length t1, .int .i64 m1, .slice C1 M1.length q1] (by simp))
  have I7 := Lib.hid ((I2.out.below (box_below (w1.alloc (.cells #[.int .i64 k1, .slice A1 z1.length c1] 26)) (.cells #[.int .i64 x1, .slice B1 L1.length t1, .int .i64 m1, .slice C1 M1.length q1] 32)) (Nat.le_refl _)).more ((box_below (w1.alloc (.cells #[.int .i64 k1, .slice A1 z1.length c1] 26)) (.cells #[.int .i64 x1, .slice B1 L1.length t1, .int .i64 m1, .slice C1 M1.length q1] 32))).size)
  have I8 := Lib.hid ((I3.out.below (box_below (w1.alloc (.cells #[.int .i64 k1, .slice A1 z1.length c1] 26)) (.cells #[.int .i64 x1, .slice B1 L1.length t1, .int .i64 m1, .slice C1 M1.length q1] 32)) (Nat.le_refl _)).more ((box_below (w1.alloc (.cells #[.int .i64 k1, .slice A1 z1.length c1] 26)) (.cells #[.int .i64 x1, .slice B1 L1.length t1, .int .i64 m1, .slice C1 M1.length q1] 32))).size)
  have T9 := Lib.hid (Sls.grow T4.out (box_below (w1.alloc (.cells #[.int .i64 k1, .slice A1 z1.length c1] 26)) (.cells #[.int .i64 x1, .slice B1 L1.length t1, .int .i64 m1, .slice C1 M1.length q1] 32)))
  have T10 := Lib.hid (Sls.grow T5.out (box_below (w1.alloc (.cells #[.int .i64 k1, .slice A1 z1.length c1] 26)) (.cells #[.int .i64 x1, .slice B1 L1.length t1, .int .i64 m1, .slice C1 M1.length q1] 32)))
  clear K1 I2 I3 T4 T5
  have l0 : w1.heap.size + 1 < ((w1.alloc (.cells #[.int .i64 k1, .slice A1 z1.length c1] 26)).alloc (.cells #[.int .i64 x1, .slice B1 L1.length t1, .int .i64 m1, .slice C1 M1.length q1] 32)).heap.size := by simp
  go_upto_region 4 with fail
  generalize World.alloc (World.alloc w1 _) _ = v1 at K6 I7 I8 T9 T10 l0 ⊢
  go_wp2_with fail
  refine (drawChosen_calls A l cap _ HN.out I7.out).mono ?_; rintro e wa ⟨k2, A2, z2, c2, D2, S2, cp2, n2, rfl, i2, l2, m2, s2, t2, f2, h2, u2, ba⟩
  have K11 := Lib.hid (K6.out.below (ba))
  have I12 := Lib.hid ((I7.out.below ba (Nat.le_refl _)).more (ba).size)
  have I13 := Lib.hid ((I8.out.below ba (Nat.le_refl _)).more (ba).size)
  have T14 := Lib.hid (Sls.grow T9.out ba)
  have T15 := Lib.hid (Sls.grow T10.out ba)
  clear K6 I7 I8 T9 T10
  have lba := ba.size
  have I16 := Lib.hid (h2)
  have X17 := Lib.hid (u2)
  have CI := Lib.hid (fun u hI hX => implChosen_calls k2 A2 D2 z2 c2 m2 S2 cp2 t2 n2 u (by omega) hI (by omega) hX f2)
  have CP := Lib.hid (fun u hI hX => specChosen_calls k2 A2 D2 z2 c2 S2 cp2 n2 u (by unfold maxLen; omega) hI (by omega) hX f2)
  have FF := Lib.hid f2
  have HCC := Lib.hid (chosenOf_case k2 z2 S2 n2)
  generalize chosenOf k2 z2 S2 n2 = iv at CI CP HCC
  have hiv : (iv != iv) = false := by simp
  clear h2 u2 ba i2 f2
  have K18 := Lib.hid (K11.out.put1 wa.heap.size 26 #[.int .i64 k2, .slice A2 z2.length c2] (rfl))
  have I19 := Lib.hid ((I12.out.below (box_below wa (.cells #[.int .i64 k2, .slice A2 z2.length c2] 26)) (Nat.le_refl _)).more ((box_below wa (.cells #[.int .i64 k2, .slice A2 z2.length c2] 26))).size)
  have I20 := Lib.hid ((I13.out.below (box_below wa (.cells #[.int .i64 k2, .slice A2 z2.length c2] 26)) (Nat.le_refl _)).more ((box_below wa (.cells #[.int .i64 k2, .slice A2 z2.length c2] 26))).size)
  have T21 := Lib.hid (Sls.grow T14.out (box_below wa (.cells #[.int .i64 k2, .slice A2 z2.length c2] 26)))
  have T22 := Lib.hid (Sls.grow T15.out (box_below wa (.cells #[.int .i64 k2, .slice A2 z2.length c2] 26)))
  have I23 := Lib.hid ((I16.out.below (box_below wa (.cells #[.int .i64 k2, .slice A2 z2.length c2] 26)) (Nat.le_refl _)).more ((box_below wa (.cells #[.int .i64 k2, .slice A2 z2.length c2] 26))).size)
  have X24 := Lib.hid (Slots.grow X17.out (box_below wa (.cells #[.int .i64 k2, .slice A2 z2.length c2] 26)))
  clear K11 I12 I13 T14 T15 I16 X17
  have la : wa.heap.size < (wa.alloc (.cells #[.int .i64 k2, .slice A2 z2.length c2] 26)).heap.size := by simp
  go_upto_region 5 with fail
  generalize World.alloc wa _ = v2 at K18 I19 I20 T21 T22 I23 X24 la ⊢
  obtain ⟨kc0, kf0, kc1, kf1, kc2, kf2, -⟩ := K18.out.rd
  go_wp2_with fail
  refine (CI.out _ I23.out X24.out).mono ?_; rintro e wb ⟨rfl, bb⟩
  clear kc0 kf0 kc1 kf1 kc2 kf2
  have lb := bb.size
  have K25 := Lib.hid (K18.out.below (bb))
  have I26 := Lib.hid ((I19.out.below bb (Nat.le_refl _)).more (bb).size)
  have I27 := Lib.hid ((I20.out.below bb (Nat.le_refl _)).more (bb).size)
  have T28 := Lib.hid (Sls.grow T21.out bb)
  have T29 := Lib.hid (Sls.grow T22.out bb)
  have I30 := Lib.hid ((I23.out.below bb (Nat.le_refl _)).more (bb).size)
  have X31 := Lib.hid (Slots.grow X24.out bb)
  clear K18 I19 I20 T21 T22 I23 X24
  clear bb CI
  obtain ⟨kc0, kf0, kc1, kf1, kc2, kf2, -⟩ := K25.out.rd
  go_upto_region 6 with fail
  clear kc0 kf0 kc1 kf1 kc2 kf2
  refine wp_region_class (C := fun u => KV w [(wa.heap.size, 26, #[.int .i64 k2, .slice A2 z2.length c2]), (w1.heap.size + 1, 32, #[.int .i64 x1, .slice B1 L1.length t1, .int .i64 m1, .slice C1 M1.length q1]), (w1.heap.size, 26, #[.int .i64 k1, .slice A1 z1.length c1])] wb u) (by kernel_rfl) (by kernel_rfl) (KV.start K25.out) ?_
  iterate 15 (first
   | go_big_quiet_skip
   | (go_big_quiet_want
      go_big_quiet_op
      first
       | go_big_quiet_on
       | (apply Exists.intro
          refine ⟨fun u hu => ?_, ?_⟩
          ·first
             | with_reducible rfl
             | (go_at_call 8; exact (SI.out u ((I27.out.below hu.2 (Nat.le_refl _)).more hu.2.size) (Sls.grow T28.out hu.2) (Sls.grow T29.out hu.2)).mono fun e w' h => ⟨h.1, hu.step h.2⟩)
             | (go_at_call 9; exact (SP.out u ((I27.out.below hu.2 (Nat.le_refl _)).more hu.2.size) (Sls.grow T28.out hu.2) (Sls.grow T29.out hu.2)).mono fun e w' h => ⟨h.1, hu.step h.2⟩)
             | (go_at_call 10; exact (CP.out u ((I30.out.below hu.2 (Nat.le_refl _)).more hu.2.size) (Slots.grow X31.out hu.2)).mono fun e w' h => ⟨h.1, hu.step h.2⟩)
             | (obtain ⟨kc0, kf0, kc1, kf1, kc2, kf2, -⟩ := hu.1.rd; go_simp; first | done | with_reducible rfl)
          go_big_quiet_on)))
  refine wpQuiet_nil ?_
  intro uq hq
  have hbq := hq.2
  have hkq := hq.1
  clear hq
  have K32 := Lib.hid (hkq)
  have I33 := Lib.hid ((I26.out.below hbq (Nat.le_refl _)).more (hbq).size)
  have I34 := Lib.hid ((I27.out.below hbq (Nat.le_refl _)).more (hbq).size)
  have T35 := Lib.hid (Sls.grow T28.out hbq)
  have T36 := Lib.hid (Sls.grow T29.out hbq)
  have I37 := Lib.hid ((I30.out.below hbq (Nat.le_refl _)).more (hbq).size)
  have X38 := Lib.hid (Slots.grow X31.out hbq)
  clear K25 I26 I27 T28 T29 I30 X31
  clear hbq hkq SI SP CP hzb hiv
  go_wp2_with fail
  refine (roll_calls A l cap 10 _ HNM.out I33.out).mono ?_; rintro e u0 ⟨rfl, bd, hdice⟩
  have hgw : w.heap.size ≤ uq.heap.size := K32.out.1.size
  have KD0 := Lib.hid (KD.start hdice)
  have BG0 := Lib.hid bd
  clear hdice bd
  generalize hgu : uq.heap.size = g at KD0 hgw ⊢
  have HGU := Lib.hid hgu
  clear hgu
  go_wp2_with fail
  refine (scheme_calls g A l cap _ HNM.out KD0.out.2.1 H8.out).mono ?_; rintro e u1 ⟨kg, vv, zg, rfl, hpg, hrow, hd, hg⟩
  obtain ⟨Q, c, rfl, -, hcQ⟩ := IRow.form hrow.1
  have hg0 : g < u0.heap.size := KD0.out.2.2.1
  have KD1 := Lib.hid (KD0.out.throw hd hg)
  have BG1 := Lib.hid (bgb BG0.out hg BG0.out.size (by rw [HGU.out]; exact Nat.le_refl _))
  have RQ1 := Lib.hid (RowB.of hrow)
  have l01 := hg.size
  clear hd hg hrow KD0 BG0
  have K39 := Lib.hid (KD1.out.put1 u1.heap.size 26 #[.int .i64 kg, .slice Q zg.length c] (rfl))
  have B40 := Lib.hid (BG1.out.trans (((box_below u1 (.cells #[.int .i64 kg, .slice Q zg.length c] 26))).mono BG1.out.size))
  have P41 := Lib.hid (RQ1.out.below ((box_below u1 (.cells #[.int .i64 kg, .slice Q zg.length c] 26))))
  clear KD1 BG1 RQ1
  have lu1 : u1.heap.size < (u1.alloc (.cells #[.int .i64 kg, .slice Q zg.length c] 26)).heap.size := by simp
  go_upto_region 10 with fail
  generalize World.alloc u1 _ = v5 at K39 B40 P41 lu1 ⊢
  obtain ⟨kc0, kf0, -⟩ := K39.out.rd
  have h4 := hpg.2.1.2
  have FM := formatted_calls kg Q zg c v5 hcQ (rowb_ints P41.out) hpg
  unfold formatVol at FM
  rw [sealN_yes (newTrus_ok hpg) (by omega) (by omega)] at FM
  have HT := Lib.hid (newTrus_ok hpg)
  have HM := Lib.hid (newCels_ok hpg)
  have HTI := Lib.hid (newTrus_i64 (key := kg) hpg.2.2.1)
  have hmc := (cellsOk.len hpg HM.out).2
  have ht4 : (newTrus kg zg zg.length).length ≤ 4 := by have := HT.out.2.1; omega
  generalize newTrus kg zg zg.length = T at FM HT HTI ht4
  generalize newCels kg zg zg.length = M at FM HM hmc
  have HFM := Lib.hid FM
  clear FM hpg
  go_wp2_with fail
  refine HFM.out.mono ?_; rintro e u2 ⟨vv, rfl, hv, bv⟩
  clear kc0 kf0
  obtain ⟨A3, c3, B3, d3, C3, e3, gs, A5, c5, C5, d5, A4, c4, C4, d4, rfl, -, hT3, hC3, hgs, hcs, -, -, hT4, hC4, -⟩ := hv
  simp only [] at hT3 hC3 hcs hT4 hC4
  try simp only [vX]
  have K42 := Lib.hid (K39.out.below (bv))
  have B43 := Lib.hid (B40.out.trans ((bv).mono B40.out.size))
  have P44 := Lib.hid (P41.out.below (bv))
  clear K39 B40 P41
  have l12 := bv.size
  clear bv HFM
  have R45 := Lib.hid (hT3)
  have R46 := Lib.hid (hC3)
  have R47 := Lib.hid (hT4)
  have R48 := Lib.hid (hC4)
  have C49 := Lib.hid (hcs)
  have hgl : gs < u2.heap.size := hcs.lt
  clear hT3 hC3 hT4 hC4 hcs
  have K50 := Lib.hid (K42.out.put1 u2.heap.size 45 #[.int .i64 kg, .slice A3 zg.length c3, .slice B3 T.length d3, .slice C3 M.length e3, .slice (some ⟨gs, 0, none⟩) 2 2, .int .i64 1] (rfl))
  have B51 := Lib.hid (B43.out.trans (((box_below u2 (.cells #[.int .i64 kg, .slice A3 zg.length c3, .slice B3 T.length d3, .slice C3 M.length e3, .slice (some ⟨gs, 0, none⟩) 2 2, .int .i64 1] 45))).mono B43.out.size))
  have P52 := Lib.hid (P44.out.below ((box_below u2 (.cells #[.int .i64 kg, .slice A3 zg.length c3, .slice B3 T.length d3, .slice C3 M.length e3, .slice (some ⟨gs, 0, none⟩) 2 2, .int .i64 1] 45))))
  have R53 := Lib.hid (SRow.below R45.out (box_below u2 (.cells #[.int .i64 kg, .slice A3 zg.length c3, .slice B3 T.length d3, .slice C3 M.length e3, .slice (some ⟨gs, 0, none⟩) 2 2, .int .i64 1] 45)))
  have R54 := Lib.hid (SRow.below R46.out (box_below u2 (.cells #[.int .i64 kg, .slice A3 zg.length c3, .slice B3 T.length d3, .slice C3 M.length e3, .slice (some ⟨gs, 0, none⟩) 2 2, .int .i64 1] 45)))
  have R55 := Lib.hid (SRow.below R47.out (box_below u2 (.cells #[.int .i64 kg, .slice A3 zg.length c3, .slice B3 T.length d3, .slice C3 M.length e3, .slice (some ⟨gs, 0, none⟩) 2 2, .int .i64 1] 45)))
  have R56 := Lib.hid (SRow.below R48.out (box_below u2 (.cells #[.int .i64 kg, .slice A3 zg.length c3, .slice B3 T.length d3, .slice C3 M.length e3, .slice (some ⟨gs, 0, none⟩) 2 2, .int .i64 1] 45)))
  have C57 := Lib.hid (C49.out.below (box_below u2 (.cells #[.int .i64 kg, .slice A3 zg.length c3, .slice B3 T.length d3, .slice C3 M.length e3, .slice (some ⟨gs, 0, none⟩) 2 2, .int .i64 1] 45)) C49.out.lt)
  clear K42 B43 P44 R45 R46 R47 R48 C49
  have lu2 : u2.heap.size < (u2.alloc (.cells #[.int .i64 kg, .slice A3 zg.length c3, .slice B3 T.length d3, .slice C3 M.length e3, .slice (some ⟨gs, 0, none⟩) 2 2, .int .i64 1] 45)).heap.size := by simp
  go_upto_region 11 with fail
  generalize World.alloc u2 _ = v6 at K50 B51 P52 R53 R54 R55 R56 C57 lu2 ⊢
  obtain ⟨kc0, kf0, kc1, kf1, -⟩ := K50.out.rd
  have s0 : v6.cell? ⟨gs, 4, none⟩ = some (.int .i64 1) := C57.out.cell 4
  have s1 : v6.cell? ⟨gs, 5, none⟩ = some (.slice A4 T.length c4) := C57.out.cell 5
  have s2 : v6.cell? ⟨gs, 6, none⟩ = some (.int .i64 (macOf kg zg 1 T)) := C57.out.cell 6
  have s3 : v6.cell? ⟨gs, 7, none⟩ = some (.slice C4 M.length d4) := C57.out.cell 7
  have K58 := Lib.hid (K50.out.put1 v6.heap.size 32 #[.int .i64 1, .slice A4 T.length c4, .int .i64 (macOf kg zg 1 T), .slice C4 M.length d4] (rfl))
  have B59 := Lib.hid (B51.out.trans (((box_below v6 (.cells #[.int .i64 1, .slice A4 T.length c4, .int .i64 (macOf kg zg 1 T), .slice C4 M.length d4] 32))).mono B51.out.size))
  have P60 := Lib.hid (P52.out.below ((box_below v6 (.cells #[.int .i64 1, .slice A4 T.length c4, .int .i64 (macOf kg zg 1 T), .slice C4 M.length d4] 32))))
  have R61 := Lib.hid (SRow.below R53.out (box_below v6 (.cells #[.int .i64 1, .slice A4 T.length c4, .int .i64 (macOf kg zg 1 T), .slice C4 M.length d4] 32)))
  have R62 := Lib.hid (SRow.below R54.out (box_below v6 (.cells #[.int .i64 1, .slice A4 T.length c4, .int .i64 (macOf kg zg 1 T), .slice C4 M.length d4] 32)))
  have R63 := Lib.hid (SRow.below R55.out (box_below v6 (.cells #[.int .i64 1, .slice A4 T.length c4, .int .i64 (macOf kg zg 1 T), .slice C4 M.length d4] 32)))
  have R64 := Lib.hid (SRow.below R56.out (box_below v6 (.cells #[.int .i64 1, .slice A4 T.length c4, .int .i64 (macOf kg zg 1 T), .slice C4 M.length d4] 32)))
  have C65 := Lib.hid (C57.out.below (box_below v6 (.cells #[.int .i64 1, .slice A4 T.length c4, .int .i64 (macOf kg zg 1 T), .slice C4 M.length d4] 32)) C57.out.lt)
  clear K50 B51 P52 R53 R54 R55 R56 C57
  have lv6 : v6.heap.size < (v6.alloc (.cells #[.int .i64 1, .slice A4 T.length c4, .int .i64 (macOf kg zg 1 T), .slice C4 M.length d4] 32)).heap.size := by simp
  go_upto_region 12 with fail
  clear s0 s1 s2 s3
  clear kc0 kf0 kc1 kf1
  generalize World.alloc v6 _ = v7 at K58 B59 P60 R61 R62 R63 R64 C65 lv6 ⊢
  have KR := Lib.hid K58.out.rebase
  have hgv : g < v7.heap.size := K58.out.2.1.lt
  have SL3 := Lib.hid (fun (y : Int) (hy : 2 ≤ y ∧ y ≤ 51) (u : World) (hI : Ints u .i64 u.heap.size Q zg) (hT : Trs u u.heap.size B3 T) => (by
   have h := specSealOf_calls kg Q zg c y B3 T d3 u (by unfold maxLen; omega) hI (by omega) hT HTI.out ⟨by omega, by omega⟩
   rw [sealN_yes HT.out (by omega) (by omega)] at h
   exact h : Calls Tryz.prog 14 #[.agg #[.int .i64 kg, .slice Q zg.length c], .int .i64 y, .slice B3 T.length d3] u (NewSe u y T (macOf kg zg y T))))
  refine wp_region_free [false, false, true, true, false, false, true, false, false, false, true, true] (ShL [(2, fun v => ∃ a : Int, (0 ≤ a ∧ a ≤ 49) ∧ v = .int .i64 a), (3, fun v => ∃ a : Int, (2 ≤ a ∧ a ≤ 51) ∧ v = .int .i64 a), (6, fun v => ∃ (a : Int) (E : Option Addr) (n1 n2 : Nat) (m : Int), v = .agg #[.int .i64 a, .slice E n1 n2, .int .i64 m]), (10, fun v => ∃ p : Nat, v = .pointer (some ⟨p, 0, none⟩))]) (fun D γ u => D15C v7 g A l cap [(v6.heap.size, 32, #[.int .i64 1, .slice A4 T.length c4, .int .i64 (macOf kg zg 1 T), .slice C4 M.length d4]), (u2.heap.size, 45, #[.int .i64 kg, .slice A3 zg.length c3, .slice B3 T.length d3, .slice C3 M.length e3, .slice (some ⟨gs, 0, none⟩) 2 2, .int .i64 1]), (u1.heap.size, 26, #[.int .i64 kg, .slice Q zg.length c])] v7.heap.size kg zg T (.slice C3 M.length e3) D γ u) (by kernel_rfl) (by kernel_rfl) (fun γ => by kernel_rfl) (fun D γ γ' w ha h => h.loc ha) (ShL.inh _ ?inh) (fun γ => D15C.start KR.out) (fun γ hγ => ?_)
  case inh =>
   intro y hy
   simp only [List.mem_cons, List.not_mem_nil, or_false] at hy
   rcases hy with rfl | rfl | rfl | rfl
   ·exact ⟨_, 0, by omega, rfl⟩
   ·exact ⟨_, 2, by omega, rfl⟩
   ·exact ⟨_, 0, none, 0, 0, 0, rfl⟩
   ·exact ⟨_, 0, rfl⟩
  obtain ⟨xd, hxd, g2⟩ : ∃ a : Int, (0 ≤ a ∧ a ≤ 49) ∧ γ 2 = .int .i64 a := hγ 2 rfl
  obtain ⟨y, hy, g3⟩ : ∃ a : Int, (2 ≤ a ∧ a ≤ 51) ∧ γ 3 = .int .i64 a := hγ 3 rfl
  obtain ⟨ya, E, En, ce, ym, g6⟩ : ∃ (a : Int) (E : Option Addr) (n1 n2 : Nat) (m : Int), γ 6 = .agg #[.int .i64 a, .slice E n1 n2, .int .i64 m] := hγ 6 rfl
  obtain ⟨p, g10⟩ : ∃ p : Nat, γ 10 = .pointer (some ⟨p, 0, none⟩) := hγ 10 rfl
  have g11 : γ 11 = undef := hγ 11 rfl
  apply Exists.intro
  refine ⟨fun D => ?_, ?_, ?_⟩
  ·simp only [hushL, cond_true, cond_false, Nat.reduceAdd, g2, g3, g6, g10, g11]
   iterate 12 (first
    | go_big_quiet_skip
    | (go_big_quiet_want
       go_big_quiet_op
       first
        | go_big_quiet_on
        | (apply Exists.intro
           refine ⟨fun u hu => ?_, ?_⟩
           ·first
              | with_reducible rfl
              | (obtain ⟨kc0, kf0, kc1, kf1, kc2, kf2, -⟩ := hu.1.rd; go_simp; first | done | with_reducible rfl)
           go_big_quiet_on)))
   exact wpQuiet_nil rfl
  ·simp only [freeOk, Nat.reduceAdd]
   refine ⟨fun D u hD hd hu => ?_, fun D u hD hd hu => ?_, fun D u hD hd hu => ?_, fun D u hD hd hu => ?_, fun D u hD hd hu => ?_, trivial⟩
   ·exact steps_call ((throw_calls g A l cap 50 u HNM.out hu.1.2.1 H8.out (by omega)).mono fun e w' ⟨m, he, hm, gy, dy⟩ => ⟨_, he, ⟨m, by omega, rfl⟩, hu.throw hgv dy gy⟩) rfl rfl rfl rfl (by kernel_rfl)
   ·have hw : IntKind.i64.wrap (2 + xd) = 2 + xd := IntWalk.i64_in _ (by omega)
    refine steps_addM (a := 2) (b := xd) rfl rfl rfl ⟨⟨2 + xd, by omega, by rw [hw]⟩, hu.sum hD⟩
   ·have d3 := hd { on := 3, ground := Ground.data } (by simp) rfl rfl
    have hr := P60.out.grown hu.1.1 (.inl (by omega))
    have ht := SRow.grown R61.out hu.1.1 (by omega)
    exact steps_call ((SL3.out y hy u (rowb_ints hr) (row_cls ht truV_len)).mono fun e w' ⟨E9, c9, he, hr9, hb9⟩ => ⟨_, he, ⟨_, _, _, _, _, rfl⟩, hu.sealed hD d3 g3 hb9 (SRow.mono hr9 hu.1.1.size)⟩) rfl rfl rfl rfl (by kernel_rfl)
   ·exact steps_alloc (cs := #[.int .i64 0, .slice none 0 0, .int .i64 0, .slice none 0 0]) rfl (by kernel_rfl) ⟨⟨_, rfl⟩, hu.made hD⟩
   ·have d6 := hd { on := 6, ground := Ground.chain } (by simp) rfl rfl
    have d10 := hd { on := 10, ground := Ground.data } (by simp) rfl rfl
    obtain ⟨p', e1, e2, e3, e4, cs, e5, e6, -⟩ := hu.2.2.2.1 d10
    obtain rfl : p = p' := by rw [g10] at e1; simpa using e1
    have e7 := e6 hD
    subst e7
    exact steps_store e5 rfl rfl rfl (by kernel_rfl) (by simp) (by simp [Value.oneCell']) (fun w' hc hg => ⟨rfl, hu.store d6 d10 g10 g6 e2 hc hg⟩)
  ·intro D uf hD hu
   obtain ⟨y', E', ce', e1, e2, hrE⟩ := hu.2.1 (hD 6 (by simp) rfl)
   obtain rfl : y = y' := by rw [g3] at e1; simpa using e1
   obtain ⟨p', e3, hpv, -, hpL, cs, hcs, -, h11⟩ := hu.2.2.2.1 (hD 10 (by simp) rfl)
   obtain rfl : p = p' := by rw [g10] at e3; simpa using e3
   obtain ⟨x0, x1', x2, e4, rfl⟩ := h11 (hD 11 (by simp) rfl)
   rw [e2] at e4
   injection e4 with e4
   simp only [Array.mk.injEq, List.cons.injEq, and_true] at e4
   obtain ⟨rfl, rfl, rfl⟩ := e4
   have hg12 := hu.1.1
   have KF := Lib.hid (hu.1.more (by omega) hcs)
   have BF := Lib.hid (bgb B59.out hg12 B59.out.size (by rw [HGU.out]; exact Nat.le_refl _))
   have PF := Lib.hid (P60.out.grown hg12 (.inl hg0))
   have RF3 := Lib.hid (SRow.grown R62.out hg12 (by omega))
   have RT4 := Lib.hid (SRow.grown R63.out hg12 (by omega))
   have RC4 := Lib.hid (SRow.grown R64.out hg12 (by omega))
   have RE := Lib.hid hrE
   clear hu hD hγ hcs hrE h11 hpL e1 e2 e3 g2 g3 g6 g10 g11 hg12 K58 B59 P60 R61 R62 R63 R64 C65 KR SL3 hxd
   obtain ⟨kc0, kf0, kc1, kf1, kc2, kf2, kc3, kf3, -⟩ := KF.out.rd
   have K66 := Lib.hid (KF.out.put1 uf.heap.size 32 #[.int .i64 1, .slice A4 T.length c4, .int .i64 (macOf kg zg 1 T), .slice C4 M.length d4, .int .i64 y, .slice E' T.length ce', .int .i64 (macOf kg zg y T), .slice C3 M.length e3] (rfl))
   have B67 := Lib.hid (BF.out.trans (((box_below uf (.cells #[.int .i64 1, .slice A4 T.length c4, .int .i64 (macOf kg zg 1 T), .slice C4 M.length d4, .int .i64 y, .slice E' T.length ce', .int .i64 (macOf kg zg y T), .slice C3 M.length e3] 32))).mono BF.out.size))
   have P68 := Lib.hid (PF.out.below ((box_below uf (.cells #[.int .i64 1, .slice A4 T.length c4, .int .i64 (macOf kg zg 1 T), .slice C4 M.length d4, .int .i64 y, .slice E' T.length ce', .int .i64 (macOf kg zg y T), .slice C3 M.length e3] 32))))
   have R69 := Lib.hid (SRow.below RF3.out (box_below uf (.cells #[.int .i64 1, .slice A4 T.length c4, .int .i64 (macOf kg zg 1 T), .slice C4 M.length d4, .int .i64 y, .slice E' T.length ce', .int .i64 (macOf kg zg y T), .slice C3 M.length e3] 32)))
   have R70 := Lib.hid (SRow.below RT4.out (box_below uf (.cells #[.int .i64 1, .slice A4 T.length c4, .int .i64 (macOf kg zg 1 T), .slice C4 M.length d4, .int .i64 y, .slice E' T.length ce', .int .i64 (macOf kg zg y T), .slice C3 M.length e3] 32)))
   have R71 := Lib.hid (SRow.below RC4.out (box_below uf (.cells #[.int .i64 1, .slice A4 T.length c4, .int .i64 (macOf kg zg 1 T), .slice C4 M.length d4, .int .i64 y, .slice E' T.length ce', .int .i64 (macOf kg zg y T), .slice C3 M.length e3] 32)))
   have R72 := Lib.hid (SRow.below RE.out (box_below uf (.cells #[.int .i64 1, .slice A4 T.length c4, .int .i64 (macOf kg zg 1 T), .slice C4 M.length d4, .int .i64 y, .slice E' T.length ce', .int .i64 (macOf kg zg y T), .slice C3 M.length e3] 32)))
   clear KF BF PF RF3 RT4 RC4 RE
   go_upto_region 14 with fail
   clear kc0 kf0 kc1 kf1 kc2 kf2 kc3 kf3
   generalize hgb : uf.heap.size = gb at K66 ⊢
   have hgbl : gb < (uf.alloc (.cells #[.int .i64 1, .slice A4 T.length c4, .int .i64 (macOf kg zg 1 T), .slice C4 M.length d4, .int .i64 y, .slice E' T.length ce', .int .i64 (macOf kg zg y T), .slice C3 M.length e3] 32)).heap.size := by rw [← hgb]; simp
   generalize World.alloc uf _ = v8 at K66 B67 P68 R69 R70 R71 R72 hgbl ⊢
   clear hgb
   have KA := Lib.hid (K66.out.kept hgw (K32.out.below B67.out))
   simp only [List.cons_append, List.nil_append] at KA
   have CB8 := Lib.hid (K66.out.at_ (p := gb) (t := 32) (cs := #[.int .i64 1, .slice A4 T.length c4, .int .i64 (macOf kg zg 1 T), .slice C4 M.length d4, .int .i64 y, .slice E' T.length ce', .int .i64 (macOf kg zg y T), .slice C3 M.length e3]) (by simp))
   have HX := Lib.hid (show Slots v8 v8.heap.size (some ⟨gb, 0, none⟩) [⟨1, T, macOf kg zg 1 T, M⟩, ⟨y, T, macOf kg zg y T, M⟩] from fun i hi => by
    have hc := CB8.out.cell
    simp only [List.length_cons, List.length_nil] at hi
    obtain rfl | rfl : i = 0 ∨ i = 1 := by omega
    ·exact ⟨gb, 0, rfl, hgbl, A4, c4, C4, d4, hc 0, hc 1, hc 2, hc 3, row_cls R70.out truV_len, row_cls R71.out ceV_len⟩
    ·exact ⟨gb, 0, rfl, hgbl, E', ce', C3, e3, hc 4, hc 5, hc 6, hc 7, row_cls R72.out truV_len, row_cls R69.out ceV_len⟩)
   have HP := Lib.hid (rowb_ints P68.out)
   have HP2 := Lib.hid ((I37.out.below B67.out (Nat.le_refl _)).more B67.out.size)
   have HX2 := Lib.hid (Slots.grow X38.out B67.out)
   have hch := chosen_two (key := kg) (x := y) (l := zg) (a := ⟨1, T, macOf kg zg 1 T, M⟩) (b := ⟨y, T, macOf kg zg y T, M⟩) (slot_right (y := 1) HT.out HM.out (by omega) (by omega)) (slot_right (y := y) HT.out HM.out (by omega) (by omega)) rfl rfl hy.1
   obtain ⟨hf1, hf2, hf3⟩ := hch
   have hfit : ∀ i, i < ([⟨1, T, macOf kg zg 1 T, M⟩, ⟨y, T, macOf kg zg y T, M⟩] : List SlN).length → (([⟨1, T, macOf kg zg 1 T, M⟩, ⟨y, T, macOf kg zg y T, M⟩] : List SlN).getD i default).Fits := fun i hi => by
    simp only [List.length_cons, List.length_nil] at hi
    obtain rfl | rfl : i = 0 ∨ i = 1 := by omega
    ·exact ⟨by show T.length ≤ 1048576; omega, by show M.length ≤ 1048576; omega, HTI.out, by show I64 1; unfold I64; omega⟩
    ·exact ⟨by show T.length ≤ 1048576; omega, by show M.length ≤ 1048576; omega, HTI.out, by show I64 y; unfold I64; omega⟩
   have CH := Lib.hid (fun (n : Int) (u : World) (hI : Ints u .i64 u.heap.size Q zg) (hX : Slots u u.heap.size (some ⟨gb, 0, none⟩) [⟨1, T, macOf kg zg 1 T, M⟩, ⟨y, T, macOf kg zg y T, M⟩]) => (implChosen_calls kg Q (some ⟨gb, 0, none⟩) zg c hcQ [⟨1, T, macOf kg zg 1 T, M⟩, ⟨y, T, macOf kg zg y T, M⟩] 2 (by simp) n u (by omega) hI (by simp) hX hfit : Calls Tryz.prog 7 #[.agg #[.int .i64 kg, .slice Q zg.length c], .slice (some ⟨gb, 0, none⟩) 2 2, .int .i64 n] u fun e w' => e = .returned (.int .i64 (chosenOf kg zg [⟨1, T, macOf kg zg 1 T, M⟩, ⟨y, T, macOf kg zg y T, M⟩] n)) ∧ Below u.heap.size u w'))
   have hwy : IntKind.i64.wrap (y + 1) = y + 1 := IntWalk.i64_in _ (by omega)
   generalize chosenOf kg zg [⟨1, T, macOf kg zg 1 T, M⟩, ⟨y, T, macOf kg zg y T, M⟩] = ff at CH hf1 hf2 hf3
   clear hfit CB8 K66 B67 P68 R69 R70 R71 R72 K32 I33 I34 T35 T36 I37 X38 HGU HT HM HTI
   rcases HCC.out with rfl | ⟨j, hj, rfl, hsl⟩
   ·clear HCC FF
    refine wp_region_class (C := fun u => KV w [(gb, 32, #[.int .i64 1, .slice A4 T.length c4, .int .i64 (macOf kg zg 1 T), .slice C4 M.length d4, .int .i64 y, .slice E' T.length ce', .int .i64 (macOf kg zg y T), .slice C3 M.length e3]), (p, 32, #[.int .i64 y, .slice E' T.length ce', .int .i64 (macOf kg zg y T), .slice C3 M.length e3]), (v6.heap.size, 32, #[.int .i64 1, .slice A4 T.length c4, .int .i64 (macOf kg zg 1 T), .slice C4 M.length d4]), (u2.heap.size, 45, #[.int .i64 kg, .slice A3 zg.length c3, .slice B3 T.length d3, .slice C3 M.length e3, .slice (some ⟨gs, 0, none⟩) 2 2, .int .i64 1]), (u1.heap.size, 26, #[.int .i64 kg, .slice Q zg.length c]), (wa.heap.size, 26, #[.int .i64 k2, .slice A2 z2.length c2]), (w1.heap.size + 1, 32, #[.int .i64 x1, .slice B1 L1.length t1, .int .i64 m1, .slice C1 M1.length q1]), (w1.heap.size, 26, #[.int .i64 k1, .slice A1 z1.length c1])] v8 u) (by kernel_rfl) (by kernel_rfl) (KV.start KA.out) ?_
    iterate 36 (first
     | go_big_quiet_skip
     | (go_big_quiet_want
        go_big_quiet_op
        first
         | go_big_quiet_on
         | (apply Exists.intro
            refine ⟨fun u hu => ?_, ?_⟩
            ·first
               | with_reducible rfl
               | (go_at_call 7; exact (CH.out _ u  ((HP.out.below hu.2 (Nat.le_refl _)).more hu.2.size) (Slots.grow HX.out hu.2)).mono fun e w' h => ⟨h.1, hu.step h.2⟩)
               | (obtain ⟨kc0, kf0, kc1, kf1, kc2, kf2, kc3, kf3, kc4, kf4, kc5, kf5, kc6, kf6, kc7, kf7, -⟩ := hu.1.rd; go_simp; first | done | with_reducible rfl)
            go_big_quiet_on)))
    refine wpQuiet_nil ?_
    intro uz hz
    have HZ := Lib.hid hz.1.1
    clear hz
    go_wp2_with fail
    go_ret
    exact ⟨rfl, HZ.out⟩
   ·have hFj := FF.out j hj
    obtain ⟨bq, oq, rfl, hbq, B, tc, C, cc, c0, c1', c2', c3', hrT, hrC⟩ := HX2.out j hj
    have hjl : (j : Int) < S2.length := by omega
    have hj0 : (0 : Int) ≤ j := by omega
    have hjn : ¬ (j : Int) < 0 := by omega
    have ST := Lib.hid hrT
    have SC := Lib.hid hrC
    have SQ := Lib.hid (fun u hI hT hC => implSlotOk_calls k2 A2 z2 c2 m2 (S2.getD j default).count B (S2.getD j default).trusts tc (S2.getD j default).mac C (S2.getD j default).cells cc u (by omega) hI hFj.1 hT hFj.2.2.1 hFj.2.2.2 hFj.2.1 hC)
    rw [hsl] at SQ
    clear hrT hrC hFj hsl HCC FF hj
    generalize (S2.getD j default).count = sc at c0 SQ
    generalize (S2.getD j default).mac = sm at c2' SQ
    generalize (S2.getD j default).trusts = sT at c1' SQ ST
    generalize (S2.getD j default).cells = sC at c3' SQ SC
    refine wp_region_class (C := fun u => KV w [(gb, 32, #[.int .i64 1, .slice A4 T.length c4, .int .i64 (macOf kg zg 1 T), .slice C4 M.length d4, .int .i64 y, .slice E' T.length ce', .int .i64 (macOf kg zg y T), .slice C3 M.length e3]), (p, 32, #[.int .i64 y, .slice E' T.length ce', .int .i64 (macOf kg zg y T), .slice C3 M.length e3]), (v6.heap.size, 32, #[.int .i64 1, .slice A4 T.length c4, .int .i64 (macOf kg zg 1 T), .slice C4 M.length d4]), (u2.heap.size, 45, #[.int .i64 kg, .slice A3 zg.length c3, .slice B3 T.length d3, .slice C3 M.length e3, .slice (some ⟨gs, 0, none⟩) 2 2, .int .i64 1]), (u1.heap.size, 26, #[.int .i64 kg, .slice Q zg.length c]), (wa.heap.size, 26, #[.int .i64 k2, .slice A2 z2.length c2]), (w1.heap.size + 1, 32, #[.int .i64 x1, .slice B1 L1.length t1, .int .i64 m1, .slice C1 M1.length q1]), (w1.heap.size, 26, #[.int .i64 k1, .slice A1 z1.length c1])] v8 u) (by kernel_rfl) (by kernel_rfl) (KV.start KA.out) ?_
    iterate 36 (first
     | go_big_quiet_skip
     | (go_big_quiet_want
        go_big_quiet_op
        first
         | go_big_quiet_on
         | (apply Exists.intro
            refine ⟨fun u hu => ?_, ?_⟩
            ·first
               | with_reducible rfl
               | (go_at_call 7; exact (CH.out _ u  ((HP.out.below hu.2 (Nat.le_refl _)).more hu.2.size) (Slots.grow HX.out hu.2)).mono fun e w' h => ⟨h.1, hu.step h.2⟩)
               | (go_at_call 8; exact (SQ.out u ((HP2.out.below hu.2 (Nat.le_refl _)).more hu.2.size) (Sls.grow ST.out hu.2) (Sls.grow SC.out hu.2)).mono fun e w' h => ⟨h.1, hu.step h.2⟩)
               | (obtain ⟨kc0, kf0, kc1, kf1, kc2, kf2, kc3, kf3, kc4, kf4, kc5, kf5, kc6, kf6, kc7, kf7, -⟩ := hu.1.rd; have d0 := (hu.2.cell (p := ⟨bq, oq + j * 4, none⟩) hbq).trans c0; have d1 := (hu.2.cell (p := ⟨bq, oq + j * 4 + 1, none⟩) hbq).trans c1'; have d2 := (hu.2.cell (p := ⟨bq, oq + j * 4 + 2, none⟩) hbq).trans c2'; have d3 := (hu.2.cell (p := ⟨bq, oq + j * 4 + 3, none⟩) hbq).trans c3'; go_simp; first | done | with_reducible rfl)
            go_big_quiet_on)))
    refine wpQuiet_nil ?_
    intro uz hz
    have HZ := Lib.hid hz.1.1
    clear hz
    go_wp2_with fail
    go_ret
    exact ⟨rfl, HZ.out⟩
def IsRow (k : IntKind) (w : World) (a : Option Addr) (len cap : Nat) (zs : List Int) : Prop :=
 (a = none ∧ len = 0 ∧ cap = 0 ∧ zs = []) ∨
 ∃ x, a = some x ∧ len ≤ cap ∧ cap ≤ maxLen ∧ zs.length = cap ∧ (∀ i, i < zs.length → w.cell? (x.add i) = some (.int k (zs.getD i 0))) ∧ ∀ n ∈ zs, (Lit.int k n).wf = true
section
variable {H : Type} {enc : TypeId × Value → H} {P : Program} {w : World} {base : Nat} {spare : Nat → Bool} {held : Bool}
theorem row_of_trod {t e : TypeId} {k : IntKind} {a : Option Addr} {len cap : Nat} {d : DataW H} {p : List MemPlace} (ht : P.underlying t = some (.slice e)) (he : P.underlying e = some (.int k)) (hc : P.cellsOf e = 1)
    (h : DataW.Trod enc P w base (fun _ => true) held t (.slice a len cap) d p) : ∃ zs, IsRow k w a len cap zs := by
 obtain ⟨fuel, hf⟩ := h
 rcases open_ints ht he hc hf with ⟨hcs, _⟩ | ⟨x, l, c, zs, hcs, _, hl, hm, hz, _, hcell, hwz⟩
 ·simp [Value.cells] at hcs
  obtain ⟨rfl, rfl, rfl⟩ := hcs
  exact ⟨[], .inl ⟨rfl, rfl, rfl, rfl⟩⟩
 ·simp [Value.cells] at hcs
  obtain ⟨rfl, rfl, rfl⟩ := hcs
  exact ⟨zs, .inr ⟨_, rfl, hl, hm, by simpa using hz, hcell, hwz⟩⟩
end
end Go.Proofs.YtjbnknccnhdapaaGreat.Mx

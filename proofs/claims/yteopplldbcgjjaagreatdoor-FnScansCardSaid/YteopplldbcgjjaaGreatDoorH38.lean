import Derived.Test.YteopplldbcgjjaaGreatDoorH37
import Derived.Test.YteopplldbcgjjaaGreatDoorH22
import Derived.Test.YteopplldbcgjjaaGreatDoorH26
import Derived.Test.YteopplldbcgjjaaGreatDoorH34
namespace Go.Proofs.YteopplldbcgjjaaGreatDoor.Mx
open Go.ChangeShapes Go.WideShapes Go.ChangeAt Go.RowKit
set_option linter.unusedVariables false
open Go.Lib (hid)
set_option maxHeartbeats 64000000
set_option maxRecDepth 20000 in
theorem scanned_by (key x ct cv : Int) (A : Option Addr) (l : List Int) (cap : Nat) (t0 t1 t2 t3 t4 t5 t6 : Int) (t7 : Bool) (s0 s1 s2 s3 s4 s5 s6 : Int) (s7 : Bool) (d1 d2 code : Int) (w : World)
    (S : ∀ u, Kept w [(w.heap.size + 1 + 1 + 1 + 1 + 1, 95, (cA ct cv)), (w.heap.size + 1 + 1 + 1 + 1, 30, zC), (w.heap.size + 1 + 1 + 1, 28, zT), (w.heap.size + 1 + 1, 30, (cA ct cv)), (w.heap.size + 1, 28, (tA t0 t1 t2 t3 t4 t5 t6 t7)), (w.heap.size, 26, (pA key A l.length cap))] u → Calls Tryz.prog 56 #[.pointer (some ⟨w.heap.size + 1, 0, none⟩), .agg (pA key A l.length cap), .int .i64 x, .slice (some ⟨w.heap.size + 1 + 1 + 1 + 1 + 1, 0, none⟩) 1 1] u fun e w' => e = .returned (.int .i64 code) ∧ Kept w [(w.heap.size + 1 + 1 + 1 + 1 + 1, 95, (cA d1 d2)), (w.heap.size + 1 + 1 + 1 + 1, 30, zC), (w.heap.size + 1 + 1 + 1, 28, zT), (w.heap.size + 1 + 1, 30, (cA ct cv)), (w.heap.size + 1, 28, (tA s0 s1 s2 s3 s4 s5 s6 s7)), (w.heap.size, 26, (pA key A l.length cap))] w') :
    Calls Tryz.prog 15 #[.agg (pA key A l.length cap), .int .i64 x, .agg (tA t0 t1 t2 t3 t4 t5 t6 t7), .agg (cA ct cv)] w fun e w' => e = .returned (.tuple #[.agg (tA s0 s1 s2 s3 s4 s5 s6 s7), .agg (cA d1 d2), .int .i64 code]) ∧ Below w.heap.size w w' := by
 have K0 := hid (show Kept w [(w.heap.size + 1 + 1 + 1 + 1 + 1, 95, (cA ct cv)), (w.heap.size + 1 + 1 + 1 + 1, 30, zC), (w.heap.size + 1 + 1 + 1, 28, zT), (w.heap.size + 1 + 1, 30, (cA ct cv)), (w.heap.size + 1, 28, (tA t0 t1 t2 t3 t4 t5 t6 t7)), (w.heap.size, 26, (pA key A l.length cap))] _ from (((((((Kept.refl w).put1 _ _ (pA key A l.length cap) rfl).put1 _ _ (tA t0 t1 t2 t3 t4 t5 t6 t7) (by simp)).put1 _ _ (cA ct cv) (by simp)).put1 _ _ zT (by simp)).put1 _ _ zC (by simp)).put1 _ _ (cA ct cv) (by simp)))
 have SC := hid S
 clear S
 go_enter Tryz.func15, Tryz.ntmps15
 go_upto_region 2 with fail
 have k0 := K0.out
 clear K0
 generalize World.alloc _ _ = w0 at k0 ⊢
 refine wp_region_class_tail (C := fun u => Kept w [(w.heap.size + 1 + 1 + 1 + 1 + 1, 95, (cA ct cv)), (w.heap.size + 1 + 1 + 1 + 1, 30, zC), (w.heap.size + 1 + 1 + 1, 28, zT), (w.heap.size + 1 + 1, 30, (cA ct cv)), (w.heap.size + 1, 28, (tA t0 t1 t2 t3 t4 t5 t6 t7)), (w.heap.size, 26, (pA key A l.length cap))] u) 3 (by kernel_rfl) (by kernel_rfl) k0.drew ?_
 clear k0
 simp only [List.take_succ_cons, List.take_zero, List.drop_succ_cons, List.drop_zero]
 iterate 3 (first
  | go_big_quiet_skip
  | (go_big_quiet_want
     go_big_quiet_op
     first
      | go_big_quiet_on
      | (apply Exists.intro
         refine ⟨fun u hu => ?_, ?_⟩
         ·first
            | with_reducible rfl
            | (obtain ⟨X0, Y0, X1, Y1, X2, Y2, X3, Y3, X4, Y4, X5, Y5, -⟩ := hu.rd; go_simp; first | done | with_reducible rfl)
         go_big_quiet_on)))
 refine wpQuiet_nil ?_
 intro w1 k1
 obtain ⟨X0, Y0, X1, Y1, X2, Y2, X3, Y3, X4, Y4, X5, Y5, -⟩ := k1.rd
 go_wp2_with fail
 refine (SC.out _ k1).mono ?_; rintro e w2 ⟨rfl, k2⟩
 clear X0 Y0 X1 Y1 X2 Y2 X3 Y3 X4 Y4 X5 Y5
 clear k1 SC
 obtain ⟨X0, Y0, X1, Y1, X2, Y2, X3, Y3, X4, Y4, X5, Y5, -⟩ := k2.rd
 have K8 := hid k2
 clear k2
 go_upto_region 3 with fail
 go_region
 all_goals
  go_wp2_with fail
  obtain ⟨w9, e9, ⟨m0, m1, m2, m3, m4, m5, m6, m7, m8, m9⟩, hb⟩ := touch_end (x0 := .int .i64 s0) (x1 := .int .i64 s1) (x2 := .int .i64 s2) (x3 := .int .i64 s3) (x4 := .int .i64 s4) (x5 := .int .i64 s5) (x6 := .int .i64 s6) (x7 := .bool s7) (y0 := .int .i64 d1) (y1 := .int .i64 d2) (K8.out.at_ (p := w.heap.size + 1 + 1 + 1) (t := 28) (cs := zT) (by simp)) (K8.out.at_ (p := w.heap.size + 1 + 1 + 1 + 1) (t := 30) (cs := zC) (by simp)) (by omega) K8.out.1 (by omega) (by omega)
  rw [e9]
  clear e9
  exact bodyPost_ret (v := (.tuple #[.agg (tA s0 s1 s2 s3 s4 s5 s6 s7), .agg (cA d1 d2), .int .i64 code])) (by simp [results, Tryz.results15, go_sem, m0, m1, m2, m3, m4, m5, m6, m7, m8, m9]) rfl ⟨rfl, hb.drew⟩
theorem scanRef_bad (a0 a1 a2 a3 : Addr) (key x ct cv : Int) (A : Option Addr) (l : List Int) (cap : Nat) (t0 t1 t2 t3 t4 t5 t6 : Int) (t7 : Bool) (w : World) (hn : l.length ≤ 1048576) (hcap : l.length ≤ cap) (hA : Ints w .i64 w.heap.size A l) (hct : I64 ct) (hcv : I64 cv) (he : Errs w a0 a1 a2 a3) (h : ¬ scanOk key l x ⟨t0, t1, t2, t3, t4, t5, t6, t7⟩ ct cv) :
    Calls Tryz.prog 94 #[.agg (pA key A l.length cap), .int .i64 x, .agg (tA t0 t1 t2 t3 t4 t5 t6 t7), .agg (cA ct cv)] w (RefQ w a0 0 0 0 0 0 0 0 false 0 0) := by
 have R := fun (u : World) (hb : Below w.heap.size w u) => refd_bad a0 a1 a2 a3 ct cv t0 t1 t2 t3 t4 t5 t6 t7 (t0 == 100000 || t1 == 1000) u (he.below hb)
 have hy := scanB_no h
 exact (refusedScan_on key x ct cv A l cap t0 t1 t2 t3 t4 t5 t6 t7 w (fun v w' => ∃ r, v = .iface 118 (.pointer (some ⟨r, 0, none⟩)) ∧ CellsAt w' r 122 #[.iface 212 (.pointer (some a0)), .int .i64 0, .int .i64 0, .int .i64 0, .int .i64 0, .int .i64 0, .int .i64 0, .int .i64 0, .bool false, .int .i64 0, .int .i64 0] ∧ Below w.heap.size w w') hn hcap hA hct hcv (fun u hb => by rw [hy]; exact (R u hb).mono (fun e w' ⟨r, he, hc, hb2⟩ => ⟨_, he, r, rfl, hc, hb.trans (hb2.mono hb.size)⟩))).mono (fun e w' ⟨v, he, r, hv, hc, hb⟩ => ⟨r, by rw [he, hv], hc, hb⟩)
theorem scanRef_failed (a0 a1 a2 a3 : Addr) (key x ct cv : Int) (A : Option Addr) (l : List Int) (cap : Nat) (t0 t1 t2 t3 t4 t5 t6 : Int) (w : World) (hn : l.length ≤ 1048576) (hcap : l.length ≤ cap) (hA : Ints w .i64 w.heap.size A l) (hct : I64 ct) (hcv : I64 cv) (he : Errs w a0 a1 a2 a3) (h : scanOk key l x ⟨t0, t1, t2, t3, t4, t5, t6, true⟩ ct cv) :
    Calls Tryz.prog 94 #[.agg (pA key A l.length cap), .int .i64 x, .agg (tA t0 t1 t2 t3 t4 t5 t6 true), .agg (cA ct cv)] w (RefQ w a1 t0 t1 t2 t3 t4 t5 t6 true ct cv) := by
 have R := fun (u : World) (hb : Below w.heap.size w u) => refd_failed a0 a1 a2 a3 ct cv t0 t1 t2 t3 t4 t5 t6 (t0 == 100000 || t1 == 1000) u (he.below hb)
 have hy := scanB_yes h
 exact (refusedScan_on key x ct cv A l cap t0 t1 t2 t3 t4 t5 t6 true w (fun v w' => ∃ r, v = .iface 118 (.pointer (some ⟨r, 0, none⟩)) ∧ CellsAt w' r 122 #[.iface 212 (.pointer (some a1)), .int .i64 t0, .int .i64 t1, .int .i64 t2, .int .i64 t3, .int .i64 t4, .int .i64 t5, .int .i64 t6, .bool true, .int .i64 ct, .int .i64 cv] ∧ Below w.heap.size w w') hn hcap hA hct hcv (fun u hb => by rw [hy]; exact (R u hb).mono (fun e w' ⟨r, he, hc, hb2⟩ => ⟨_, he, r, rfl, hc, hb.trans (hb2.mono hb.size)⟩))).mono (fun e w' ⟨v, he, r, hv, hc, hb⟩ => ⟨r, by rw [he, hv], hc, hb⟩)
theorem scanRef_spent (a0 a1 a2 a3 : Addr) (key x ct cv : Int) (A : Option Addr) (l : List Int) (cap : Nat) (t0 t1 t2 t3 t4 t5 t6 : Int) (w : World) (hn : l.length ≤ 1048576) (hcap : l.length ≤ cap) (hA : Ints w .i64 w.heap.size A l) (hct : I64 ct) (hcv : I64 cv) (he : Errs w a0 a1 a2 a3) (h : scanOk key l x ⟨t0, t1, t2, t3, t4, t5, t6, false⟩ ct cv) (h1 : 100000 ≤ t0 ∨ 1000 ≤ t1) :
    Calls Tryz.prog 94 #[.agg (pA key A l.length cap), .int .i64 x, .agg (tA t0 t1 t2 t3 t4 t5 t6 false), .agg (cA ct cv)] w (RefQ w a2 t0 t1 t2 t3 t4 t5 t6 false ct cv) := by
 have R := fun (u : World) (hb : Below w.heap.size w u) => refd_spent a0 a1 a2 a3 ct cv t0 t1 t2 t3 t4 t5 t6  u (he.below hb)
 have hy := scanB_yes h
 have ht0 := h.1.2.2.1.2
 have ht1 := h.1.2.2.2.1.2
 simp only [] at ht0 ht1
 have hs : (t0 == 100000 || t1 == 1000) = true := by simp; omega
 exact (refusedScan_on key x ct cv A l cap t0 t1 t2 t3 t4 t5 t6 false w (fun v w' => ∃ r, v = .iface 118 (.pointer (some ⟨r, 0, none⟩)) ∧ CellsAt w' r 122 #[.iface 212 (.pointer (some a2)), .int .i64 t0, .int .i64 t1, .int .i64 t2, .int .i64 t3, .int .i64 t4, .int .i64 t5, .int .i64 t6, .bool false, .int .i64 ct, .int .i64 cv] ∧ Below w.heap.size w w') hn hcap hA hct hcv (fun u hb => by rw [hy, hs]; exact (R u hb).mono (fun e w' ⟨r, he, hc, hb2⟩ => ⟨_, he, r, rfl, hc, hb.trans (hb2.mono hb.size)⟩))).mono (fun e w' ⟨v, he, r, hv, hc, hb⟩ => ⟨r, by rw [he, hv], hc, hb⟩)
theorem scanRef_caught (a0 a1 a2 a3 : Addr) (key x ct cv : Int) (A : Option Addr) (l : List Int) (cap : Nat) (t0 t1 t2 t3 t4 t5 t6 : Int) (w : World) (hn : l.length ≤ 1048576) (hcap : l.length ≤ cap) (hA : Ints w .i64 w.heap.size A l) (hct : I64 ct) (hcv : I64 cv) (he : Errs w a0 a1 a2 a3) (h : scanOk key l x ⟨t0, t1, t2, t3, t4, t5, t6, false⟩ ct cv) (h1 : ¬ (100000 ≤ t0 ∨ 1000 ≤ t1)) (h2 : t0 < ct) :
    Calls Tryz.prog 94 #[.agg (pA key A l.length cap), .int .i64 x, .agg (tA t0 t1 t2 t3 t4 t5 t6 false), .agg (cA ct cv)] w (RefQ w a3 t0 t1 t2 t3 t4 t5 t6 true ct cv) := by
 have R := fun (u : World) (hb : Below w.heap.size w u) => refd_caught a0 a1 a2 a3 ct cv t0 t1 t2 t3 t4 t5 t6  u (he.below hb) h2
 have hy := scanB_yes h
 have ht0 := h.1.2.2.1.2
 have ht1 := h.1.2.2.2.1.2
 simp only [] at ht0 ht1
 have hs : (t0 == 100000 || t1 == 1000) = false := by simp; omega
 exact (refusedScan_on key x ct cv A l cap t0 t1 t2 t3 t4 t5 t6 false w (fun v w' => ∃ r, v = .iface 118 (.pointer (some ⟨r, 0, none⟩)) ∧ CellsAt w' r 122 #[.iface 212 (.pointer (some a3)), .int .i64 t0, .int .i64 t1, .int .i64 t2, .int .i64 t3, .int .i64 t4, .int .i64 t5, .int .i64 t6, .bool true, .int .i64 ct, .int .i64 cv] ∧ Below w.heap.size w w') hn hcap hA hct hcv (fun u hb => by rw [hy, hs]; exact (R u hb).mono (fun e w' ⟨r, he, hc, hb2⟩ => ⟨_, he, r, rfl, hc, hb.trans (hb2.mono hb.size)⟩))).mono (fun e w' ⟨v, he, r, hv, hc, hb⟩ => ⟨r, by rw [he, hv], hc, hb⟩)
theorem scanRef_none (a0 a1 a2 a3 : Addr) (key x ct cv : Int) (A : Option Addr) (l : List Int) (cap : Nat) (t0 t1 t2 t3 t4 t5 t6 : Int) (w : World) (hn : l.length ≤ 1048576) (hcap : l.length ≤ cap) (hA : Ints w .i64 w.heap.size A l) (hct : I64 ct) (hcv : I64 cv) (he : Errs w a0 a1 a2 a3) (h : scanOk key l x ⟨t0, t1, t2, t3, t4, t5, t6, false⟩ ct cv) (h1 : ¬ (100000 ≤ t0 ∨ 1000 ≤ t1)) (h2 : ¬ t0 < ct) :
    Calls Tryz.prog 94 #[.agg (pA key A l.length cap), .int .i64 x, .agg (tA t0 t1 t2 t3 t4 t5 t6 false), .agg (cA ct cv)] w (fun e w' => e = .returned .nilIface ∧ Below w.heap.size w w') := by
 have R := fun (u : World) (hb : Below w.heap.size w u) => refd_none a0 a1 a2 a3 ct cv t0 t1 t2 t3 t4 t5 t6  u (he.below hb) h2
 have hy := scanB_yes h
 have ht0 := h.1.2.2.1.2
 have ht1 := h.1.2.2.2.1.2
 simp only [] at ht0 ht1
 have hs : (t0 == 100000 || t1 == 1000) = false := by simp; omega
 exact (refusedScan_on key x ct cv A l cap t0 t1 t2 t3 t4 t5 t6 false w (fun v w' => v = .nilIface ∧ Below w.heap.size w w') hn hcap hA hct hcv (fun u hb => by rw [hy, hs]; exact (R u hb).mono (fun e w' ⟨he, hb2⟩ => ⟨_, he, rfl, hb.trans (hb2.mono hb.size)⟩))).mono (fun e w' ⟨v, he, hv, hb⟩ => ⟨by rw [he, hv], hb⟩)
theorem implScanned_calls (a0 a1 a2 a3 : Addr) (key x ct cv : Int) (A : Option Addr) (l : List Int) (cap : Nat) (t0 t1 t2 t3 t4 t5 t6 : Int) (t7 : Bool) (w : World) (hn : l.length ≤ 1048576) (hcap : l.length ≤ cap) (hA : Ints w .i64 w.heap.size A l) (hct : I64 ct) (hcv : I64 cv) (he : Errs w a0 a1 a2 a3) :
    Calls Tryz.prog 15 #[.agg (pA key A l.length cap), .int .i64 x, .agg (tA t0 t1 t2 t3 t4 t5 t6 t7), .agg (cA ct cv)] w fun e w' => e = .returned (.tuple #[.agg (tR ((scanned key l x ⟨t0, t1, t2, t3, t4, t5, t6, t7⟩ ct cv).1)), .agg (cA ((scanned key l x ⟨t0, t1, t2, t3, t4, t5, t6, t7⟩ ct cv).2.1.1) ((scanned key l x ⟨t0, t1, t2, t3, t4, t5, t6, t7⟩ ct cv).2.1.2)), .int .i64 (scanned key l x ⟨t0, t1, t2, t3, t4, t5, t6, t7⟩ ct cv).2.2]) ∧ Below w.heap.size w w' := by
 have IA := fun (u : World) (hb : Below w.heap.size w u) => (hA.below hb (Nat.le_refl _)).more hb.size
 unfold scanned
 by_cases h : scanOk key l x ⟨t0, t1, t2, t3, t4, t5, t6, t7⟩ ct cv
 ·rw [if_pos h]
  cases t7 with
  | true =>
    rw [if_pos rfl]
    exact scanned_by key x ct cv A l cap t0 t1 t2 t3 t4 t5 t6 true t0 t1 t2 t3 t4 t5 t6 true ct cv 2 w (fun v0 hK => scan_refused a0 a1 a2 a3 a1 key x ct cv A l cap t0 t1 t2 t3 t4 t5 t6 true t0 t1 t2 t3 t4 t5 t6 true ct cv 2 w v0 he (fun u hb => scanRef_failed a0 a1 a2 a3 key x ct cv A l cap t0 t1 t2 t3 t4 t5 t6 u hn hcap (IA u hb) hct hcv (he.below hb) h) (fun u r he hr => codeOf_1 r a0 a1 a2 a3 _ u he hr) hK)
  | false =>
    rw [if_neg (by simp)]
    by_cases h1 : 100000 ≤ t0 ∨ 1000 ≤ t1
    ·rw [if_pos h1]
     exact scanned_by key x ct cv A l cap t0 t1 t2 t3 t4 t5 t6 false t0 t1 t2 t3 t4 t5 t6 false ct cv 3 w (fun v0 hK => scan_refused a0 a1 a2 a3 a2 key x ct cv A l cap t0 t1 t2 t3 t4 t5 t6 false t0 t1 t2 t3 t4 t5 t6 false ct cv 3 w v0 he (fun u hb => scanRef_spent a0 a1 a2 a3 key x ct cv A l cap t0 t1 t2 t3 t4 t5 t6 u hn hcap (IA u hb) hct hcv (he.below hb) h h1) (fun u r he hr => codeOf_2 r a0 a1 a2 a3 _ u he hr) hK)
    ·rw [if_neg h1]
     by_cases h2 : t0 < ct
     ·rw [if_pos h2]
      exact scanned_by key x ct cv A l cap t0 t1 t2 t3 t4 t5 t6 false t0 t1 t2 t3 t4 t5 t6 true ct cv 4 w (fun v0 hK => scan_refused a0 a1 a2 a3 a3 key x ct cv A l cap t0 t1 t2 t3 t4 t5 t6 false t0 t1 t2 t3 t4 t5 t6 true ct cv 4 w v0 he (fun u hb => scanRef_caught a0 a1 a2 a3 key x ct cv A l cap t0 t1 t2 t3 t4 t5 t6 u hn hcap (IA u hb) hct hcv (he.below hb) h h1 h2) (fun u r he hr => codeOf_3 r a0 a1 a2 a3 _ u he hr) hK)
     ·rw [if_neg h2]
      obtain ⟨r, rfl⟩ : ∃ r : Nat, x = r := ⟨x.toNat, by have := h.1.2.1; omega⟩
      rw [Int.toNat_natCast]
      have hr : r < l.length := by have := h.1.2.1; omega
      have hk := h.1.1.1
      have hkey : I64 key := by exact ⟨by omega, by omega⟩
      have hf : 0 ≤ firstOf key l r ∧ firstOf key l r ≤ 32 := by
       rw [firstOf_yes h.1.1 hr]
       have h1 := upTo_bd h.1.1.2.2.1 (show r ≤ l.length by omega)
       have h2 := h.1.1.2.1.2
       omega
      have hT := h.1.2.2.1
      have hE := h.1.2.2.2.1
      have hC := h.1.2.2.2.2.1
      have h8 := h.1.1.2.2.1 r hr
      unfold isTm at hT
      rw [Int.toNat_natCast] at hC
      simp only [] at hT hE hC
      obtain ⟨bb, oo, rfl, hbb, hcc⟩ := hA r hr
      have FC := fun (u : World) (hb : Below w.heap.size w u) => firstOf_calls key r (some ⟨bb, oo, none⟩) l cap u (by unfold maxLen; omega) hcap (IA u hb)
      have R := fun (u : World) (hb : Below w.heap.size w u) => scanRef_none a0 a1 a2 a3 key r ct cv (some ⟨bb, oo, none⟩) l cap t0 t1 t2 t3 t4 t5 t6 u hn hcap (IA u hb) hct hcv (he.below hb) h h1 h2
      unfold verdictOf scanMid
      simp only []
      generalize firstOf key l r = f at hf FC ⊢
      have hw : IntKind.i64.wrap (f + t2) = f + t2 := IntWalk.i64_in _ (by omega)
      have GC := fun (u : World) (hc : CellsAt u (w.heap.size + 1) 28 (tA t0 t1 t2 t3 t4 t5 t6 false)) => goThrough_calls key (f + t2) ct cv (w.heap.size + 1) t0 t1 t2 t3 t4 t5 t6 false u hkey ⟨by omega, by omega⟩ hct hcv hT.1 hT.2 hC.1 (by omega) hc
      by_cases h3 : t2 + 1 < l.getD r 0
      ·rw [if_pos h3]
       exact scanned_by key r ct cv (some ⟨bb, oo, none⟩) l cap t0 t1 t2 t3 t4 t5 t6 false (t0 + 1) t1 (t2 + 1) (addOf t3 (tagIn key (f + t2) ct cv)) t4 t5 (addOf t6 (tagIn key (f + t2) (cellOf key (f + t2) (t0 + 1) (valueIn key (f + t2) ct cv)).1 (cellOf key (f + t2) (t0 + 1) (valueIn key (f + t2) ct cv)).2)) false (cellOf key (f + t2) (t0 + 1) (valueIn key (f + t2) ct cv)).1 (cellOf key (f + t2) (t0 + 1) (valueIn key (f + t2) ct cv)).2 0 w (fun v0 hK => scan_on key ct cv f (cellOf key (f + t2) (t0 + 1) (valueIn key (f + t2) ct cv)).1 (cellOf key (f + t2) (t0 + 1) (valueIn key (f + t2) ct cv)).2 (addOf t3 (tagIn key (f + t2) ct cv)) (addOf t6 (tagIn key (f + t2) (cellOf key (f + t2) (t0 + 1) (valueIn key (f + t2) ct cv)).1 (cellOf key (f + t2) (t0 + 1) (valueIn key (f + t2) ct cv)).2)) (l.getD r 0) r bb oo l.length cap t0 t1 t2 t3 t4 t5 t6 w v0 hn hr hbb hcc R FC GC hw h3 hK)
      ·rw [if_neg h3]
       by_cases h4 : (addOf t3 (tagIn key (f + t2) ct cv)) = t4
       ·have hz : ((addOf t3 (tagIn key (f + t2) ct cv)) == t4) = true := by simpa using h4
        have h4' := h4
        unfold tagIn at h4'
        rw [if_pos h4']
        exact scanned_by key r ct cv (some ⟨bb, oo, none⟩) l cap t0 t1 t2 t3 t4 t5 t6 false (t0 + 1) (t1 + 1) 0 t5 (addOf t6 (tagIn key (f + t2) (cellOf key (f + t2) (t0 + 1) (valueIn key (f + t2) ct cv)).1 (cellOf key (f + t2) (t0 + 1) (valueIn key (f + t2) ct cv)).2)) 0 0 false (cellOf key (f + t2) (t0 + 1) (valueIn key (f + t2) ct cv)).1 (cellOf key (f + t2) (t0 + 1) (valueIn key (f + t2) ct cv)).2 5 w (fun v0 hK => scan_pass key ct cv f (cellOf key (f + t2) (t0 + 1) (valueIn key (f + t2) ct cv)).1 (cellOf key (f + t2) (t0 + 1) (valueIn key (f + t2) ct cv)).2 (addOf t3 (tagIn key (f + t2) ct cv)) (addOf t6 (tagIn key (f + t2) (cellOf key (f + t2) (t0 + 1) (valueIn key (f + t2) ct cv)).1 (cellOf key (f + t2) (t0 + 1) (valueIn key (f + t2) ct cv)).2)) (l.getD r 0) r bb oo l.length cap t0 t1 t2 t3 t4 t5 t6 w v0 hn hr hbb hcc R FC GC hw h3 hz hE.1 hE.2 hK)
       ·have hz : ((addOf t3 (tagIn key (f + t2) ct cv)) == t4) = false := by simpa using h4
        have h4' := h4
        unfold tagIn at h4'
        rw [if_neg h4']
        exact scanned_by key r ct cv (some ⟨bb, oo, none⟩) l cap t0 t1 t2 t3 t4 t5 t6 false (t0 + 1) t1 0 (addOf t3 (tagIn key (f + t2) ct cv)) t4 0 0 true (cellOf key (f + t2) (t0 + 1) (valueIn key (f + t2) ct cv)).1 (cellOf key (f + t2) (t0 + 1) (valueIn key (f + t2) ct cv)).2 4 w (fun v0 hK => scan_fail key ct cv f (cellOf key (f + t2) (t0 + 1) (valueIn key (f + t2) ct cv)).1 (cellOf key (f + t2) (t0 + 1) (valueIn key (f + t2) ct cv)).2 (addOf t3 (tagIn key (f + t2) ct cv)) (addOf t6 (tagIn key (f + t2) (cellOf key (f + t2) (t0 + 1) (valueIn key (f + t2) ct cv)).1 (cellOf key (f + t2) (t0 + 1) (valueIn key (f + t2) ct cv)).2)) (l.getD r 0) r bb oo l.length cap t0 t1 t2 t3 t4 t5 t6 w v0 hn hr hbb hcc R FC GC hw h3 hz hK)
 ·rw [if_neg h]
  exact scanned_by key x ct cv A l cap t0 t1 t2 t3 t4 t5 t6 t7 0 0 0 0 0 0 0 false 0 0 1 w (fun v0 hK => scan_refused a0 a1 a2 a3 a0 key x ct cv A l cap t0 t1 t2 t3 t4 t5 t6 t7 0 0 0 0 0 0 0 false 0 0 1 w v0 he (fun u hb => scanRef_bad a0 a1 a2 a3 key x ct cv A l cap t0 t1 t2 t3 t4 t5 t6 t7 u hn hcap (IA u hb) hct hcv (he.below hb) h) (fun u r he hr => codeOf_0 r a0 a1 a2 a3 _ u he hr) hK)
def sumTo (f : Nat → Int) : Nat → Int
 | 0 => 0
 | n + 1 => sumTo f n + f n
theorem sumTo_set {f g : Nat → Int} {k : Nat} (h : ∀ i, i ≠ k → g i = f i) (n : Nat) : sumTo g n = sumTo f n + (if k < n then g k - f k else 0) := by
 induction n with
 | zero => simp [sumTo]
 | succ n ih =>
   simp only [sumTo]
   rw [ih]
   rcases Nat.lt_trichotomy k n with hl | rfl | hl
   ·rw [if_pos hl, if_pos (by omega), h n (by omega)]; omega
   ·rw [if_neg (by omega), if_pos (by omega)]; omega
   ·rw [if_neg (by omega), if_neg (by omega), h n (by omega)]; omega
theorem addOf_mod {a b : Int} (ha : isSumP a) (hb : isSumP b) : isSumP (addOf a b) ∧ ∃ z : Int, addOf a b = a + b + 4611686018427387904 * z := by
 unfold isSumP at *
 unfold addOf
 rw [if_pos ⟨ha, hb⟩]
 exact ⟨by omega, -((a + b) / 4611686018427387904), by omega⟩
theorem getD_set {L : List Ce} {k i : Nat} {x : Ce} (hk : k < L.length) : (L.set k x).getD i (0, 0) = if i = k then x else L.getD i (0, 0) := by
 rw [List.getD_eq_getElem?_getD, List.getD_eq_getElem?_getD, List.getElem?_set]
 by_cases h : i = k
 ·subst h; simp [hk]
 ·have h' : ¬ k = i := fun e => h e.symm
  simp [h, h']
noncomputable def tagAt (key : Int) (L : List Ce) (i : Nat) : Int := tagIn key i (L.getD i (0, 0)).1 (L.getD i (0, 0)).2
theorem tagAt_set {key : Int} {L : List Ce} {k : Nat} {x : Ce} (hk : k < L.length) (i : Nat) (h : i ≠ k) : tagAt key (L.set k x) i = tagAt key L i := by
 unfold tagAt; rw [getD_set hk, if_neg h]
theorem tagAt_here {key : Int} {L : List Ce} {k : Nat} {x : Ce} (hk : k < L.length) : tagAt key (L.set k x) k = tagIn key k x.1 x.2 := by
 unfold tagAt; rw [getD_set hk, if_pos rfl]
theorem tagIn_sum {key a t v : Int} (hk : isKey key) (ha : isAt a) (h : isCell t v) : isSumP (tagIn key a t v) := tripleIn_tag hk ha h
structure Kp (key : Int) (c : Nat) (d : Int) (T : Tru) (L : List Ce) : Prop where
 hk : 1 ≤ key ∧ key ≤ 1000
 hc : 1 ≤ c ∧ c ≤ 5
 len : L.length = c
 fl : T.failed = false
 ok : trustOk key [(c : Int)] 0 T
 cl : ∀ i, i < c → isCell (L.getD i (0, 0)).1 (L.getD i (0, 0)).2 ∧ (L.getD i (0, 0)).1 ≤ T.clock
 now : ∃ z : Int, T.written + d = T.read + (sumTo (tagAt key L) c - sumTo (tagAt key L) T.cursor.toNat) + 4611686018427387904 * z
 nxt : ∃ z : Int, T.nwritten = T.nread + sumTo (tagAt key L) T.cursor.toNat + 4611686018427387904 * z
variable {key d : Int} {c : Nat} {T : Tru} {L : List Ce}
theorem upTo_one (c : Nat) : upTo [(c : Int)] 1 = c := by simp [upTo]
theorem plan_one (hk : 1 ≤ key ∧ key ≤ 1000) (hc : 1 ≤ c ∧ c ≤ 5) : planOk key [(c : Int)] := by
 refine ⟨⟨by omega, by omega⟩, ⟨by simp, by simp⟩, ?_, ?_⟩
 ·intro i hi
  obtain rfl : i = 0 := by simp at hi; omega
  simp; omega
 ·show upTo [(c : Int)] 1 ≤ 24
  rw [upTo_one]; omega
theorem region_one (hk : 1 ≤ key ∧ key ≤ 1000) (hc : 1 ≤ c ∧ c ≤ 5) {a : Nat} (ha : a < c) : regionOf key [(c : Int)] a = 0 :=
 regionOf_yes (plan_one hk hc) (by omega) (.inl ⟨0, by simp, rfl, by rw [upTo_zero]; omega, by rw [upTo_one]; omega⟩)
theorem first_one (hk : 1 ≤ key ∧ key ≤ 1000) (hc : 1 ≤ c ∧ c ≤ 5) : firstOf key [(c : Int)] 0 = 0 := by
 have h := firstOf_yes (r := 0) (plan_one (c := c) hk hc) (by simp)
 rw [upTo_zero] at h
 exact h
theorem behind_one (hk : 1 ≤ key ∧ key ≤ 1000) (hc : 1 ≤ c ∧ c ≤ 5) {a : Nat} (ha : a < c) (k : Int) : behindB key [(c : Int)] k a = decide ((a : Int) < k) := by
 unfold behindB
 rw [region_one hk hc ha, first_one hk hc]
 simp
theorem Kp.cursor (h : Kp key c d T L) : 0 ≤ T.cursor ∧ T.cursor < c ∧ T.cursor.toNat < c ∧ ((T.cursor.toNat : Nat) : Int) = T.cursor := by
 have h1 := h.ok.2.2.2.2.1
 simp at h1
 omega
theorem Kp.key_ (h : Kp key c d T L) : isKey key := by have := h.hk; unfold isKey; omega
theorem Kp.at_ (h : Kp key c d T L) {a : Nat} (ha : a < c) : isAt a := by have := h.hc; unfold isAt; omega
theorem Kp.touch (h : Kp key c d T L) {a : Nat} (ha : a < c) {v : Int} (hv0 : -1 ≤ v) (hv1 : v ≤ 10006) (hcl : T.clock < 100000) :
    ∃ T' e0 e1 n, touched key [(c : Int)] T a (L.getD a (0, 0)).1 (L.getD a (0, 0)).2 v = (T', (e0, e1), n, 0) ∧ Kp key c d T' (L.set a (e0, e1)) ∧ T'.clock = T.clock + 1 ∧ T'.epoch = T.epoch ∧ T'.cursor = T.cursor := by
 have hr := region_one h.hk h.hc ha
 have hb := behind_one h.hk h.hc ha T.cursor
 obtain ⟨k0, k1, k2, k3⟩ := h.cursor
 have hkey := h.key_
 have hat := h.at_ ha
 have haL : a < L.length := by rw [h.len]; exact ha
 obtain ⟨hce, htm⟩ := h.cl a ha
 have hg0 : tagAt key L a = tagIn key a (L.getD a (0, 0)).1 (L.getD a (0, 0)).2 := rfl
 generalize hE : L.getD a (0, 0) = E at hce htm hg0 ⊢
 have hok : touchOk key [(c : Int)] T a E.1 E.2 v := by
  refine ⟨by rw [hr]; omega, by rw [hr]; exact h.ok, hce, ?_⟩
  by_cases hm : v = -1
  ·exact .inl hm
  ·exact .inr ⟨by omega, hv1⟩
 have hcl2 := h.ok.2.2.1
 have hne : ¬ T.failed = true := by rw [h.fl]; simp
 have htch : touched key [(c : Int)] T a E.1 E.2 v = (sumsT key ⟨T.clock + 1, T.epoch, T.cursor, T.read, T.written, T.nread, T.nwritten, false⟩ (decide ((a : Int) < T.cursor)) (tripleIn a E.1 E.2).1 (tripleIn a E.1 E.2).2.1 (tripleIn a E.1 E.2).2.2
       (tripleIn a (cellOf key a (T.clock + 1) (if v = -1 then valueIn key a E.1 E.2 else v)).1 (cellOf key a (T.clock + 1) (if v = -1 then valueIn key a E.1 E.2 else v)).2).1
       (tripleIn a (cellOf key a (T.clock + 1) (if v = -1 then valueIn key a E.1 E.2 else v)).1 (cellOf key a (T.clock + 1) (if v = -1 then valueIn key a E.1 E.2 else v)).2).2.1
       (tripleIn a (cellOf key a (T.clock + 1) (if v = -1 then valueIn key a E.1 E.2 else v)).1 (cellOf key a (T.clock + 1) (if v = -1 then valueIn key a E.1 E.2 else v)).2).2.2,
     cellOf key a (T.clock + 1) (if v = -1 then valueIn key a E.1 E.2 else v), valueIn key a E.1 E.2, 0) := by
  unfold touched
  rw [if_pos hok, if_neg hne, if_neg (by omega), if_neg (by omega), hb]
 have hri := touched_right (value := v) (plan_one h.hk h.hc) (by rw [hr]; omega) (by rw [hr]; exact h.ok) hce (by rw [htch]; simp)
 rw [hr] at hri
 have hvv : isVal (if v = -1 then valueIn key a E.1 E.2 else v) := by
  split
  ·rw [valueIn_yes hkey hat hce]; exact shownOf_val hkey hat hce
  ·exact ⟨by omega, hv1⟩
 have htm1 : isTm (T.clock + 1) := by unfold isTm at hcl2 ⊢; omega
 have hcell := cellOf_cell hkey hat htm1 hvv
 have hc0 : (cellOf key a (T.clock + 1) (if v = -1 then valueIn key a E.1 E.2 else v)).1 = T.clock + 1 := by rw [cellOf_yes hkey ⟨hat, htm1, hvv⟩]
 generalize cellOf key a (T.clock + 1) (if v = -1 then valueIn key a E.1 E.2 else v) = N at htch hcell hc0
 obtain ⟨e0, e1⟩ := N
 simp only [] at hcell hc0
 rw [htch] at hri ⊢
 refine ⟨_, e0, e1, _, rfl, ?_, ?_, ?_, ?_⟩
 rotate_left
 ·unfold sumsT; split <;> rfl
 ·unfold sumsT; split <;> rfl
 ·unfold sumsT; split <;> rfl
 have hs := sumTo_set (f := tagAt key L) (g := tagAt key (L.set a (e0, e1))) (k := a) (fun i hi => tagAt_set haL i hi)
 rw [tagAt_here haL, hg0] at hs
 have hg := tagIn_sum hkey hat hce
 have hg' := tagIn_sum hkey hat hcell
 obtain ⟨z1, hz1⟩ := h.now
 obtain ⟨z2, hz2⟩ := h.nxt
 have hS := h.ok.2.2.2.2.2.2
 have hclk : (sumsT key ⟨T.clock + 1, T.epoch, T.cursor, T.read, T.written, T.nread, T.nwritten, false⟩ (decide ((a : Int) < T.cursor)) (tripleIn a E.1 E.2).1 (tripleIn a E.1 E.2).2.1 (tripleIn a E.1 E.2).2.2 (tripleIn a e0 e1).1 (tripleIn a e0 e1).2.1 (tripleIn a e0 e1).2.2).clock = T.clock + 1 := by unfold sumsT; split <;> rfl
 have hcur : (sumsT key ⟨T.clock + 1, T.epoch, T.cursor, T.read, T.written, T.nread, T.nwritten, false⟩ (decide ((a : Int) < T.cursor)) (tripleIn a E.1 E.2).1 (tripleIn a E.1 E.2).2.1 (tripleIn a E.1 E.2).2.2 (tripleIn a e0 e1).1 (tripleIn a e0 e1).2.1 (tripleIn a e0 e1).2.2).cursor = T.cursor := by unfold sumsT; split <;> rfl
 refine ⟨h.hk, h.hc, by rw [List.length_set]; exact h.len, by unfold sumsT; split <;> rfl, hri.1, ?_, ?_, ?_⟩
 ·intro i hi
  rw [getD_set haL, hclk]
  split
  ·exact ⟨hcell, by simp only []; omega⟩
  ·obtain ⟨p, q⟩ := h.cl i hi
   exact ⟨p, by omega⟩
 ·rw [hcur, hs c, hs T.cursor.toNat, if_pos ha]
  rcases hB : decide ((a : Int) < T.cursor) with _ | _
  ·have := of_decide_eq_false hB
   rw [if_neg (by omega)]
   obtain ⟨-, y1, hy1⟩ := addOf_mod hS.1 hg
   obtain ⟨-, y2, hy2⟩ := addOf_mod hS.2.1 hg'
   unfold tagIn at hy1 hy2 ⊢
   refine ⟨z1 - y1 + y2, ?_⟩
   simp only [sumsT]
   rw [hy1, hy2]
   omega
  ·have := of_decide_eq_true hB
   rw [if_pos (by omega)]
   refine ⟨z1, ?_⟩
   simp only [sumsT]
   omega
 ·rw [hcur, hs T.cursor.toNat]
  rcases hB : decide ((a : Int) < T.cursor) with _ | _
  ·have := of_decide_eq_false hB
   rw [if_neg (by omega)]
   refine ⟨z2, ?_⟩
   simp only [sumsT]
   omega
  ·have := of_decide_eq_true hB
   rw [if_pos (by omega)]
   obtain ⟨-, y1, hy1⟩ := addOf_mod hS.2.2.1 hg
   obtain ⟨-, y2, hy2⟩ := addOf_mod hS.2.2.2 hg'
   unfold tagIn at hy1 hy2 ⊢
   refine ⟨z2 - y1 + y2, ?_⟩
   simp only [sumsT]
   rw [hy1, hy2]
   omega
noncomputable def midOf (key : Int) (T : Tru) (E N : Ce) : Tru := ⟨T.clock + 1, T.epoch, T.cursor + 1, addOf T.read (tagIn key T.cursor E.1 E.2), T.written, T.nread, addOf T.nwritten (tagIn key T.cursor N.1 N.2), false⟩
theorem Kp.scan (h : Kp key c d T L) (hcl : T.clock < 100000) (hep : T.epoch < 1000) :
    ∃ e0 e1, isCell e0 e1 ∧ e0 = T.clock + 1 ∧
      scanned key [(c : Int)] 0 T (L.getD T.cursor.toNat (0, 0)).1 (L.getD T.cursor.toNat (0, 0)).2 =
       (if T.cursor + 1 < c then (midOf key T (L.getD T.cursor.toNat (0, 0)) (e0, e1), (e0, e1), 0) else ((verdictOf (midOf key T (L.getD T.cursor.toNat (0, 0)) (e0, e1))).1, (e0, e1), (verdictOf (midOf key T (L.getD T.cursor.toNat (0, 0)) (e0, e1))).2)) := by
 obtain ⟨k0, k1, k2, k3⟩ := h.cursor
 have hkey := h.key_
 have hat : isAt T.cursor := by have := h.at_ k2; rw [k3] at this; exact this
 obtain ⟨hce, htm⟩ := h.cl _ k2
 have hcl2 := h.ok.2.2.1
 have hne : ¬ T.failed = true := by rw [h.fl]; simp
 generalize hE : L.getD T.cursor.toNat (0, 0) = E at hce htm ⊢
 have hvv : isVal (valueIn key T.cursor E.1 E.2) := by rw [valueIn_yes hkey hat hce]; exact shownOf_val hkey hat hce
 have htm1 : isTm (T.clock + 1) := by unfold isTm at hcl2 ⊢; omega
 have hcell := cellOf_cell hkey hat htm1 hvv
 have hc0 : (cellOf key T.cursor (T.clock + 1) (valueIn key T.cursor E.1 E.2)).1 = T.clock + 1 := by rw [cellOf_yes hkey ⟨hat, htm1, hvv⟩]
 have hmid : scanMid key [(c : Int)] 0 T E.1 E.2 = midOf key T E (cellOf key T.cursor (T.clock + 1) (valueIn key T.cursor E.1 E.2)) := by
  unfold scanMid midOf tagIn
  rw [first_one h.hk h.hc, h.fl]
  simp only [Int.zero_add]
 refine ⟨_, _, hcell, hc0, ?_⟩
 unfold scanned
 rw [if_pos ⟨h.ok, hce⟩, if_neg hne, if_neg (by omega), if_neg (by omega), hmid, first_one h.hk h.hc]
 simp only [Int.zero_add]
 rfl
theorem Kp.on (h : Kp key c d T L) (hcl : T.clock < 100000) (hep : T.epoch < 1000) {e0 e1 : Int} (hcell : isCell e0 e1) (he : e0 = T.clock + 1) (hlt : T.cursor + 1 < c) :
    Kp key c d (midOf key T (L.getD T.cursor.toNat (0, 0)) (e0, e1)) (L.set T.cursor.toNat (e0, e1)) := by
 obtain ⟨k0, k1, k2, k3⟩ := h.cursor
 have hkey := h.key_
 have hat := h.at_ k2
 have haL : T.cursor.toNat < L.length := by rw [h.len]; exact k2
 obtain ⟨hce, htm⟩ := h.cl _ k2
 have hs := sumTo_set (f := tagAt key L) (g := tagAt key (L.set T.cursor.toNat (e0, e1))) (k := T.cursor.toNat) (fun i hi => tagAt_set haL i hi)
 have hg0 : tagAt key L T.cursor.toNat = tagIn key T.cursor (L.getD T.cursor.toNat (0, 0)).1 (L.getD T.cursor.toNat (0, 0)).2 := by unfold tagAt; rw [k3]
 have hst : sumTo (tagAt key L) (T.cursor + 1).toNat = sumTo (tagAt key L) T.cursor.toNat + tagAt key L T.cursor.toNat := by
  rw [show (T.cursor + 1).toNat = T.cursor.toNat + 1 by omega]; rfl
 rw [tagAt_here haL, k3, hg0] at hs
 simp only [] at hs
 rw [k3] at hat
 rw [hg0] at hst
 have hg := tagIn_sum hkey hat hce
 have hg' := tagIn_sum hkey hat hcell
 obtain ⟨z1, hz1⟩ := h.now
 obtain ⟨z2, hz2⟩ := h.nxt
 have hS := h.ok.2.2.2.2.2.2
 have hcl2 := h.ok.2.2.1
 have hep2 := h.ok.2.2.2.1
 obtain ⟨a1, y1, hy1⟩ := addOf_mod hS.1 hg
 obtain ⟨a2, y2, hy2⟩ := addOf_mod hS.2.2.2 hg'
 refine ⟨h.hk, h.hc, by rw [List.length_set]; exact h.len, rfl, ⟨h.ok.1, h.ok.2.1, by unfold midOf isTm at *; simp only []; omega, hep2, ⟨by simp only [midOf]; omega, by simp only [midOf]; simp; omega⟩, fun e => by simp only [midOf] at e; omega, a1, hS.2.1, hS.2.2.1, a2⟩, ?_, ?_, ?_⟩
 ·intro i hi
  rw [getD_set haL]
  simp only [midOf]
  split
  ·exact ⟨hcell, by simp only []; omega⟩
  ·obtain ⟨p, q⟩ := h.cl i hi
   exact ⟨p, by omega⟩
 ·simp only [midOf]
  rw [hs c, hs (T.cursor + 1).toNat, if_pos k2, if_pos (by omega), hst, hy1]
  exact ⟨z1 - y1, by omega⟩
 ·simp only [midOf]
  rw [hs (T.cursor + 1).toNat, if_pos (by omega), hst, hy2]
  exact ⟨z2 + y2, by omega⟩
theorem Kp.pass (h : Kp key c 0 T L) (hcl : T.clock < 100000) (hep : T.epoch < 1000) {e0 e1 : Int} (hcell : isCell e0 e1) (he : e0 = T.clock + 1) (hlt : ¬ T.cursor + 1 < c) :
    ∃ T', verdictOf (midOf key T (L.getD T.cursor.toNat (0, 0)) (e0, e1)) = (T', 5) ∧ Kp key c 0 T' (L.set T.cursor.toNat (e0, e1)) ∧ T'.clock = T.clock + 1 ∧ T'.epoch = T.epoch + 1 ∧ T'.cursor = 0 := by
 obtain ⟨k0, k1, k2, k3⟩ := h.cursor
 have hkey := h.key_
 have hat := h.at_ k2
 have haL : T.cursor.toNat < L.length := by rw [h.len]; exact k2
 obtain ⟨hce, htm⟩ := h.cl _ k2
 have hs := sumTo_set (f := tagAt key L) (g := tagAt key (L.set T.cursor.toNat (e0, e1))) (k := T.cursor.toNat) (fun i hi => tagAt_set haL i hi)
 have hg0 : tagAt key L T.cursor.toNat = tagIn key T.cursor (L.getD T.cursor.toNat (0, 0)).1 (L.getD T.cursor.toNat (0, 0)).2 := by unfold tagAt; rw [k3]
 have hcc : c = T.cursor.toNat + 1 := by omega
 have hst : sumTo (tagAt key L) c = sumTo (tagAt key L) T.cursor.toNat + tagAt key L T.cursor.toNat := by
  rw [hcc]; rfl
 rw [tagAt_here haL, k3, hg0] at hs
 simp only [] at hs
 rw [k3] at hat
 rw [hg0] at hst
 have hg := tagIn_sum hkey hat hce
 have hg' := tagIn_sum hkey hat hcell
 obtain ⟨z1, hz1⟩ := h.now
 obtain ⟨z2, hz2⟩ := h.nxt
 have hS := h.ok.2.2.2.2.2.2
 have hcl2 := h.ok.2.2.1
 have hep2 := h.ok.2.2.2.1
 obtain ⟨a1, y1, hy1⟩ := addOf_mod hS.1 hg
 obtain ⟨a2, y2, hy2⟩ := addOf_mod hS.2.2.2 hg'
 have heq : addOf T.read (tagIn key T.cursor (L.getD T.cursor.toNat (0, 0)).1 (L.getD T.cursor.toNat (0, 0)).2) = T.written := by
  have w := hS.2.1
  unfold isSumP at w a1
  omega
 have z : isSumP 0 := by unfold isSumP; omega
 refine ⟨_, by unfold verdictOf midOf; simp only []; rw [if_pos heq], ?_, rfl, rfl, rfl⟩
 refine ⟨h.hk, h.hc, by rw [List.length_set]; exact h.len, rfl, ⟨h.ok.1, h.ok.2.1, by unfold isTm at *; simp only []; omega, ⟨by simp only []; omega, by simp only []; omega⟩, ⟨by simp, by have := h.hc; simp; omega⟩, fun e => ⟨rfl, rfl⟩, hS.2.2.1, a2, z, z⟩, ?_, ?_, ?_⟩
 ·intro i hi
  rw [getD_set haL]
  simp only []
  split
  ·exact ⟨hcell, by simp only []; omega⟩
  ·obtain ⟨p, q⟩ := h.cl i hi
   exact ⟨p, by omega⟩
 ·simp only [Int.toNat_zero]
  rw [hs c, if_pos k2, hst, hy2]
  exact ⟨z2 + y2, by simp only [sumTo]; omega⟩
 ·simp only [Int.toNat_zero]
  exact ⟨0, by simp only [sumTo]; omega⟩
theorem Kp.caught (h : Kp key c d T L) (hd : ∀ z : Int, d ≠ 4611686018427387904 * z) (hlt : ¬ T.cursor + 1 < c) {e0 e1 : Int} :
    ∃ T', verdictOf (midOf key T (L.getD T.cursor.toNat (0, 0)) (e0, e1)) = (T', 4) ∧ T'.failed = true := by
 obtain ⟨k0, k1, k2, k3⟩ := h.cursor
 have hkey := h.key_
 have hat := h.at_ k2
 obtain ⟨hce, htm⟩ := h.cl _ k2
 have hg0 : tagAt key L T.cursor.toNat = tagIn key T.cursor (L.getD T.cursor.toNat (0, 0)).1 (L.getD T.cursor.toNat (0, 0)).2 := by unfold tagAt; rw [k3]
 have hcc : c = T.cursor.toNat + 1 := by omega
 have hst : sumTo (tagAt key L) c = sumTo (tagAt key L) T.cursor.toNat + tagAt key L T.cursor.toNat := by
  rw [hcc]; rfl
 rw [k3] at hat
 rw [hg0] at hst
 have hg := tagIn_sum hkey hat hce
 obtain ⟨z1, hz1⟩ := h.now
 have hS := h.ok.2.2.2.2.2.2
 obtain ⟨a1, y1, hy1⟩ := addOf_mod hS.1 hg
 have hne : ¬ addOf T.read (tagIn key T.cursor (L.getD T.cursor.toNat (0, 0)).1 (L.getD T.cursor.toNat (0, 0)).2) = T.written := by
  intro e
  exact hd (z1 - y1) (by omega)
 exact ⟨_, by unfold verdictOf midOf; simp only []; rw [if_neg hne], rfl⟩
theorem cellsNew_get' (key f : Int) {n k : Nat} (h : k < n) : (cellsNew key f n).getD k (0, 0) = cellOf key (f + k) (k + 1) 0 := by
 rw [List.getD_eq_getElem?_getD]
 simp [cellsNew, h]
theorem sum_new (hk : 1 ≤ key ∧ key ≤ 1000) (hc : 1 ≤ c ∧ c ≤ 5) : ∀ n, n ≤ c → isSumP (sumOf key (trisNew key 0 n)) ∧ ∃ z : Int, sumOf key (trisNew key 0 n) = sumTo (tagAt key (cellsNew key 0 c)) n + 4611686018427387904 * z := by
 intro n
 have hkey : isKey key := by unfold isKey; omega
 induction n with
 | zero =>
   intro _
   have e : sumOf key (trisNew key 0 0) = 0 := by unfold sumOf; rw [if_pos (show 1 ≤ key ∧ key ≤ 1000000 from ⟨by omega, by omega⟩)]; rfl
   rw [e]
   exact ⟨by unfold isSumP; omega, 0, by simp [sumTo]⟩
 | succ n ih =>
   intro hn
   obtain ⟨i0, z, hz⟩ := ih (by omega)
   have e : sumOf key (trisNew key 0 (n + 1)) = addOf (sumOf key (trisNew key 0 n)) (tagAt key (cellsNew key 0 c) n) := by
    unfold tagAt tagIn sumOf
    rw [if_pos (show 1 ≤ key ∧ key ≤ 1000000 from ⟨by omega, by omega⟩), if_pos (show 1 ≤ key ∧ key ≤ 1000000 from ⟨by omega, by omega⟩), trisNew_succ, sumAll_snoc, cellsNew_get' key 0 (show n < c by omega), Int.zero_add]
   have hat : isAt n := by unfold isAt; omega
   have hce : isCell (cellOf key (n : Int) ((n : Int) + 1) 0).1 (cellOf key (n : Int) ((n : Int) + 1) 0).2 := cellOf_cell hkey hat (by unfold isTm; omega) (by unfold isVal; omega)
   have hg : isSumP (tagAt key (cellsNew key 0 c) n) := by
    unfold tagAt
    rw [cellsNew_get' key 0 (show n < c by omega), Int.zero_add]
    exact tagIn_sum hkey hat hce
   obtain ⟨a1, y1, hy1⟩ := addOf_mod i0 hg
   rw [e]
   refine ⟨a1, z + y1, ?_⟩
   rw [hy1, hz]
   simp only [sumTo]
   omega
theorem Kp.new (hk : 1 ≤ key ∧ key ≤ 1000) (hc : 1 ≤ c ∧ c ≤ 5) : Kp key c 0 ⟨c, 0, 0, 0, sumOf key (trisNew key 0 c), 0, 0, false⟩ (cellsNew key 0 c) := by
 have hkey : isKey key := by unfold isKey; omega
 have z : isSumP 0 := by unfold isSumP; omega
 obtain ⟨s0, zz, hz⟩ := sum_new hk hc c (Nat.le_refl _)
 refine ⟨hk, hc, cellsNew_length _ _ _, rfl, ⟨plan_one hk hc, ⟨by simp, by simp⟩, by unfold isTm; simp only []; omega, ⟨by simp, by simp⟩, ⟨by simp, by simp; omega⟩, fun _ => ⟨rfl, rfl⟩, z, s0, z, z⟩, ?_, ?_, ?_⟩
 ·intro i hi
  have hat : isAt i := by unfold isAt; omega
  have htm : isTm ((i : Int) + 1) := by unfold isTm; omega
  have hv : isVal 0 := by unfold isVal; omega
  rw [cellsNew_get' key 0 hi, Int.zero_add]
  refine ⟨cellOf_cell hkey hat htm hv, ?_⟩
  rw [cellOf_yes hkey ⟨hat, htm, hv⟩]
  simp only []
  omega
 ·exact ⟨zz, by simp only [Int.toNat_zero, sumTo]; omega⟩
 ·exact ⟨0, by simp only [Int.toNat_zero, sumTo]; omega⟩
theorem fine_4 {x y z u : Int} (hx : 0 ≤ x) (hy : 0 ≤ y) (hz : 0 ≤ z) (hu : 0 ≤ u) : Fine [x, y, z, u] := by
 intro i hi
 match i, hi with
 | 0, _ => exact hx
 | 1, _ => exact hy
 | 2, _ => exact hz
 | 3, _ => exact hu
theorem tag_other {a t v v' : Int} (hk : isKey key) (ha : isAt a) (h : isCell t v) (h' : isCell t v') (hne : v ≠ v') : tagIn key a t v ≠ tagIn key a t v' := by
 have h1 : isTri a t v := ⟨ha, h.1, h.2⟩
 have h2 : isTri a t v' := ⟨ha, h'.1, h'.2⟩
 unfold tagIn
 rw [tripleIn_yes h1, tripleIn_yes h2]
 show tagOf key a t v ≠ tagOf key a t v'
 obtain ⟨ha0, ha1⟩ := ha
 obtain ⟨⟨ht0, ht1⟩, hv0, hv1⟩ := h
 obtain ⟨-, hw0, hw1⟩ := h'
 rw [tagOf_yes h1, tagOf_yes h2, mixOf_yes hk.1 hk.2 (fine_4 (by omega) ha0 ht0 hv0), mixOf_yes hk.1 hk.2 (fine_4 (by omega) ha0 ht0 hw0)]
 have hk' := hk
 unfold isKey at hk'
 have y1 := roll_bd 137 2147483629 (11 + 2 * key) [2, a, t, v] (by omega) (by omega) (by omega)
 have y2 := roll_bd 137 2147483629 (11 + 2 * key) [2, a, t, v'] (by omega) (by omega) (by omega)
 have x1 : roll 131 2147483647 (7 + key) [2, a, t, v] = (roll 131 2147483647 (7 + key) [2, a, t] * 131 + v % 2147483647 + 1) % 2147483647 := rfl
 have x2 : roll 131 2147483647 (7 + key) [2, a, t, v'] = (roll 131 2147483647 (7 + key) [2, a, t] * 131 + v' % 2147483647 + 1) % 2147483647 := rfl
 rw [Int.emod_eq_of_lt hv0 (by omega)] at x1
 rw [Int.emod_eq_of_lt hw0 (by omega)] at x2
 generalize roll 131 2147483647 (7 + key) [2, a, t] * 131 = s at x1 x2
 generalize roll 137 2147483629 (11 + 2 * key) [2, a, t, v] = p at y1 ⊢
 generalize roll 137 2147483629 (11 + 2 * key) [2, a, t, v'] = q at y2 ⊢
 have hx : roll 131 2147483647 (7 + key) [2, a, t, v] ≠ roll 131 2147483647 (7 + key) [2, a, t, v'] := by rw [x1, x2]; omega
 generalize roll 131 2147483647 (7 + key) [2, a, t, v] = X at hx ⊢
 generalize roll 131 2147483647 (7 + key) [2, a, t, v'] = Y at hx ⊢
 clear x1 x2
 omega
theorem Kp.bend (h : Kp key c 0 T L) (h0 : T.cursor = 0) {b : Nat} (hb : b < c) {x : Int} (x0 : 1 ≤ x) (x1 : x ≤ 10006) :
    ∃ d, (∀ z : Int, d ≠ 4611686018427387904 * z) ∧ Kp key c d T (L.set b ((L.getD b (0, 0)).1, ((L.getD b (0, 0)).2 + x) % 10007)) := by
 have hkey := h.key_
 have hat := h.at_ hb
 have hbL : b < L.length := by rw [h.len]; exact hb
 obtain ⟨hce, htm⟩ := h.cl b hb
 have hg0 : tagAt key L b = tagIn key b (L.getD b (0, 0)).1 (L.getD b (0, 0)).2 := rfl
 have hs := sumTo_set (f := tagAt key L) (g := tagAt key (L.set b ((L.getD b (0, 0)).1, ((L.getD b (0, 0)).2 + x) % 10007))) (k := b) (fun i hi => tagAt_set hbL i hi)
 rw [tagAt_here hbL, hg0] at hs
 have hce' : isCell (L.getD b (0, 0)).1 (((L.getD b (0, 0)).2 + x) % 10007) := ⟨hce.1, by have := hce.2; unfold isVal at this ⊢; omega⟩
 have hne : (L.getD b (0, 0)).2 ≠ ((L.getD b (0, 0)).2 + x) % 10007 := by have := hce.2; unfold isVal at this; omega
 have ht := tag_other hkey hat hce hce' hne
 have hg := tagIn_sum hkey hat hce
 have hg' := tagIn_sum hkey hat hce'
 simp only [] at hs
 generalize tagIn key b (L.getD b (0, 0)).1 (L.getD b (0, 0)).2 = g at hs ht hg
 generalize tagIn key b (L.getD b (0, 0)).1 (((L.getD b (0, 0)).2 + x) % 10007) = g' at hs ht hg'
 refine ⟨g' - g, ?_, ?_⟩
 ·intro z e
  unfold isSumP at hg hg'
  omega
 ·obtain ⟨z1, hz1⟩ := h.now
  obtain ⟨z2, hz2⟩ := h.nxt
  refine ⟨h.hk, h.hc, by rw [List.length_set]; exact h.len, h.fl, h.ok, ?_, ?_, ?_⟩
  ·intro i hi
   rw [getD_set hbL]
   split
   ·exact ⟨hce', htm⟩
   ·exact h.cl i hi
  ·rw [h0, Int.toNat_zero] at hz1 ⊢
   rw [hs c, hs 0, if_pos hb, if_neg (by omega)]
   exact ⟨z1, by omega⟩
  ·rw [h0, Int.toNat_zero] at hz2 ⊢
   rw [hs 0, if_neg (by omega)]
   exact ⟨z2, by omega⟩
end Go.Proofs.YteopplldbcgjjaaGreatDoor.Mx

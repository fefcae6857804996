import Derived.Test.YteopplldbcgjjaaGreatDoorS12
import Derived.Test.YteopplldbcgjjaaGreatDoorS05
namespace Go.Proofs.YteopplldbcgjjaaGreatDoor.Mx
open Go.ChangeShapes Go.WideShapes Go.ChangeAt Go.RowKit
set_option linter.unusedVariables false
set_option maxRecDepth 20000 in
set_option maxHeartbeats 8000000 in
theorem scanned_by (key x ct cv : Int) (A : Option Addr) (l : List Int) (cap : Nat) (t0 t1 t2 t3 t4 t5 t6 : Int) (t7 : Bool) (s0 s1 s2 s3 s4 s5 s6 : Int) (s7 : Bool) (d1 d2 code : Int) (w : World)
    (S : ∀ u, Kept w [(w.heap.size + 1 + 1 + 1 + 1 + 1, 95, #[.int .i64 ct, .int .i64 cv]), (w.heap.size + 1 + 1 + 1 + 1, 30, #[.int .i64 0, .int .i64 0]), (w.heap.size + 1 + 1 + 1, 28, #[.int .i64 0, .int .i64 0, .int .i64 0, .int .i64 0, .int .i64 0, .int .i64 0, .int .i64 0, .bool false]), (w.heap.size + 1 + 1, 30, #[.int .i64 ct, .int .i64 cv]), (w.heap.size + 1, 28, #[.int .i64 t0, .int .i64 t1, .int .i64 t2, .int .i64 t3, .int .i64 t4, .int .i64 t5, .int .i64 t6, .bool t7]), (w.heap.size, 26, #[.int .i64 key, .slice A l.length cap])] u → Calls Tryz.prog 56 #[.pointer (some ⟨w.heap.size + 1, 0, none⟩), .agg #[.int .i64 key, .slice A l.length cap], .int .i64 x, .slice (some ⟨w.heap.size + 1 + 1 + 1 + 1 + 1, 0, none⟩) 1 1] u fun e w' => e = .returned (.int .i64 code) ∧ Kept w [(w.heap.size + 1 + 1 + 1 + 1 + 1, 95, #[.int .i64 d1, .int .i64 d2]), (w.heap.size + 1 + 1 + 1 + 1, 30, #[.int .i64 0, .int .i64 0]), (w.heap.size + 1 + 1 + 1, 28, #[.int .i64 0, .int .i64 0, .int .i64 0, .int .i64 0, .int .i64 0, .int .i64 0, .int .i64 0, .bool false]), (w.heap.size + 1 + 1, 30, #[.int .i64 ct, .int .i64 cv]), (w.heap.size + 1, 28, #[.int .i64 s0, .int .i64 s1, .int .i64 s2, .int .i64 s3, .int .i64 s4, .int .i64 s5, .int .i64 s6, .bool s7]), (w.heap.size, 26, #[.int .i64 key, .slice A l.length cap])] w') :
    Calls Tryz.prog 15 #[.agg #[.int .i64 key, .slice A l.length cap], .int .i64 x, .agg #[.int .i64 t0, .int .i64 t1, .int .i64 t2, .int .i64 t3, .int .i64 t4, .int .i64 t5, .int .i64 t6, .bool t7], .agg #[.int .i64 ct, .int .i64 cv]] w fun e w' => e = .returned (.tuple #[.agg #[.int .i64 s0, .int .i64 s1, .int .i64 s2, .int .i64 s3, .int .i64 s4, .int .i64 s5, .int .i64 s6, .bool s7], .agg #[.int .i64 d1, .int .i64 d2], .int .i64 code]) ∧ Below w.heap.size w w' := by
  have K0 := Lib.hid (show Kept w [(w.heap.size + 1 + 1 + 1 + 1 + 1, 95, #[.int .i64 ct, .int .i64 cv]), (w.heap.size + 1 + 1 + 1 + 1, 30, #[.int .i64 0, .int .i64 0]), (w.heap.size + 1 + 1 + 1, 28, #[.int .i64 0, .int .i64 0, .int .i64 0, .int .i64 0, .int .i64 0, .int .i64 0, .int .i64 0, .bool false]), (w.heap.size + 1 + 1, 30, #[.int .i64 ct, .int .i64 cv]), (w.heap.size + 1, 28, #[.int .i64 t0, .int .i64 t1, .int .i64 t2, .int .i64 t3, .int .i64 t4, .int .i64 t5, .int .i64 t6, .bool t7]), (w.heap.size, 26, #[.int .i64 key, .slice A l.length cap])] _ from (((((((Kept.refl w).put1 _ _ #[.int .i64 key, .slice A l.length cap] rfl).put1 _ _ #[.int .i64 t0, .int .i64 t1, .int .i64 t2, .int .i64 t3, .int .i64 t4, .int .i64 t5, .int .i64 t6, .bool t7] (by simp)).put1 _ _ #[.int .i64 ct, .int .i64 cv] (by simp)).put1 _ _ #[.int .i64 0, .int .i64 0, .int .i64 0, .int .i64 0, .int .i64 0, .int .i64 0, .int .i64 0, .bool false] (by simp)).put1 _ _ #[.int .i64 0, .int .i64 0] (by simp)).put1 _ _ #[.int .i64 ct, .int .i64 cv] (by simp)))
  have SC := Lib.hid S
  clear S
  go_enter Tryz.func15, Tryz.ntmps15
  go_upto_region 2 with fail
  have k0 := K0.out
  clear K0
  generalize World.alloc _ _ = w0 at k0 ⊢
  refine wp_region_class_tail (C := fun u => Kept w [(w.heap.size + 1 + 1 + 1 + 1 + 1, 95, #[.int .i64 ct, .int .i64 cv]), (w.heap.size + 1 + 1 + 1 + 1, 30, #[.int .i64 0, .int .i64 0]), (w.heap.size + 1 + 1 + 1, 28, #[.int .i64 0, .int .i64 0, .int .i64 0, .int .i64 0, .int .i64 0, .int .i64 0, .int .i64 0, .bool false]), (w.heap.size + 1 + 1, 30, #[.int .i64 ct, .int .i64 cv]), (w.heap.size + 1, 28, #[.int .i64 t0, .int .i64 t1, .int .i64 t2, .int .i64 t3, .int .i64 t4, .int .i64 t5, .int .i64 t6, .bool t7]), (w.heap.size, 26, #[.int .i64 key, .slice A l.length cap])] u) 3 (by kernel_rfl) (by kernel_rfl) k0.drew ?_
  clear k0
  simp only [List.take_succ_cons, List.take_zero, List.drop_succ_cons, List.drop_zero]
  iterate 3 (first
    | go_big_quiet_skip
    | (go_big_quiet_want
       go_big_quiet_op
       first
         | go_big_quiet_on
         | (apply Exists.intro
            refine ⟨fun u hu => ?_, ?_⟩
            · first
                | with_reducible rfl
                | (obtain ⟨kc0, kf0, kc1, kf1, kc2, kf2, kc3, kf3, kc4, kf4, kc5, kf5, -⟩ := hu.rd; go_simp; first | done | with_reducible rfl)
            go_big_quiet_on)))
  refine wpQuiet_nil ?_
  intro w1 k1
  obtain ⟨kc0, kf0, kc1, kf1, kc2, kf2, kc3, kf3, kc4, kf4, kc5, kf5, -⟩ := k1.rd
  go_wp2_with fail
  refine (SC.out _ k1).mono ?_; rintro e w2 ⟨rfl, k2⟩
  clear kc0 kf0 kc1 kf1 kc2 kf2 kc3 kf3 kc4 kf4 kc5 kf5
  clear k1 SC
  obtain ⟨kc0, kf0, kc1, kf1, kc2, kf2, kc3, kf3, kc4, kf4, kc5, kf5, -⟩ := k2.rd
  have K8 := Lib.hid k2
  clear k2
  go_upto_region 3 with fail
  go_region
  all_goals
    go_wp2_with fail
    obtain ⟨w9, e9, ⟨m0, m1, m2, m3, m4, m5, m6, m7, m8, m9⟩, hb⟩ := touch_end (x0 := .int .i64 s0) (x1 := .int .i64 s1) (x2 := .int .i64 s2) (x3 := .int .i64 s3) (x4 := .int .i64 s4) (x5 := .int .i64 s5) (x6 := .int .i64 s6) (x7 := .bool s7) (y0 := .int .i64 d1) (y1 := .int .i64 d2) (K8.out.at_ (p := w.heap.size + 1 + 1 + 1) (t := 28) (cs := #[.int .i64 0, .int .i64 0, .int .i64 0, .int .i64 0, .int .i64 0, .int .i64 0, .int .i64 0, .bool false]) (by simp)) (K8.out.at_ (p := w.heap.size + 1 + 1 + 1 + 1) (t := 30) (cs := #[.int .i64 0, .int .i64 0]) (by simp)) (by omega) K8.out.1 (by omega) (by omega)
    rw [e9]
    clear e9
    exact bodyPost_ret (v := (.tuple #[.agg #[.int .i64 s0, .int .i64 s1, .int .i64 s2, .int .i64 s3, .int .i64 s4, .int .i64 s5, .int .i64 s6, .bool s7], .agg #[.int .i64 d1, .int .i64 d2], .int .i64 code])) (by simp [results, Tryz.results15, go_sem, m0, m1, m2, m3, m4, m5, m6, m7, m8, m9]) rfl ⟨rfl, hb.drew⟩
theorem scanRef_bad (a0 a1 a2 a3 : Addr) (key x ct cv : Int) (A : Option Addr) (l : List Int) (cap : Nat) (t0 t1 t2 t3 t4 t5 t6 : Int) (t7 : Bool) (w : World) (hn : l.length ≤ 1048576) (hcap : l.length ≤ cap) (hA : Ints w .i64 w.heap.size A l) (hct : I64 ct) (hcv : I64 cv) (he : Errs w a0 a1 a2 a3) (h : ¬ scanOk key l x ⟨t0, t1, t2, t3, t4, t5, t6, t7⟩ ct cv) :
    Calls Tryz.prog 94 #[.agg #[.int .i64 key, .slice A l.length cap], .int .i64 x, .agg #[.int .i64 t0, .int .i64 t1, .int .i64 t2, .int .i64 t3, .int .i64 t4, .int .i64 t5, .int .i64 t6, .bool t7], .agg #[.int .i64 ct, .int .i64 cv]] w (RefQ w a0 0 0 0 0 0 0 0 false 0 0) := by
  have R := fun (u : World) (hb : Below w.heap.size w u) => refd_bad a0 a1 a2 a3 ct cv t0 t1 t2 t3 t4 t5 t6 t7 (t0 == 100000 || t1 == 1000) u (he.below hb)
  have hy := scanB_no h
  exact (refusedScan_on key x ct cv A l cap t0 t1 t2 t3 t4 t5 t6 t7 w (fun v w' => ∃ r, v = .iface 118 (.pointer (some ⟨r, 0, none⟩)) ∧ CellsAt w' r 122 #[.iface 212 (.pointer (some a0)), .int .i64 0, .int .i64 0, .int .i64 0, .int .i64 0, .int .i64 0, .int .i64 0, .int .i64 0, .bool false, .int .i64 0, .int .i64 0] ∧ Below w.heap.size w w') hn hcap hA hct hcv (fun u hb => by rw [hy]; exact (R u hb).mono (fun e w' ⟨r, he, hc, hb2⟩ => ⟨_, he, r, rfl, hc, hb.trans (hb2.mono hb.size)⟩))).mono (fun e w' ⟨v, he, r, hv, hc, hb⟩ => ⟨r, by rw [he, hv], hc, hb⟩)
theorem scanRef_failed (a0 a1 a2 a3 : Addr) (key x ct cv : Int) (A : Option Addr) (l : List Int) (cap : Nat) (t0 t1 t2 t3 t4 t5 t6 : Int) (w : World) (hn : l.length ≤ 1048576) (hcap : l.length ≤ cap) (hA : Ints w .i64 w.heap.size A l) (hct : I64 ct) (hcv : I64 cv) (he : Errs w a0 a1 a2 a3) (h : scanOk key l x ⟨t0, t1, t2, t3, t4, t5, t6, true⟩ ct cv) :
    Calls Tryz.prog 94 #[.agg #[.int .i64 key, .slice A l.length cap], .int .i64 x, .agg #[.int .i64 t0, .int .i64 t1, .int .i64 t2, .int .i64 t3, .int .i64 t4, .int .i64 t5, .int .i64 t6, .bool true], .agg #[.int .i64 ct, .int .i64 cv]] w (RefQ w a1 t0 t1 t2 t3 t4 t5 t6 true ct cv) := by
  have R := fun (u : World) (hb : Below w.heap.size w u) => refd_failed a0 a1 a2 a3 ct cv t0 t1 t2 t3 t4 t5 t6 (t0 == 100000 || t1 == 1000) u (he.below hb)
  have hy := scanB_yes h
  exact (refusedScan_on key x ct cv A l cap t0 t1 t2 t3 t4 t5 t6 true w (fun v w' => ∃ r, v = .iface 118 (.pointer (some ⟨r, 0, none⟩)) ∧ CellsAt w' r 122 #[.iface 212 (.pointer (some a1)), .int .i64 t0, .int .i64 t1, .int .i64 t2, .int .i64 t3, .int .i64 t4, .int .i64 t5, .int .i64 t6, .bool true, .int .i64 ct, .int .i64 cv] ∧ Below w.heap.size w w') hn hcap hA hct hcv (fun u hb => by rw [hy]; exact (R u hb).mono (fun e w' ⟨r, he, hc, hb2⟩ => ⟨_, he, r, rfl, hc, hb.trans (hb2.mono hb.size)⟩))).mono (fun e w' ⟨v, he, r, hv, hc, hb⟩ => ⟨r, by rw [he, hv], hc, hb⟩)
theorem scanRef_spent (a0 a1 a2 a3 : Addr) (key x ct cv : Int) (A : Option Addr) (l : List Int) (cap : Nat) (t0 t1 t2 t3 t4 t5 t6 : Int) (w : World) (hn : l.length ≤ 1048576) (hcap : l.length ≤ cap) (hA : Ints w .i64 w.heap.size A l) (hct : I64 ct) (hcv : I64 cv) (he : Errs w a0 a1 a2 a3) (h : scanOk key l x ⟨t0, t1, t2, t3, t4, t5, t6, false⟩ ct cv) (h1 : 100000 ≤ t0 ∨ 1000 ≤ t1) :
    Calls Tryz.prog 94 #[.agg #[.int .i64 key, .slice A l.length cap], .int .i64 x, .agg #[.int .i64 t0, .int .i64 t1, .int .i64 t2, .int .i64 t3, .int .i64 t4, .int .i64 t5, .int .i64 t6, .bool false], .agg #[.int .i64 ct, .int .i64 cv]] w (RefQ w a2 t0 t1 t2 t3 t4 t5 t6 false ct cv) := by
  have R := fun (u : World) (hb : Below w.heap.size w u) => refd_spent a0 a1 a2 a3 ct cv t0 t1 t2 t3 t4 t5 t6  u (he.below hb)
  have hy := scanB_yes h
  have ht0 := h.1.2.2.1.2
  have ht1 := h.1.2.2.2.1.2
  simp only [] at ht0 ht1
  have hs : (t0 == 100000 || t1 == 1000) = true := by simp; omega
  exact (refusedScan_on key x ct cv A l cap t0 t1 t2 t3 t4 t5 t6 false w (fun v w' => ∃ r, v = .iface 118 (.pointer (some ⟨r, 0, none⟩)) ∧ CellsAt w' r 122 #[.iface 212 (.pointer (some a2)), .int .i64 t0, .int .i64 t1, .int .i64 t2, .int .i64 t3, .int .i64 t4, .int .i64 t5, .int .i64 t6, .bool false, .int .i64 ct, .int .i64 cv] ∧ Below w.heap.size w w') hn hcap hA hct hcv (fun u hb => by rw [hy, hs]; exact (R u hb).mono (fun e w' ⟨r, he, hc, hb2⟩ => ⟨_, he, r, rfl, hc, hb.trans (hb2.mono hb.size)⟩))).mono (fun e w' ⟨v, he, r, hv, hc, hb⟩ => ⟨r, by rw [he, hv], hc, hb⟩)
theorem scanRef_caught (a0 a1 a2 a3 : Addr) (key x ct cv : Int) (A : Option Addr) (l : List Int) (cap : Nat) (t0 t1 t2 t3 t4 t5 t6 : Int) (w : World) (hn : l.length ≤ 1048576) (hcap : l.length ≤ cap) (hA : Ints w .i64 w.heap.size A l) (hct : I64 ct) (hcv : I64 cv) (he : Errs w a0 a1 a2 a3) (h : scanOk key l x ⟨t0, t1, t2, t3, t4, t5, t6, false⟩ ct cv) (h1 : ¬ (100000 ≤ t0 ∨ 1000 ≤ t1)) (h2 : t0 < ct) :
    Calls Tryz.prog 94 #[.agg #[.int .i64 key, .slice A l.length cap], .int .i64 x, .agg #[.int .i64 t0, .int .i64 t1, .int .i64 t2, .int .i64 t3, .int .i64 t4, .int .i64 t5, .int .i64 t6, .bool false], .agg #[.int .i64 ct, .int .i64 cv]] w (RefQ w a3 t0 t1 t2 t3 t4 t5 t6 true ct cv) := by
  have R := fun (u : World) (hb : Below w.heap.size w u) => refd_caught a0 a1 a2 a3 ct cv t0 t1 t2 t3 t4 t5 t6  u (he.below hb) h2
  have hy := scanB_yes h
  have ht0 := h.1.2.2.1.2
  have ht1 := h.1.2.2.2.1.2
  simp only [] at ht0 ht1
  have hs : (t0 == 100000 || t1 == 1000) = false := by simp; omega
  exact (refusedScan_on key x ct cv A l cap t0 t1 t2 t3 t4 t5 t6 false w (fun v w' => ∃ r, v = .iface 118 (.pointer (some ⟨r, 0, none⟩)) ∧ CellsAt w' r 122 #[.iface 212 (.pointer (some a3)), .int .i64 t0, .int .i64 t1, .int .i64 t2, .int .i64 t3, .int .i64 t4, .int .i64 t5, .int .i64 t6, .bool true, .int .i64 ct, .int .i64 cv] ∧ Below w.heap.size w w') hn hcap hA hct hcv (fun u hb => by rw [hy, hs]; exact (R u hb).mono (fun e w' ⟨r, he, hc, hb2⟩ => ⟨_, he, r, rfl, hc, hb.trans (hb2.mono hb.size)⟩))).mono (fun e w' ⟨v, he, r, hv, hc, hb⟩ => ⟨r, by rw [he, hv], hc, hb⟩)
theorem scanRef_none (a0 a1 a2 a3 : Addr) (key x ct cv : Int) (A : Option Addr) (l : List Int) (cap : Nat) (t0 t1 t2 t3 t4 t5 t6 : Int) (w : World) (hn : l.length ≤ 1048576) (hcap : l.length ≤ cap) (hA : Ints w .i64 w.heap.size A l) (hct : I64 ct) (hcv : I64 cv) (he : Errs w a0 a1 a2 a3) (h : scanOk key l x ⟨t0, t1, t2, t3, t4, t5, t6, false⟩ ct cv) (h1 : ¬ (100000 ≤ t0 ∨ 1000 ≤ t1)) (h2 : ¬ t0 < ct) :
    Calls Tryz.prog 94 #[.agg #[.int .i64 key, .slice A l.length cap], .int .i64 x, .agg #[.int .i64 t0, .int .i64 t1, .int .i64 t2, .int .i64 t3, .int .i64 t4, .int .i64 t5, .int .i64 t6, .bool false], .agg #[.int .i64 ct, .int .i64 cv]] w (fun e w' => e = .returned .nilIface ∧ Below w.heap.size w w') := by
  have R := fun (u : World) (hb : Below w.heap.size w u) => refd_none a0 a1 a2 a3 ct cv t0 t1 t2 t3 t4 t5 t6  u (he.below hb) h2
  have hy := scanB_yes h
  have ht0 := h.1.2.2.1.2
  have ht1 := h.1.2.2.2.1.2
  simp only [] at ht0 ht1
  have hs : (t0 == 100000 || t1 == 1000) = false := by simp; omega
  exact (refusedScan_on key x ct cv A l cap t0 t1 t2 t3 t4 t5 t6 false w (fun v w' => v = .nilIface ∧ Below w.heap.size w w') hn hcap hA hct hcv (fun u hb => by rw [hy, hs]; exact (R u hb).mono (fun e w' ⟨he, hb2⟩ => ⟨_, he, rfl, hb.trans (hb2.mono hb.size)⟩))).mono (fun e w' ⟨v, he, hv, hb⟩ => ⟨by rw [he, hv], hb⟩)
set_option maxHeartbeats 2000000 in
theorem implScanned_calls (a0 a1 a2 a3 : Addr) (key x ct cv : Int) (A : Option Addr) (l : List Int) (cap : Nat) (t0 t1 t2 t3 t4 t5 t6 : Int) (t7 : Bool) (w : World) (hn : l.length ≤ 1048576) (hcap : l.length ≤ cap) (hA : Ints w .i64 w.heap.size A l) (hct : I64 ct) (hcv : I64 cv) (he : Errs w a0 a1 a2 a3) :
    Calls Tryz.prog 15 #[.agg #[.int .i64 key, .slice A l.length cap], .int .i64 x, .agg #[.int .i64 t0, .int .i64 t1, .int .i64 t2, .int .i64 t3, .int .i64 t4, .int .i64 t5, .int .i64 t6, .bool t7], .agg #[.int .i64 ct, .int .i64 cv]] w fun e w' => e = .returned (.tuple #[.agg #[.int .i64 (scanned key l x ⟨t0, t1, t2, t3, t4, t5, t6, t7⟩ ct cv).1.clock, .int .i64 (scanned key l x ⟨t0, t1, t2, t3, t4, t5, t6, t7⟩ ct cv).1.epoch, .int .i64 (scanned key l x ⟨t0, t1, t2, t3, t4, t5, t6, t7⟩ ct cv).1.cursor, .int .i64 (scanned key l x ⟨t0, t1, t2, t3, t4, t5, t6, t7⟩ ct cv).1.read, .int .i64 (scanned key l x ⟨t0, t1, t2, t3, t4, t5, t6, t7⟩ ct cv).1.written, .int .i64 (scanned key l x ⟨t0, t1, t2, t3, t4, t5, t6, t7⟩ ct cv).1.nread, .int .i64 (scanned key l x ⟨t0, t1, t2, t3, t4, t5, t6, t7⟩ ct cv).1.nwritten, .bool (scanned key l x ⟨t0, t1, t2, t3, t4, t5, t6, t7⟩ ct cv).1.failed], .agg #[.int .i64 (scanned key l x ⟨t0, t1, t2, t3, t4, t5, t6, t7⟩ ct cv).2.1.1, .int .i64 (scanned key l x ⟨t0, t1, t2, t3, t4, t5, t6, t7⟩ ct cv).2.1.2], .int .i64 (scanned key l x ⟨t0, t1, t2, t3, t4, t5, t6, t7⟩ ct cv).2.2]) ∧ Below w.heap.size w w' := by
  have IA := fun (u : World) (hb : Below w.heap.size w u) => (hA.below hb (Nat.le_refl _)).more hb.size
  unfold scanned
  by_cases h : scanOk key l x ⟨t0, t1, t2, t3, t4, t5, t6, t7⟩ ct cv
  · rw [if_pos h]
    cases t7 with
    | true =>
      rw [if_pos rfl]
      exact scanned_by key x ct cv A l cap t0 t1 t2 t3 t4 t5 t6 true t0 t1 t2 t3 t4 t5 t6 true ct cv 2 w (fun v0 hK => scan_refused a0 a1 a2 a3 a1 key x ct cv A l cap t0 t1 t2 t3 t4 t5 t6 true t0 t1 t2 t3 t4 t5 t6 true ct cv 2 w v0 he (fun u hb => scanRef_failed a0 a1 a2 a3 key x ct cv A l cap t0 t1 t2 t3 t4 t5 t6 u hn hcap (IA u hb) hct hcv (he.below hb) h) (fun u r he hr => codeOf_1 r a0 a1 a2 a3 _ u he hr) hK)
    | false =>
      rw [if_neg (by simp)]
      by_cases h1 : 100000 ≤ t0 ∨ 1000 ≤ t1
      · rw [if_pos h1]
        exact scanned_by key x ct cv A l cap t0 t1 t2 t3 t4 t5 t6 false t0 t1 t2 t3 t4 t5 t6 false ct cv 3 w (fun v0 hK => scan_refused a0 a1 a2 a3 a2 key x ct cv A l cap t0 t1 t2 t3 t4 t5 t6 false t0 t1 t2 t3 t4 t5 t6 false ct cv 3 w v0 he (fun u hb => scanRef_spent a0 a1 a2 a3 key x ct cv A l cap t0 t1 t2 t3 t4 t5 t6 u hn hcap (IA u hb) hct hcv (he.below hb) h h1) (fun u r he hr => codeOf_2 r a0 a1 a2 a3 _ u he hr) hK)
      · rw [if_neg h1]
        by_cases h2 : t0 < ct
        · rw [if_pos h2]
          exact scanned_by key x ct cv A l cap t0 t1 t2 t3 t4 t5 t6 false t0 t1 t2 t3 t4 t5 t6 true ct cv 4 w (fun v0 hK => scan_refused a0 a1 a2 a3 a3 key x ct cv A l cap t0 t1 t2 t3 t4 t5 t6 false t0 t1 t2 t3 t4 t5 t6 true ct cv 4 w v0 he (fun u hb => scanRef_caught a0 a1 a2 a3 key x ct cv A l cap t0 t1 t2 t3 t4 t5 t6 u hn hcap (IA u hb) hct hcv (he.below hb) h h1 h2) (fun u r he hr => codeOf_3 r a0 a1 a2 a3 _ u he hr) hK)
        · rw [if_neg h2]
          obtain ⟨r, rfl⟩ : ∃ r : Nat, x = r := ⟨x.toNat, by have := h.1.2.1; omega⟩
          rw [Int.toNat_natCast]
          have hr : r < l.length := by have := h.1.2.1; omega
          have hk := h.1.1.1
          have hkey : I64 key := by exact ⟨by omega, by omega⟩
          have hf : 0 ≤ firstOf key l r ∧ firstOf key l r ≤ 32 := by
            rw [firstOf_yes h.1.1 hr]
            have h1 := upTo_bd h.1.1.2.2.1 (show r ≤ l.length by omega)
            have h2 := h.1.1.2.1.2
            omega
          have hT := h.1.2.2.1
          have hE := h.1.2.2.2.1
          have hC := h.1.2.2.2.2.1
          have h8 := h.1.1.2.2.1 r hr
          unfold isTm at hT
          rw [Int.toNat_natCast] at hC
          simp only [] at hT hE hC
          obtain ⟨bb, oo, rfl, hbb, hcc⟩ := hA r hr
          have FC := fun (u : World) (hb : Below w.heap.size w u) => firstOf_calls key r (some ⟨bb, oo, none⟩) l cap u (by unfold maxLen; omega) hcap (IA u hb)
          have R := fun (u : World) (hb : Below w.heap.size w u) => scanRef_none a0 a1 a2 a3 key r ct cv (some ⟨bb, oo, none⟩) l cap t0 t1 t2 t3 t4 t5 t6 u hn hcap (IA u hb) hct hcv (he.below hb) h h1 h2
          unfold verdictOf scanMid
          simp only []
          generalize firstOf key l r = f at hf FC ⊢
          have hw : IntKind.i64.wrap (f + t2) = f + t2 := IntWalk.i64_in _ (by omega)
          have GC := fun (u : World) (hc : CellsAt u (w.heap.size + 1) 28 #[.int .i64 t0, .int .i64 t1, .int .i64 t2, .int .i64 t3, .int .i64 t4, .int .i64 t5, .int .i64 t6, .bool false]) => goThrough_calls key (f + t2) ct cv (w.heap.size + 1) t0 t1 t2 t3 t4 t5 t6 false u hkey ⟨by omega, by omega⟩ hct hcv hT.1 hT.2 hC.1 (by omega) hc
          by_cases h3 : t2 + 1 < l.getD r 0
          · rw [if_pos h3]
            exact scanned_by key r ct cv (some ⟨bb, oo, none⟩) l cap t0 t1 t2 t3 t4 t5 t6 false (t0 + 1) t1 (t2 + 1) (addOf t3 (tagIn key (f + t2) ct cv)) t4 t5 (addOf t6 (tagIn key (f + t2) (cellOf key (f + t2) (t0 + 1) (valueIn key (f + t2) ct cv)).1 (cellOf key (f + t2) (t0 + 1) (valueIn key (f + t2) ct cv)).2)) false (cellOf key (f + t2) (t0 + 1) (valueIn key (f + t2) ct cv)).1 (cellOf key (f + t2) (t0 + 1) (valueIn key (f + t2) ct cv)).2 0 w (fun v0 hK => scan_on key ct cv f (cellOf key (f + t2) (t0 + 1) (valueIn key (f + t2) ct cv)).1 (cellOf key (f + t2) (t0 + 1) (valueIn key (f + t2) ct cv)).2 (addOf t3 (tagIn key (f + t2) ct cv)) (addOf t6 (tagIn key (f + t2) (cellOf key (f + t2) (t0 + 1) (valueIn key (f + t2) ct cv)).1 (cellOf key (f + t2) (t0 + 1) (valueIn key (f + t2) ct cv)).2)) (l.getD r 0) r bb oo l.length cap t0 t1 t2 t3 t4 t5 t6 w v0 hn hr hbb hcc R FC GC hw h3 hK)
          · rw [if_neg h3]
            by_cases h4 : (addOf t3 (tagIn key (f + t2) ct cv)) = t4
            · have hz : ((addOf t3 (tagIn key (f + t2) ct cv)) == t4) = true := by simpa using h4
              have h4' := h4
              unfold tagIn at h4'
              rw [if_pos h4']
              exact scanned_by key r ct cv (some ⟨bb, oo, none⟩) l cap t0 t1 t2 t3 t4 t5 t6 false (t0 + 1) (t1 + 1) 0 t5 (addOf t6 (tagIn key (f + t2) (cellOf key (f + t2) (t0 + 1) (valueIn key (f + t2) ct cv)).1 (cellOf key (f + t2) (t0 + 1) (valueIn key (f + t2) ct cv)).2)) 0 0 false (cellOf key (f + t2) (t0 + 1) (valueIn key (f + t2) ct cv)).1 (cellOf key (f + t2) (t0 + 1) (valueIn key (f + t2) ct cv)).2 5 w (fun v0 hK => scan_pass key ct cv f (cellOf key (f + t2) (t0 + 1) (valueIn key (f + t2) ct cv)).1 (cellOf key (f + t2) (t0 + 1) (valueIn key (f + t2) ct cv)).2 (addOf t3 (tagIn key (f + t2) ct cv)) (addOf t6 (tagIn key (f + t2) (cellOf key (f + t2) (t0 + 1) (valueIn key (f + t2) ct cv)).1 (cellOf key (f + t2) (t0 + 1) (valueIn key (f + t2) ct cv)).2)) (l.getD r 0) r bb oo l.length cap t0 t1 t2 t3 t4 t5 t6 w v0 hn hr hbb hcc R FC GC hw h3 hz hE.1 hE.2 hK)
            · have hz : ((addOf t3 (tagIn key (f + t2) ct cv)) == t4) = false := by simpa using h4
              have h4' := h4
              unfold tagIn at h4'
              rw [if_neg h4']
              exact scanned_by key r ct cv (some ⟨bb, oo, none⟩) l cap t0 t1 t2 t3 t4 t5 t6 false (t0 + 1) t1 0 (addOf t3 (tagIn key (f + t2) ct cv)) t4 0 0 true (cellOf key (f + t2) (t0 + 1) (valueIn key (f + t2) ct cv)).1 (cellOf key (f + t2) (t0 + 1) (valueIn key (f + t2) ct cv)).2 4 w (fun v0 hK => scan_fail key ct cv f (cellOf key (f + t2) (t0 + 1) (valueIn key (f + t2) ct cv)).1 (cellOf key (f + t2) (t0 + 1) (valueIn key (f + t2) ct cv)).2 (addOf t3 (tagIn key (f + t2) ct cv)) (addOf t6 (tagIn key (f + t2) (cellOf key (f + t2) (t0 + 1) (valueIn key (f + t2) ct cv)).1 (cellOf key (f + t2) (t0 + 1) (valueIn key (f + t2) ct cv)).2)) (l.getD r 0) r bb oo l.length cap t0 t1 t2 t3 t4 t5 t6 w v0 hn hr hbb hcc R FC GC hw h3 hz hK)
  · rw [if_neg h]
    exact scanned_by key x ct cv A l cap t0 t1 t2 t3 t4 t5 t6 t7 0 0 0 0 0 0 0 false 0 0 1 w (fun v0 hK => scan_refused a0 a1 a2 a3 a0 key x ct cv A l cap t0 t1 t2 t3 t4 t5 t6 t7 0 0 0 0 0 0 0 false 0 0 1 w v0 he (fun u hb => scanRef_bad a0 a1 a2 a3 key x ct cv A l cap t0 t1 t2 t3 t4 t5 t6 t7 u hn hcap (IA u hb) hct hcv (he.below hb) h) (fun u r he hr => codeOf_0 r a0 a1 a2 a3 _ u he hr) hK)
end Go.Proofs.YteopplldbcgjjaaGreatDoor.Mx
namespace Go.Proofs.YteopplldbcgjjaaGreatDoor.Mx
open Go.RowKit
set_option linter.unusedVariables false
def AndC (P Q : (Nat → Bool) → (Nat → Value) → World → Prop) (D : Nat → Bool) (γ : Nat → Value) (u : World) : Prop := P D γ u ∧ Q D γ u
def HoldC (k q : Nat) (P : Value → World → Prop) (D : Nat → Bool) (γ : Nat → Value) (u : World) : Prop := D k = true → D q = false → P (γ k) u
def ShX (k : Nat) (S : Value → Prop) (Sh : Nat → Value → Prop) : Nat → Value → Prop := fun i v => bif i == k then S v else Sh i v
theorem ShX.inh {k : Nat} {S : Value → Prop} {Sh : Nat → Value → Prop} (hS : ∃ v, S v) (h : ∀ i, ∃ v, Sh i v) (i : Nat) : ∃ v, ShX k S Sh i v := by
  unfold ShX
  cases i == k
  · exact h i
  · exact hS
namespace HoldC
variable {k q j : Nat} {P : Value → World → Prop} {D : Nat → Bool} {γ γ' : Nat → Value} {u u' : World} {x : Value}
theorem loc (ha : ∀ i, D i = true → γ i = γ' i) (h : HoldC k q P D γ u) : HoldC k q P D γ' u := fun hk hq => by rw [← ha k hk]; exact h hk hq
theorem start : HoldC k q P (fun _ => false) γ u := fun h => by cases h
theorem step (hP : ∀ v u u', Below u.heap.size u u' → P v u → P v u') (h : HoldC k q P D γ u) (hb : Below u.heap.size u u') (hj : j ≠ k) : HoldC k q P (setD D j) (setG γ j x) u' := by
  intro hk hq
  have hjk : ¬ k = j := fun e => hj e.symm
  have hk' : D k = true := by unfold setD at hk; simpa [hjk] using hk
  have hq' : D q = false := by unfold setD at hq; simp at hq; exact hq.2
  unfold setG
  rw [if_neg hjk]
  exact hP _ _ _ hb (h hk' hq')
theorem put (hx : P x u') : HoldC k q P (setD D k) (setG γ k x) u' := fun _ _ => by unfold setG; rw [if_pos rfl]; exact hx
theorem used : HoldC k q P (setD D q) γ' u' := fun _ h => by unfold setD at h; simp at h
theorem over (hq : D q = true) : HoldC k q P (setD D j) γ' u' := fun _ h => by unfold setD at h; simp [hq] at h
end HoldC
end Go.Proofs.YteopplldbcgjjaaGreatDoor.Mx

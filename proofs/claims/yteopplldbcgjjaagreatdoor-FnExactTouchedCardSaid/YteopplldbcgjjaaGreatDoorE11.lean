import Derived.Test.YteopplldbcgjjaaGreatDoorE01
import Derived.Test.YteopplldbcgjjaaGreatDoorE07
import Derived.Test.YteopplldbcgjjaaGreatDoorE08
import Derived.Test.YteopplldbcgjjaaGreatDoorE10
import Derived.Test.YteopplldbcgjjaaGreatDoorE06
namespace Go.Proofs.YteopplldbcgjjaaGreatDoor.Mx
open Go.ChangeShapes Go.WideShapes Go.ChangeAt Go.RowKit
set_option linter.unusedVariables false
def Errs (w : World) (a0 a1 a2 a3 : Addr) : Prop :=
  w.cell? ⟨4, 0, none⟩ = some hErr ∧ (w.cell? ⟨3, 0, none⟩ = some (.iface 212 (.pointer (some a0))) ∧ w.cell? ⟨0, 0, none⟩ = some (.iface 212 (.pointer (some a1))) ∧ w.cell? ⟨1, 0, none⟩ = some (.iface 212 (.pointer (some a2))) ∧ w.cell? ⟨2, 0, none⟩ = some (.iface 212 (.pointer (some a3)))) ∧
  (a0 ≠ a1 ∧ a0 ≠ a2 ∧ a0 ≠ a3 ∧ a1 ≠ a2 ∧ a1 ≠ a3 ∧ a2 ≠ a3) ∧
  (∃ c t, w.heap[a0.block]? = some (.cells c t (0, 0))) ∧ (∃ c t, w.heap[a1.block]? = some (.cells c t (0, 0))) ∧ (∃ c t, w.heap[a2.block]? = some (.cells c t (0, 0))) ∧ (∃ c t, w.heap[a3.block]? = some (.cells c t (0, 0)))
theorem cell_lt {w : World} {a : Addr} {v : Value} (h : w.cell? a = some v) : a.block < w.heap.size := by
  rcases Nat.lt_or_ge a.block w.heap.size with h' | h'
  · exact h'
  · simp [World.cell?, Array.getElem?_eq_none h'] at h
theorem Errs.below {w u : World} {a0 a1 a2 a3 : Addr} (h : Errs w a0 a1 a2 a3) (hb : Below w.heap.size w u) : Errs u a0 a1 a2 a3 := by
  obtain ⟨h0, ⟨g0, g1, g2, g3⟩, hn, ⟨c0, s0, r0⟩, ⟨c1, s1, r1⟩, ⟨c2, s2, r2⟩, ⟨c3, s3, r3⟩⟩ := h
  have K : ∀ {a : Addr} {v : Value}, w.cell? a = some v → u.cell? a = some v := fun hc => (hb.cell (cell_lt hc)).trans hc
  have R : ∀ {b : Nat} {o : Obj}, w.heap[b]? = some o → u.heap[b]? = some o := fun hc => (hb.block _ (Array.getElem?_eq_some_iff.1 hc).1).trans hc
  exact ⟨K h0, ⟨K g0, K g1, K g2, K g3⟩, hn, ⟨c0, s0, R r0⟩, ⟨c1, s1, R r1⟩, ⟨c2, s2, R r2⟩, ⟨c3, s3, R r3⟩⟩
theorem isValueB (s : Int) (w : World) : Calls Tryz.prog 69 #[.int .i64 s] w fun e w' => e = .returned (.bool (decide (isVal s))) ∧ w = w' := by
  by_cases h : isVal s
  · rw [decide_eq_true h]; exact isValue_yes s w h
  · rw [decide_eq_false h]; exact isValue_no s w h
open Classical in
noncomputable def touchB (key : Int) (l : List Int) (t : Tru) (x ct cv value : Int) : Bool := decide (touchOk key l t x ct cv value)
open Classical in
theorem touchB_yes {key : Int} {l : List Int} {t : Tru} {x ct cv value : Int} (h : touchOk key l t x ct cv value) : touchB key l t x ct cv value = true := by unfold touchB; exact decide_eq_true h
open Classical in
theorem touchB_no {key : Int} {l : List Int} {t : Tru} {x ct cv value : Int} (h : ¬ touchOk key l t x ct cv value) : touchB key l t x ct cv value = false := by unfold touchB; exact decide_eq_false h
set_option maxRecDepth 20000 in
set_option maxHeartbeats 2000000 in
theorem sumsAt_calls (p : Nat) (b : Bool) (w : World) :
    Calls Tryz.prog 35 #[.pointer (some ⟨p, 0, none⟩), .bool b] w fun e w' => e = .returned (.tuple #[.pointer (some ⟨p, bif b then 5 else 3, none⟩), .pointer (some ⟨p, bif b then 6 else 4, none⟩)]) ∧ Below w.heap.size w w' := by
  cases b
  · go_enter Tryz.func35, Tryz.ntmps35
    go_upto_region 3 with fail
    refine wp_region_class (C := fun u => Below w.heap.size w u) (by kernel_rfl) (by kernel_rfl) (Below.refl _ _).drew ?_
    iterate 8 (first
      | go_big_quiet_skip
      | (go_big_quiet_want
         go_big_quiet_op
         first
           | go_big_quiet_on
           | (apply Exists.intro
              refine ⟨fun u hu => ?_, ?_⟩
              · first
                  | with_reducible rfl
                  | (go_simp; first | done | with_reducible rfl)
              go_big_quiet_on)))
    refine wpQuiet_nil ?_
    intro wz hz
    go_wp2_with fail
    go_ret2
    exact ⟨rfl, hz⟩
  · go_enter Tryz.func35, Tryz.ntmps35
    go_upto_region 2 with fail
    refine wp_region_class (C := fun u => Below w.heap.size w u) (by kernel_rfl) (by kernel_rfl) (Below.refl _ _).drew ?_
    iterate 8 (first
      | go_big_quiet_skip
      | (go_big_quiet_want
         go_big_quiet_op
         first
           | go_big_quiet_on
           | (apply Exists.intro
              refine ⟨fun u hu => ?_, ?_⟩
              · first
                  | with_reducible rfl
                  | (go_simp; first | done | with_reducible rfl)
              go_big_quiet_on)))
    refine wpQuiet_nil ?_
    intro wz hz
    go_wp2_with fail
    go_ret2
    exact ⟨rfl, hz⟩
set_option maxRecDepth 20000 in
set_option maxHeartbeats 4000000 in
theorem take_calls (key a s ct cv : Int) (p k : Nat) (cs : Array Value) (w : World) (hkey : I64 key) (ha : I64 a) (hct : I64 ct) (hcv : I64 cv) (hp : CellsAt w p 28 cs) (ek : cs[k]? = some (.int .i64 s)) :
    Calls Tryz.prog 37 #[.pointer (some ⟨p, k, none⟩), .int .i64 key, .int .i64 a, .agg #[.int .i64 ct, .int .i64 cv]] w fun e w' =>
      e = .returned (.int .i64 (valueIn key a ct cv)) ∧ w.grownBy w' (some p) ∧ CellsAt w' p 28 (cs.setIfInBounds k (.int .i64 (addOf s (tagIn key a ct cv)))) := by
  have CA := Lib.hid (fun u => added_calls s key a ct cv u ha hct hcv)
  have CV := Lib.hid (fun u => ansValueIn key a ct cv u hkey ha hct hcv)
  generalize addOf s (tagIn key a ct cv) = z at CA ⊢
  generalize valueIn key a ct cv = y at CV ⊢
  have lp := hp.lt
  have P0 := Lib.hid (show CellsAt (w.alloc (.cells #[.int .i64 ct, .int .i64 cv] 30)) p 28 cs from hp.below (allocP w _) lp)
  have G0 := Lib.hid (show w.grownBy (w.alloc (.cells #[.int .i64 ct, .int .i64 cv] 30)) (some p) from gb_alloc (gb_refl w (some p)) _)
  have R0 := Lib.hid (show CellsAt (w.alloc (.cells #[.int .i64 ct, .int .i64 cv] 30)) w.heap.size 30 #[.int .i64 ct, .int .i64 cv] from CellsAt.new w _ _)
  have EK := Lib.hid ek
  clear hp hkey ha hct hcv ek
  go_enter Tryz.func37, Tryz.ntmps37
  go_upto_region 1 with fail
  have hp0 := P0.out
  have hg0 := G0.out
  have hr0 := R0.out
  clear P0 G0 R0
  generalize World.alloc _ _ = w0 at hp0 hg0 hr0 ⊢
  have CK : ∀ u, Below w0.heap.size w0 u → u.cell? ⟨p, k, none⟩ = some (.int .i64 s) ∧ (∀ i, u.frozen? ⟨p, i, none⟩ = false) ∧ (∀ i, u.cell? ⟨w.heap.size, i, none⟩ = #[.int .i64 ct, .int .i64 cv][i]?) := fun u hu =>
    ⟨((hp0.below hu hp0.lt).cell k).trans EK.out, (hp0.below hu hp0.lt).frozen, (hr0.below hu hr0.lt).cell⟩
  have HK := Lib.hid CK
  have HP := Lib.hid hp0
  have HG := Lib.hid hg0
  have HR := Lib.hid hr0
  clear CK hp0 hg0 hr0
  refine wp_region_class_tail (C := fun u => Below w0.heap.size w0 u) 9 (by kernel_rfl) (by kernel_rfl) (Below.refl _ _).drew ?_
  simp only [List.take_succ_cons, List.take_zero, List.drop_succ_cons, List.drop_zero]
  iterate 9 (first
    | go_big_quiet_skip
    | (go_big_quiet_want
       go_big_quiet_op
       first
         | go_big_quiet_on
         | (apply Exists.intro
            refine ⟨fun u hu => ?_, ?_⟩
            · first
                | with_reducible rfl
                | (go_at_call 73; refine (CA.out u).mono ?_; rintro e wx ⟨rfl, bx⟩; exact ⟨rfl, hu.trans (bx.mono hu.size)⟩)
                | (obtain ⟨ck, cf, cq⟩ := HK.out u hu; go_simp; first | done | with_reducible rfl)
            go_big_quiet_on)))
  refine wpQuiet_nil ?_
  intro w4 hb4
  obtain ⟨ck, cf, cq⟩ := HK.out w4 hb4
  have hne : ¬ p = w.heap.size := by omega
  have hp4 := HP.out.below hb4 HP.out.lt
  have hr4 := HR.out.below hb4 HR.out.lt
  have hg4 := gb_belowP HG.out (hb4.mono HG.out.size)
  clear HP HR HG HK CA hb4
  go_upto_region 2 with fail
  have hp5 := hp4.set_ k (.int .i64 z)
  have hr5 := hr4.grown (gb_set (gb_refl w4 (some p)) k (.int .i64 z)) (by intro e; injection e; omega)
  have hg5 := gb_set hg4 k (.int .i64 z)
  clear hp4 hr4 hg4 ck cf cq
  generalize World.setCell _ _ _ = w5 at hp5 hr5 hg5 ⊢
  have rc : ∀ i, w5.cell? ⟨w.heap.size, i, none⟩ = #[.int .i64 ct, .int .i64 cv][i]? := hr5.cell
  go_wp2_with fail
  refine (CV.out _).mono ?_; rintro e w6 ⟨rfl, b6⟩
  have hp6 := hp5.below b6 hp5.lt
  have hg6 := gb_belowP hg5 (b6.mono hg5.size)
  clear hp5 hg5 hr5 rc b6
  go_wp2_with fail
  go_ret
  exact ⟨rfl, hg6, hp6⟩
-- codeOf: of the sentinels, by their places
set_option maxRecDepth 20000 in
set_option maxHeartbeats 2000000 in
theorem codeOf_0 (r : Nat) (a0 a1 a2 a3 : Addr) (zs : List Value) (w : World) (he : Errs w a0 a1 a2 a3) (hr : CellsAt w r 122 (.iface 212 (.pointer (some a0)) :: zs).toArray) :
    Calls Tryz.prog 34 #[.iface 118 (.pointer (some ⟨r, 0, none⟩))] w fun e w' => e = .returned (.int .i64 1) ∧ w = w' := by
  obtain ⟨h0, ⟨g0, g1, g2, g3⟩, ⟨n01, n02, n03, n12, n13, n23⟩, ⟨c0, s0, r0⟩, ⟨c1, s1, r1⟩, ⟨c2, s2, r2⟩, ⟨c3, s3, r3⟩⟩ := he
  have hc : w.cell? ⟨r, 0, none⟩ = some (.iface 212 (.pointer (some a0))) := by rw [hr.cell 0]; simp
  have I1 := Lib.hid (is_other r a1 a0 c0 c1 s0 s1 w hc n01 r0 r1)
  have I2 := Lib.hid (is_other r a2 a0 c0 c2 s0 s2 w hc n02 r0 r2)
  have I3 := Lib.hid (is_other r a3 a0 c0 c3 s0 s3 w hc n03 r0 r3)
  clear hr hc h0 r0 r1 r2 r3 n01 n02 n03 n12 n13 n23
  go_enter Tryz.func34, Tryz.ntmps34
  go_wp2_with fail
  refine (I1.out).mono ?_; rintro e w' ⟨rfl, rfl⟩
  go_wp2_with fail
  refine (I2.out).mono ?_; rintro e w' ⟨rfl, rfl⟩
  go_wp2_with fail
  refine (I3.out).mono ?_; rintro e w' ⟨rfl, rfl⟩
  go_wp2_with fail
  go_ret
  exact ⟨rfl, rfl⟩
set_option maxRecDepth 20000 in
set_option maxHeartbeats 2000000 in
theorem codeOf_1 (r : Nat) (a0 a1 a2 a3 : Addr) (zs : List Value) (w : World) (he : Errs w a0 a1 a2 a3) (hr : CellsAt w r 122 (.iface 212 (.pointer (some a1)) :: zs).toArray) :
    Calls Tryz.prog 34 #[.iface 118 (.pointer (some ⟨r, 0, none⟩))] w fun e w' => e = .returned (.int .i64 2) ∧ w = w' := by
  obtain ⟨h0, ⟨g0, g1, g2, g3⟩, ⟨n01, n02, n03, n12, n13, n23⟩, ⟨c0, s0, r0⟩, ⟨c1, s1, r1⟩, ⟨c2, s2, r2⟩, ⟨c3, s3, r3⟩⟩ := he
  have hc : w.cell? ⟨r, 0, none⟩ = some (.iface 212 (.pointer (some a1))) := by rw [hr.cell 0]; simp
  have I1 := Lib.hid (is_same r a1 w hc)
  have I2 := Lib.hid (is_other r a2 a1 c1 c2 s1 s2 w hc n12 r1 r2)
  have I3 := Lib.hid (is_other r a3 a1 c1 c3 s1 s3 w hc n13 r1 r3)
  clear hr hc h0 r0 r1 r2 r3 n01 n02 n03 n12 n13 n23
  go_enter Tryz.func34, Tryz.ntmps34
  go_wp2_with fail
  refine (I1.out).mono ?_; rintro e w' ⟨rfl, rfl⟩
  go_wp2_with fail
  go_ret
  exact ⟨rfl, rfl⟩
set_option maxRecDepth 20000 in
set_option maxHeartbeats 2000000 in
theorem codeOf_2 (r : Nat) (a0 a1 a2 a3 : Addr) (zs : List Value) (w : World) (he : Errs w a0 a1 a2 a3) (hr : CellsAt w r 122 (.iface 212 (.pointer (some a2)) :: zs).toArray) :
    Calls Tryz.prog 34 #[.iface 118 (.pointer (some ⟨r, 0, none⟩))] w fun e w' => e = .returned (.int .i64 3) ∧ w = w' := by
  obtain ⟨h0, ⟨g0, g1, g2, g3⟩, ⟨n01, n02, n03, n12, n13, n23⟩, ⟨c0, s0, r0⟩, ⟨c1, s1, r1⟩, ⟨c2, s2, r2⟩, ⟨c3, s3, r3⟩⟩ := he
  have hc : w.cell? ⟨r, 0, none⟩ = some (.iface 212 (.pointer (some a2))) := by rw [hr.cell 0]; simp
  have I1 := Lib.hid (is_other r a1 a2 c2 c1 s2 s1 w hc n12.symm r2 r1)
  have I2 := Lib.hid (is_same r a2 w hc)
  have I3 := Lib.hid (is_other r a3 a2 c2 c3 s2 s3 w hc n23 r2 r3)
  clear hr hc h0 r0 r1 r2 r3 n01 n02 n03 n12 n13 n23
  go_enter Tryz.func34, Tryz.ntmps34
  go_wp2_with fail
  refine (I1.out).mono ?_; rintro e w' ⟨rfl, rfl⟩
  go_wp2_with fail
  refine (I2.out).mono ?_; rintro e w' ⟨rfl, rfl⟩
  go_wp2_with fail
  go_ret
  exact ⟨rfl, rfl⟩
set_option maxRecDepth 20000 in
set_option maxHeartbeats 2000000 in
theorem codeOf_3 (r : Nat) (a0 a1 a2 a3 : Addr) (zs : List Value) (w : World) (he : Errs w a0 a1 a2 a3) (hr : CellsAt w r 122 (.iface 212 (.pointer (some a3)) :: zs).toArray) :
    Calls Tryz.prog 34 #[.iface 118 (.pointer (some ⟨r, 0, none⟩))] w fun e w' => e = .returned (.int .i64 4) ∧ w = w' := by
  obtain ⟨h0, ⟨g0, g1, g2, g3⟩, ⟨n01, n02, n03, n12, n13, n23⟩, ⟨c0, s0, r0⟩, ⟨c1, s1, r1⟩, ⟨c2, s2, r2⟩, ⟨c3, s3, r3⟩⟩ := he
  have hc : w.cell? ⟨r, 0, none⟩ = some (.iface 212 (.pointer (some a3))) := by rw [hr.cell 0]; simp
  have I1 := Lib.hid (is_other r a1 a3 c3 c1 s3 s1 w hc n13.symm r3 r1)
  have I2 := Lib.hid (is_other r a2 a3 c3 c2 s3 s2 w hc n23.symm r3 r2)
  have I3 := Lib.hid (is_same r a3 w hc)
  clear hr hc h0 r0 r1 r2 r3 n01 n02 n03 n12 n13 n23
  go_enter Tryz.func34, Tryz.ntmps34
  go_wp2_with fail
  refine (I1.out).mono ?_; rintro e w' ⟨rfl, rfl⟩
  go_wp2_with fail
  refine (I2.out).mono ?_; rintro e w' ⟨rfl, rfl⟩
  go_wp2_with fail
  refine (I3.out).mono ?_; rintro e w' ⟨rfl, rfl⟩
  go_wp2_with fail
  go_ret
  exact ⟨rfl, rfl⟩
set_option maxRecDepth 20000 in
set_option maxHeartbeats 8000000 in
theorem leftBy_calls (r : Nat) (a : Addr) (t0 t1 t2 t3 t4 t5 t6 : Int) (t7 : Bool) (ct cv : Int) (w : World) (hg : w.cell? ⟨4, 0, none⟩ = some hErr) (hr : CellsAt w r 122 #[.iface 212 (.pointer (some a)), .int .i64 t0, .int .i64 t1, .int .i64 t2, .int .i64 t3, .int .i64 t4, .int .i64 t5, .int .i64 t6, .bool t7, .int .i64 ct, .int .i64 cv]) :
    Calls Tryz.prog 33 #[.iface 118 (.pointer (some ⟨r, 0, none⟩))] w fun e w' => e = .returned (.tuple #[.agg #[.int .i64 t0, .int .i64 t1, .int .i64 t2, .int .i64 t3, .int .i64 t4, .int .i64 t5, .int .i64 t6, .bool t7], .agg #[.int .i64 ct, .int .i64 cv]]) ∧ Below w.heap.size w w' := by
  have hlt := hr.lt
  have K0 := Lib.hid (show Kept w [(w.heap.size + 1 + 1, 118, #[.pointer none]), (w.heap.size + 1, 30, #[.int .i64 0, .int .i64 0]), (w.heap.size, 28, #[.int .i64 0, .int .i64 0, .int .i64 0, .int .i64 0, .int .i64 0, .int .i64 0, .int .i64 0, .bool false])] _ from ((((Kept.refl w).put1 _ _ #[.int .i64 0, .int .i64 0, .int .i64 0, .int .i64 0, .int .i64 0, .int .i64 0, .int .i64 0, .bool false] rfl).put1 _ _ #[.int .i64 0, .int .i64 0] (by simp)).put1 _ _ #[.pointer none] (by simp)))
  have HA := Lib.hid (fun (u : World) (hb : Below w.heap.size w u) (hp : CellsAt u (w.heap.size + 1 + 1) 118 #[.pointer none]) => as_box ⟨r, 0, none⟩ (w.heap.size + 1 + 1) (.pointer none) u ((hb.cell (cell_lt hg)).trans hg) hp)
  have HR := Lib.hid (fun (u : World) (hb : Below w.heap.size w u) => hr.below hb hlt)
  clear hg hr
  go_enter Tryz.func33, Tryz.ntmps33
  go_upto_region 2 with fail
  have k0 := K0.out
  clear K0
  generalize World.alloc (World.alloc _ _) _ = w0 at k0 ⊢
  go_wp2_with fail
  refine (HA.out _ k0.1 (k0.at_ (by simp))).mono ?_; rintro e w1 ⟨rfl, hg1, hc1⟩
  have k1 := k0.put (k := 0) rfl (by unfold Apart; simp <;> omega) hg1 hc1
  clear k0 hg1 hc1 HA
  have k1' : Kept w [(w.heap.size + 1 + 1, 118, #[.pointer (some ⟨r, 0, none⟩)]), (w.heap.size + 1, 30, #[.int .i64 0, .int .i64 0]), (w.heap.size, 28, #[.int .i64 0, .int .i64 0, .int .i64 0, .int .i64 0, .int .i64 0, .int .i64 0, .int .i64 0, .bool false])] w1 := k1
  clear k1
  have hr1 := HR.out _ k1'.1
  have c1 : ∀ i, w1.cell? ⟨r, i, none⟩ = #[.iface 212 (.pointer (some a)), .int .i64 t0, .int .i64 t1, .int .i64 t2, .int .i64 t3, .int .i64 t4, .int .i64 t5, .int .i64 t6, .bool t7, .int .i64 ct, .int .i64 cv][i]? := hr1.cell
  obtain ⟨kc0, kf0, kc1, kf1, kc2, kf2, -⟩ := k1'.rd
  go_upto_region 4 with fail
  have K4 := Lib.hid k1'
  clear k1' hr1 HR
  go_region
  all_goals
    go_wp2_with fail
    obtain ⟨w9, e9, ⟨d0, d1, d2, d3, d4, d5, d6, d7, d8, d9⟩, hb⟩ := touch_end (x0 := .int .i64 t0) (x1 := .int .i64 t1) (x2 := .int .i64 t2) (x3 := .int .i64 t3) (x4 := .int .i64 t4) (x5 := .int .i64 t5) (x6 := .int .i64 t6) (x7 := .bool t7) (y0 := .int .i64 ct) (y1 := .int .i64 cv) (K4.out.at_ (p := w.heap.size) (t := 28) (cs := #[.int .i64 0, .int .i64 0, .int .i64 0, .int .i64 0, .int .i64 0, .int .i64 0, .int .i64 0, .bool false]) (by simp)) (K4.out.at_ (p := w.heap.size + 1) (t := 30) (cs := #[.int .i64 0, .int .i64 0]) (by simp)) (by omega) K4.out.1 (by omega) (by omega)
    rw [e9]
    clear e9
    exact bodyPost_ret (v := (.tuple #[.agg #[.int .i64 t0, .int .i64 t1, .int .i64 t2, .int .i64 t3, .int .i64 t4, .int .i64 t5, .int .i64 t6, .bool t7], .agg #[.int .i64 ct, .int .i64 cv]])) (by simp [results, Tryz.results33, go_sem, d0, d1, d2, d3, d4, d5, d6, d7, d8, d9]) rfl ⟨rfl, hb.drew⟩
end Go.Proofs.YteopplldbcgjjaaGreatDoor.Mx
namespace Go.Proofs.YteopplldbcgjjaaGreatDoor.Mx
open Go.ChangeShapes Go.WideShapes Go.ChangeAt Go.RowKit
set_option linter.unusedVariables false
theorem l8Sums_calls (nx : Bool) (key : Int) (A : Option Addr) (n cap : Nat) (t0 t1 t2 t3 t4 t5 t6 : Int) (t7 : Bool) (a b c a' b' c' : Int) (w : World) :
    Calls Tryz.prog 45 #[.agg #[.int .i64 key, .slice A n cap], .agg #[.int .i64 t0, .int .i64 t1, .int .i64 t2, .int .i64 t3, .int .i64 t4, .int .i64 t5, .int .i64 t6, .bool t7], .bool nx, .agg #[.int .i64 a, .int .i64 b, .int .i64 c], .agg #[.int .i64 a', .int .i64 b', .int .i64 c']] w fun e w' => e = .returned (.agg #[.int .i64 (sumsT key ⟨t0, t1, t2, t3, t4, t5, t6, t7⟩ nx a b c a' b' c').clock, .int .i64 (sumsT key ⟨t0, t1, t2, t3, t4, t5, t6, t7⟩ nx a b c a' b' c').epoch, .int .i64 (sumsT key ⟨t0, t1, t2, t3, t4, t5, t6, t7⟩ nx a b c a' b' c').cursor, .int .i64 (sumsT key ⟨t0, t1, t2, t3, t4, t5, t6, t7⟩ nx a b c a' b' c').read, .int .i64 (sumsT key ⟨t0, t1, t2, t3, t4, t5, t6, t7⟩ nx a b c a' b' c').written, .int .i64 (sumsT key ⟨t0, t1, t2, t3, t4, t5, t6, t7⟩ nx a b c a' b' c').nread, .int .i64 (sumsT key ⟨t0, t1, t2, t3, t4, t5, t6, t7⟩ nx a b c a' b' c').nwritten, .bool (sumsT key ⟨t0, t1, t2, t3, t4, t5, t6, t7⟩ nx a b c a' b' c').failed]) ∧ Below w.heap.size w w' := by
  cases nx
  · exact l8Sums_false key A n cap t0 t1 t2 t3 t4 t5 t6 t7 a b c a' b' c' w
  · exact l8Sums_true key A n cap t0 t1 t2 t3 t4 t5 t6 t7 a b c a' b' c' w
namespace TK
variable {b u v : World} {L : List Box} {r q : Nat}
variable {p s g : Nat} {q' : Nat} {a0 a1 b0 b1 b2 b3 b4 b5 b6 b7 e0 e1 f0 f1 : Value}
end TK
end Go.Proofs.YteopplldbcgjjaaGreatDoor.Mx
namespace Go.Proofs.YteopplldbcgjjaaGreatDoor.Mx
open Go.ChangeShapes Go.WideShapes Go.ChangeAt Go.RowKit
set_option linter.unusedVariables false
set_option maxRecDepth 20000 in
set_option maxHeartbeats 4000000 in
theorem specTouched_ok (key x ct cv value : Int) (A : Option Addr) (l : List Int) (cap : Nat) (t0 t1 t2 t3 t4 t5 t6 : Int) (w : World) (hn : l.length ≤ maxLen) (hcap : l.length ≤ cap) (hA : Ints w .i64 w.heap.size A l) (hr : 0 ≤ regionOf key l x) (ht : trustOk key l (regionOf key l x) ⟨t0, t1, t2, t3, t4, t5, t6, false⟩) (hc : isCell ct cv) (hv : ValOk value) (hcl : ¬ 100000 ≤ t0) (hct : ¬ t0 < ct) (hxx : I64 x) (now : Int) (hnow : now = if value = -1 then valueIn key x ct cv else value) :
    Calls Tryz.prog 10 #[.agg #[.int .i64 key, .slice A l.length cap], .agg #[.int .i64 t0, .int .i64 t1, .int .i64 t2, .int .i64 t3, .int .i64 t4, .int .i64 t5, .int .i64 t6, .bool false], .int .i64 x, .agg #[.int .i64 ct, .int .i64 cv], .int .i64 value] w fun e w' => e = .returned (.tuple #[.agg #[.int .i64 (sumsT key ⟨t0 + 1, t1, t2, t3, t4, t5, t6, false⟩ (behindB key l t2 x) (tripleIn x ct cv).1 (tripleIn x ct cv).2.1 (tripleIn x ct cv).2.2 (tripleIn x (cellOf key x (t0 + 1) now).1 (cellOf key x (t0 + 1) now).2).1 (tripleIn x (cellOf key x (t0 + 1) now).1 (cellOf key x (t0 + 1) now).2).2.1 (tripleIn x (cellOf key x (t0 + 1) now).1 (cellOf key x (t0 + 1) now).2).2.2).clock, .int .i64 (sumsT key ⟨t0 + 1, t1, t2, t3, t4, t5, t6, false⟩ (behindB key l t2 x) (tripleIn x ct cv).1 (tripleIn x ct cv).2.1 (tripleIn x ct cv).2.2 (tripleIn x (cellOf key x (t0 + 1) now).1 (cellOf key x (t0 + 1) now).2).1 (tripleIn x (cellOf key x (t0 + 1) now).1 (cellOf key x (t0 + 1) now).2).2.1 (tripleIn x (cellOf key x (t0 + 1) now).1 (cellOf key x (t0 + 1) now).2).2.2).epoch, .int .i64 (sumsT key ⟨t0 + 1, t1, t2, t3, t4, t5, t6, false⟩ (behindB key l t2 x) (tripleIn x ct cv).1 (tripleIn x ct cv).2.1 (tripleIn x ct cv).2.2 (tripleIn x (cellOf key x (t0 + 1) now).1 (cellOf key x (t0 + 1) now).2).1 (tripleIn x (cellOf key x (t0 + 1) now).1 (cellOf key x (t0 + 1) now).2).2.1 (tripleIn x (cellOf key x (t0 + 1) now).1 (cellOf key x (t0 + 1) now).2).2.2).cursor, .int .i64 (sumsT key ⟨t0 + 1, t1, t2, t3, t4, t5, t6, false⟩ (behindB key l t2 x) (tripleIn x ct cv).1 (tripleIn x ct cv).2.1 (tripleIn x ct cv).2.2 (tripleIn x (cellOf key x (t0 + 1) now).1 (cellOf key x (t0 + 1) now).2).1 (tripleIn x (cellOf key x (t0 + 1) now).1 (cellOf key x (t0 + 1) now).2).2.1 (tripleIn x (cellOf key x (t0 + 1) now).1 (cellOf key x (t0 + 1) now).2).2.2).read, .int .i64 (sumsT key ⟨t0 + 1, t1, t2, t3, t4, t5, t6, false⟩ (behindB key l t2 x) (tripleIn x ct cv).1 (tripleIn x ct cv).2.1 (tripleIn x ct cv).2.2 (tripleIn x (cellOf key x (t0 + 1) now).1 (cellOf key x (t0 + 1) now).2).1 (tripleIn x (cellOf key x (t0 + 1) now).1 (cellOf key x (t0 + 1) now).2).2.1 (tripleIn x (cellOf key x (t0 + 1) now).1 (cellOf key x (t0 + 1) now).2).2.2).written, .int .i64 (sumsT key ⟨t0 + 1, t1, t2, t3, t4, t5, t6, false⟩ (behindB key l t2 x) (tripleIn x ct cv).1 (tripleIn x ct cv).2.1 (tripleIn x ct cv).2.2 (tripleIn x (cellOf key x (t0 + 1) now).1 (cellOf key x (t0 + 1) now).2).1 (tripleIn x (cellOf key x (t0 + 1) now).1 (cellOf key x (t0 + 1) now).2).2.1 (tripleIn x (cellOf key x (t0 + 1) now).1 (cellOf key x (t0 + 1) now).2).2.2).nread, .int .i64 (sumsT key ⟨t0 + 1, t1, t2, t3, t4, t5, t6, false⟩ (behindB key l t2 x) (tripleIn x ct cv).1 (tripleIn x ct cv).2.1 (tripleIn x ct cv).2.2 (tripleIn x (cellOf key x (t0 + 1) now).1 (cellOf key x (t0 + 1) now).2).1 (tripleIn x (cellOf key x (t0 + 1) now).1 (cellOf key x (t0 + 1) now).2).2.1 (tripleIn x (cellOf key x (t0 + 1) now).1 (cellOf key x (t0 + 1) now).2).2.2).nwritten, .bool (sumsT key ⟨t0 + 1, t1, t2, t3, t4, t5, t6, false⟩ (behindB key l t2 x) (tripleIn x ct cv).1 (tripleIn x ct cv).2.1 (tripleIn x ct cv).2.2 (tripleIn x (cellOf key x (t0 + 1) now).1 (cellOf key x (t0 + 1) now).2).1 (tripleIn x (cellOf key x (t0 + 1) now).1 (cellOf key x (t0 + 1) now).2).2.1 (tripleIn x (cellOf key x (t0 + 1) now).1 (cellOf key x (t0 + 1) now).2).2.2).failed], .agg #[.int .i64 (cellOf key x (t0 + 1) now).1, .int .i64 (cellOf key x (t0 + 1) now).2], .int .i64 (valueIn key x ct cv), .int .i64 0]) ∧ Below w.heap.size w w' := by
  have K0 := Lib.hid (show Kept w [(w.heap.size + 1 + 1 + 1 + 1, 30, #[.int .i64 0, .int .i64 0]), (w.heap.size + 1 + 1 + 1, 28, #[.int .i64 0, .int .i64 0, .int .i64 0, .int .i64 0, .int .i64 0, .int .i64 0, .int .i64 0, .bool false]), (w.heap.size + 1 + 1, 30, #[.int .i64 ct, .int .i64 cv]), (w.heap.size + 1, 28, #[.int .i64 t0, .int .i64 t1, .int .i64 t2, .int .i64 t3, .int .i64 t4, .int .i64 t5, .int .i64 t6, .bool false]), (w.heap.size, 26, #[.int .i64 key, .slice A l.length cap])] _ from (((((Kept.refl w).put1 _ _ #[.int .i64 key, .slice A l.length cap] rfl).put1 _ _ #[.int .i64 t0, .int .i64 t1, .int .i64 t2, .int .i64 t3, .int .i64 t4, .int .i64 t5, .int .i64 t6, .bool false] (by simp)).put1 _ _ #[.int .i64 ct, .int .i64 cv] (by simp)).put1 _ _ #[.int .i64 0, .int .i64 0, .int .i64 0, .int .i64 0, .int .i64 0, .int .i64 0, .int .i64 0, .bool false] (by simp)).put1 _ _ #[.int .i64 0, .int .i64 0] (by simp))
  have R := Lib.hid (fun (u : World) (hb : Below w.heap.size w u) => specRegion_calls key x A l cap u hn hcap ((hA.below hb (Nat.le_refl _)).more hb.size))
  have TO := Lib.hid (fun (u : World) (hb : Below w.heap.size w u) => specTrustOk_calls key (regionOf key l x) A l cap t0 t1 t2 t3 t4 t5 t6 false u hn ((hA.below hb (Nat.le_refl _)).more hb.size))
  have CO := Lib.hid (fun (u : World) => specCellOk_calls ct cv u)
  rw [trustB_yes ht] at TO
  rw [decide_eq_true hc] at CO
  have hd : decide (regionOf key l x < 0) = false := decide_eq_false (by omega)
  have htm : 0 ≤ t0 ∧ t0 ≤ 100000 := ht.2.2.1
  have VI := Lib.hid (fun u => specValueIn_calls key x ct cv u)
  have CC := Lib.hid (fun u => specCellOf_calls key x (t0 + 1) now u)
  have BH := Lib.hid (fun (u : World) (hb : Below w.heap.size w u) => specBehind_calls key x A l cap (t0 + 1) t1 t2 t3 t4 t5 t6 false u hn hcap ((hA.below hb (Nat.le_refl _)).more hb.size) hxx)
  clear hA hxx hn
  generalize regionOf key l x = r at R hd TO
  clear hr ht hc
  generalize (cellOf key x (t0 + 1) now).1 = c1 at CC ⊢
  generalize (cellOf key x (t0 + 1) now).2 = c2 at CC ⊢
  generalize behindB key l t2 x = nx at BH ⊢
  have TI1 := Lib.hid (fun u => specTripleIn_calls x ct cv u)
  have TI2 := Lib.hid (fun u => specTripleIn_calls x c1 c2 u)
  have LS := Lib.hid (fun u => l8Sums_calls nx key A l.length cap (t0 + 1) t1 t2 t3 t4 t5 t6 false (tripleIn x ct cv).1 (tripleIn x ct cv).2.1 (tripleIn x ct cv).2.2 (tripleIn x c1 c2).1 (tripleIn x c1 c2).2.1 (tripleIn x c1 c2).2.2 u)
  generalize sumsT key ⟨t0 + 1, t1, t2, t3, t4, t5, t6, false⟩ nx (tripleIn x ct cv).1 (tripleIn x ct cv).2.1 (tripleIn x ct cv).2.2 (tripleIn x c1 c2).1 (tripleIn x c1 c2).2.1 (tripleIn x c1 c2).2.2 = TS at LS ⊢
  generalize tripleIn x ct cv = q1 at TI1 LS
  generalize tripleIn x c1 c2 = q2 at TI2 LS
  obtain ⟨q11, q12, q13⟩ := q1
  obtain ⟨q21, q22, q23⟩ := q2
  simp only at TI1 TI2 LS
  by_cases hv3 : value = -1
  · subst hv3
    rw [if_pos rfl] at hnow
    rw [← hnow] at VI ⊢
    clear hv hnow
    go_enter Tryz.func10, Tryz.ntmps10
    go_wp2_with fail
    refine (R.out _ K0.out.1).mono ?_; rintro e wz ⟨rfl, b1⟩
    have hz := K0.out.below b1
    clear b1 R K0
    obtain ⟨kc0, kf0, kc1, kf1, kc2, kf2, kc3, kf3, kc4, kf4, -⟩ := hz.rd
    go_wp2_with fail
    refine (TO.out _ hz.1).mono ?_; rintro e wy ⟨rfl, b1⟩
    have hy := hz.below b1
    clear b1 TO hz kc0 kf0 kc1 kf1 kc2 kf2 kc3 kf3 kc4 kf4
    obtain ⟨kc0, kf0, kc1, kf1, kc2, kf2, kc3, kf3, kc4, kf4, -⟩ := hy.rd
    go_wp2_with fail
    refine (CO.out _).mono ?_; rintro e wx ⟨rfl, b1⟩
    have hx := hy.below b1
    clear b1 CO hy kc0 kf0 kc1 kf1 kc2 kf2 kc3 kf3 kc4 kf4
    obtain ⟨kc0, kf0, kc1, kf1, kc2, kf2, kc3, kf3, kc4, kf4, -⟩ := hx.rd
    go_wp2_with fail
    refine (VI.out _).mono ?_; rintro e wr ⟨rfl, b1⟩
    have hr := hx.below b1
    clear b1 VI hx kc0 kf0 kc1 kf1 kc2 kf2 kc3 kf3 kc4 kf4
    obtain ⟨kc0, kf0, kc1, kf1, kc2, kf2, kc3, kf3, kc4, kf4, -⟩ := hr.rd
    go_upto_region 15 with fail
    have hq : Kept w [(w.heap.size + 1 + 1 + 1 + 1, 30, #[.int .i64 0, .int .i64 0]), (w.heap.size + 1 + 1 + 1, 28, #[.int .i64 0, .int .i64 0, .int .i64 0, .int .i64 0, .int .i64 0, .int .i64 0, .int .i64 0, .bool false]), (w.heap.size + 1 + 1, 30, #[.int .i64 ct, .int .i64 cv]), (w.heap.size + 1, 28, #[.int .i64 (t0 + 1), .int .i64 t1, .int .i64 t2, .int .i64 t3, .int .i64 t4, .int .i64 t5, .int .i64 t6, .bool false]), (w.heap.size, 26, #[.int .i64 key, .slice A l.length cap])] _ := hr.put (k := 3) rfl (by unfold Apart; simp; omega) (gb_set (gb_refl wr (some (w.heap.size + 1))) 0 (.int .i64 (t0 + 1))) ((hr.at_ (p := w.heap.size + 1) (t := 28) (cs := #[.int .i64 t0, .int .i64 t1, .int .i64 t2, .int .i64 t3, .int .i64 t4, .int .i64 t5, .int .i64 t6, .bool false]) (by simp)).set_ 0 _)
    clear hr kc0 kf0 kc1 kf1 kc2 kf2 kc3 kf3 kc4 kf4
    generalize World.setCell _ _ _ = wq at hq ⊢
    obtain ⟨kc0, kf0, kc1, kf1, kc2, kf2, kc3, kf3, kc4, kf4, -⟩ := hq.rd
    go_wp2_with fail
    refine (CC.out _).mono ?_; rintro e ws ⟨rfl, b1⟩
    have hs := hq.below b1
    have hlt : w.heap.size + 1 + 1 + 1 + 1 < ws.heap.size := hs.lt (x := (w.heap.size + 1 + 1 + 1 + 1, 30, #[.int .i64 0, .int .i64 0])) (by simp)
    have hn := hs.put1 ws.heap.size 30 #[.int .i64 c1, .int .i64 c2] rfl
    clear b1 CC hq hs kc0 kf0 kc1 kf1 kc2 kf2 kc3 kf3 kc4 kf4
    go_upto_region 16 with fail
    have hst : ∀ x ∈ ([(15, w.heap.size + 1 + 1 + 1, 28, #[.int .i64 TS.clock, .int .i64 TS.epoch, .int .i64 TS.cursor, .int .i64 TS.read, .int .i64 TS.written, .int .i64 TS.nread, .int .i64 TS.nwritten, .bool TS.failed]), (16, w.heap.size + 1 + 1 + 1 + 1, 30, #[.int .i64 c1, .int .i64 c2])] : List Res), w.heap.size ≤ x.2.1 ∧ (∀ y ∈ ([(ws.heap.size, 30, #[.int .i64 c1, .int .i64 c2]), (w.heap.size + 1 + 1, 30, #[.int .i64 ct, .int .i64 cv]), (w.heap.size + 1, 28, #[.int .i64 (t0 + 1), .int .i64 t1, .int .i64 t2, .int .i64 t3, .int .i64 t4, .int .i64 t5, .int .i64 t6, .bool false]), (w.heap.size, 26, #[.int .i64 key, .slice A l.length cap])] : List Box), y.1 ≠ x.2.1) ∧ ∃ z, CellsAt (ws.alloc (.cells #[.int .i64 c1, .int .i64 c2] 30)) x.2.1 x.2.2.1 z ∧ z.size = x.2.2.2.size := by
      intro y hy
      simp only [List.mem_cons, List.not_mem_nil, or_false] at hy
      rcases hy with rfl | rfl
      · exact ⟨by simp only []; omega, by intro y hy; simp at hy; rcases hy with rfl | rfl | rfl | rfl <;> simp <;> omega, _, hn.at_ (t := 28) (cs := #[.int .i64 0, .int .i64 0, .int .i64 0, .int .i64 0, .int .i64 0, .int .i64 0, .int .i64 0, .bool false]) (by simp), rfl⟩
      · exact ⟨by simp only []; omega, by intro y hy; simp at hy; rcases hy with rfl | rfl | rfl | rfl <;> simp <;> omega, _, hn.at_ (t := 30) (cs := #[.int .i64 0, .int .i64 0]) (by simp), rfl⟩
    have hn0 : Kept w [(ws.heap.size, 30, #[.int .i64 c1, .int .i64 c2]), (w.heap.size + 1 + 1, 30, #[.int .i64 ct, .int .i64 cv]), (w.heap.size + 1, 28, #[.int .i64 (t0 + 1), .int .i64 t1, .int .i64 t2, .int .i64 t3, .int .i64 t4, .int .i64 t5, .int .i64 t6, .bool false]), (w.heap.size, 26, #[.int .i64 key, .slice A l.length cap])] _ := hn.sub (by intro y hy; simp at hy ⊢; rcases hy with rfl | rfl | rfl | rfl <;> simp)
    refine wp_region_free [false, false, false, false, false, true, false, false, true, false, false, true, true, false, false, true, true, false, false] (ShV [(5, .bool nx), (8, .agg #[.int .i64 q11, .int .i64 q12, .int .i64 q13]), (11, .agg #[.int .i64 q21, .int .i64 q22, .int .i64 q23]), (12, .agg #[.int .i64 TS.clock, .int .i64 TS.epoch, .int .i64 TS.cursor, .int .i64 TS.read, .int .i64 TS.written, .int .i64 TS.nread, .int .i64 TS.nwritten, .bool TS.failed])]) (fun D _ u => ResC w [(ws.heap.size, 30, #[.int .i64 c1, .int .i64 c2]), (w.heap.size + 1 + 1, 30, #[.int .i64 ct, .int .i64 cv]), (w.heap.size + 1, 28, #[.int .i64 (t0 + 1), .int .i64 t1, .int .i64 t2, .int .i64 t3, .int .i64 t4, .int .i64 t5, .int .i64 t6, .bool false]), (w.heap.size, 26, #[.int .i64 key, .slice A l.length cap])] [(15, w.heap.size + 1 + 1 + 1, 28, #[.int .i64 TS.clock, .int .i64 TS.epoch, .int .i64 TS.cursor, .int .i64 TS.read, .int .i64 TS.written, .int .i64 TS.nread, .int .i64 TS.nwritten, .bool TS.failed]), (16, w.heap.size + 1 + 1 + 1 + 1, 30, #[.int .i64 c1, .int .i64 c2])] D u) (by kernel_rfl) (by kernel_rfl) (fun γ => by kernel_rfl) (fun D γ γ' w _ h => h) (ShV.inh _) (fun γ => ResC.start hn0 hst) (fun γ hγ => ?_)
    have g5 : γ 5 = .bool nx := hγ 5 rfl
    have g8 : γ 8 = .agg #[.int .i64 q11, .int .i64 q12, .int .i64 q13] := hγ 8 rfl
    have g11 : γ 11 = .agg #[.int .i64 q21, .int .i64 q22, .int .i64 q23] := hγ 11 rfl
    have g12 : γ 12 = .agg #[.int .i64 TS.clock, .int .i64 TS.epoch, .int .i64 TS.cursor, .int .i64 TS.read, .int .i64 TS.written, .int .i64 TS.nread, .int .i64 TS.nwritten, .bool TS.failed] := hγ 12 rfl
    have g15 : γ 15 = undef := hγ 15 rfl
    have g16 : γ 16 = undef := hγ 16 rfl
    apply Exists.intro
    refine ⟨fun D => ?_, ?_, ?_⟩
    · simp only [hushL, cond_true, cond_false, Nat.reduceAdd, g5, g8, g11, g12, g15, g16]
      iterate 19 (first
        | go_big_quiet_skip
        | (go_big_quiet_want
           go_big_quiet_op
           first
             | go_big_quiet_on
             | (apply Exists.intro
                refine ⟨fun u hu => ?_, ?_⟩
                · first
                    | with_reducible rfl
                    | (obtain ⟨kc0, kf0, kc1, kf1, kc2, kf2, kc3, kf3, -⟩ := hu.1.rd; go_simp; first | done | with_reducible rfl)
                go_big_quiet_on)))
      exact wpQuiet_nil rfl
    · simp only [freeOk, Nat.reduceAdd]
      refine ⟨fun D u hD hd hu => ?_, fun D u hD hd hu => ?_, fun D u hD hd hu => ?_, fun D u hD hd hu => ?_, fun D u hD hd hu => ?_, fun D u hD hd hu => ?_, trivial⟩
      · exact steps_call ((BH.out u hu.1.1).mono fun e w' ⟨he, hb⟩ => ⟨_, he, rfl, hu.below hb 5 (by simp)⟩) rfl rfl rfl rfl (by kernel_rfl)
      · exact steps_call ((TI1.out u).mono fun e w' ⟨he, hb⟩ => ⟨_, he, rfl, hu.below hb 8 (by simp)⟩) rfl rfl rfl rfl (by kernel_rfl)
      · exact steps_call ((TI2.out u).mono fun e w' ⟨he, hb⟩ => ⟨_, he, rfl, hu.below hb 11 (by simp)⟩) rfl rfl rfl rfl (by kernel_rfl)
      · exact steps_call ((LS.out u).mono fun e w' ⟨he, hb⟩ => ⟨_, he, rfl, hu.below hb 12 (by simp)⟩) rfl rfl rfl rfl (by kernel_rfl)
      · obtain ⟨z, hz, hzs⟩ := hu.at_ (k := 15) (p := w.heap.size + 1 + 1 + 1) (t := 28) (V := #[.int .i64 TS.clock, .int .i64 TS.epoch, .int .i64 TS.cursor, .int .i64 TS.read, .int .i64 TS.written, .int .i64 TS.nread, .int .i64 TS.nwritten, .bool TS.failed]) (by simp)
        exact steps_store hz rfl rfl rfl (by kernel_rfl) hzs (by simp [Value.oneCell']) (fun w' hc hg => ⟨rfl, hu.stored (by simp) (by simp) hg hc⟩)
      · obtain ⟨z, hz, hzs⟩ := hu.at_ (k := 16) (p := w.heap.size + 1 + 1 + 1 + 1) (t := 30) (V := #[.int .i64 c1, .int .i64 c2]) (by simp)
        exact steps_store hz rfl rfl rfl (by kernel_rfl) hzs (by simp [Value.oneCell']) (fun w' hc hg => ⟨rfl, hu.stored (by simp) (by simp) hg hc⟩)
    · intro D u hD hu
      have hf := hu.done (by intro y hy; simp only [List.mem_cons, List.not_mem_nil, or_false] at hy; rcases hy with rfl | rfl; exact hD 15 (by simp) rfl; exact hD 16 (by simp) rfl)
      clear hu hD
      obtain ⟨kc0, kf0, kc1, kf1, -⟩ := hf.rd
      go_wp2_with fail
      exact bodyPost_ret (v := (.tuple #[.agg #[.int .i64 TS.clock, .int .i64 TS.epoch, .int .i64 TS.cursor, .int .i64 TS.read, .int .i64 TS.written, .int .i64 TS.nread, .int .i64 TS.nwritten, .bool TS.failed], .agg #[.int .i64 c1, .int .i64 c2], .int .i64 now, .int .i64 0])) (by simp [results, Tryz.results10, go_sem, kc0, kc1]) rfl ⟨rfl, hf.1⟩
  · have hv1 : (value == -1) = false := by simpa using hv3
    have hv2 : (value != -1) = true := by simpa using hv3
    have LV := Lib.hid (fun u => l2Value_yes value u (by rcases hv with h | h; exact absurd h hv3; exact h))
    rw [if_neg hv3] at hnow
    subst hnow
    generalize valueIn key x ct cv = rd at VI ⊢
    clear hv
    go_enter Tryz.func10, Tryz.ntmps10
    go_wp2_with fail
    refine (R.out _ K0.out.1).mono ?_; rintro e wz ⟨rfl, b1⟩
    have hz := K0.out.below b1
    clear b1 R K0
    obtain ⟨kc0, kf0, kc1, kf1, kc2, kf2, kc3, kf3, kc4, kf4, -⟩ := hz.rd
    go_wp2_with fail
    refine (TO.out _ hz.1).mono ?_; rintro e wy ⟨rfl, b1⟩
    have hy := hz.below b1
    clear b1 TO hz kc0 kf0 kc1 kf1 kc2 kf2 kc3 kf3 kc4 kf4
    obtain ⟨kc0, kf0, kc1, kf1, kc2, kf2, kc3, kf3, kc4, kf4, -⟩ := hy.rd
    go_wp2_with fail
    refine (CO.out _).mono ?_; rintro e wx ⟨rfl, b1⟩
    have hx := hy.below b1
    clear b1 CO hy kc0 kf0 kc1 kf1 kc2 kf2 kc3 kf3 kc4 kf4
    obtain ⟨kc0, kf0, kc1, kf1, kc2, kf2, kc3, kf3, kc4, kf4, -⟩ := hx.rd
    go_wp2_with fail
    refine (LV.out _).mono ?_; rintro e w' ⟨rfl, rfl⟩
    go_wp2_with fail
    refine (VI.out _).mono ?_; rintro e wr ⟨rfl, b1⟩
    have hr := hx.below b1
    clear b1 VI hx kc0 kf0 kc1 kf1 kc2 kf2 kc3 kf3 kc4 kf4
    obtain ⟨kc0, kf0, kc1, kf1, kc2, kf2, kc3, kf3, kc4, kf4, -⟩ := hr.rd
    go_upto_region 15 with fail
    have hq : Kept w [(w.heap.size + 1 + 1 + 1 + 1, 30, #[.int .i64 0, .int .i64 0]), (w.heap.size + 1 + 1 + 1, 28, #[.int .i64 0, .int .i64 0, .int .i64 0, .int .i64 0, .int .i64 0, .int .i64 0, .int .i64 0, .bool false]), (w.heap.size + 1 + 1, 30, #[.int .i64 ct, .int .i64 cv]), (w.heap.size + 1, 28, #[.int .i64 (t0 + 1), .int .i64 t1, .int .i64 t2, .int .i64 t3, .int .i64 t4, .int .i64 t5, .int .i64 t6, .bool false]), (w.heap.size, 26, #[.int .i64 key, .slice A l.length cap])] _ := hr.put (k := 3) rfl (by unfold Apart; simp; omega) (gb_set (gb_refl wr (some (w.heap.size + 1))) 0 (.int .i64 (t0 + 1))) ((hr.at_ (p := w.heap.size + 1) (t := 28) (cs := #[.int .i64 t0, .int .i64 t1, .int .i64 t2, .int .i64 t3, .int .i64 t4, .int .i64 t5, .int .i64 t6, .bool false]) (by simp)).set_ 0 _)
    clear hr kc0 kf0 kc1 kf1 kc2 kf2 kc3 kf3 kc4 kf4
    generalize World.setCell _ _ _ = wq at hq ⊢
    obtain ⟨kc0, kf0, kc1, kf1, kc2, kf2, kc3, kf3, kc4, kf4, -⟩ := hq.rd
    go_wp2_with fail
    refine (CC.out _).mono ?_; rintro e ws ⟨rfl, b1⟩
    have hs := hq.below b1
    have hlt : w.heap.size + 1 + 1 + 1 + 1 < ws.heap.size := hs.lt (x := (w.heap.size + 1 + 1 + 1 + 1, 30, #[.int .i64 0, .int .i64 0])) (by simp)
    have hn := hs.put1 ws.heap.size 30 #[.int .i64 c1, .int .i64 c2] rfl
    clear b1 CC hq hs kc0 kf0 kc1 kf1 kc2 kf2 kc3 kf3 kc4 kf4
    go_upto_region 16 with fail
    have hst : ∀ x ∈ ([(15, w.heap.size + 1 + 1 + 1, 28, #[.int .i64 TS.clock, .int .i64 TS.epoch, .int .i64 TS.cursor, .int .i64 TS.read, .int .i64 TS.written, .int .i64 TS.nread, .int .i64 TS.nwritten, .bool TS.failed]), (16, w.heap.size + 1 + 1 + 1 + 1, 30, #[.int .i64 c1, .int .i64 c2])] : List Res), w.heap.size ≤ x.2.1 ∧ (∀ y ∈ ([(ws.heap.size, 30, #[.int .i64 c1, .int .i64 c2]), (w.heap.size + 1 + 1, 30, #[.int .i64 ct, .int .i64 cv]), (w.heap.size + 1, 28, #[.int .i64 (t0 + 1), .int .i64 t1, .int .i64 t2, .int .i64 t3, .int .i64 t4, .int .i64 t5, .int .i64 t6, .bool false]), (w.heap.size, 26, #[.int .i64 key, .slice A l.length cap])] : List Box), y.1 ≠ x.2.1) ∧ ∃ z, CellsAt (ws.alloc (.cells #[.int .i64 c1, .int .i64 c2] 30)) x.2.1 x.2.2.1 z ∧ z.size = x.2.2.2.size := by
      intro y hy
      simp only [List.mem_cons, List.not_mem_nil, or_false] at hy
      rcases hy with rfl | rfl
      · exact ⟨by simp only []; omega, by intro y hy; simp at hy; rcases hy with rfl | rfl | rfl | rfl <;> simp <;> omega, _, hn.at_ (t := 28) (cs := #[.int .i64 0, .int .i64 0, .int .i64 0, .int .i64 0, .int .i64 0, .int .i64 0, .int .i64 0, .bool false]) (by simp), rfl⟩
      · exact ⟨by simp only []; omega, by intro y hy; simp at hy; rcases hy with rfl | rfl | rfl | rfl <;> simp <;> omega, _, hn.at_ (t := 30) (cs := #[.int .i64 0, .int .i64 0]) (by simp), rfl⟩
    have hn0 : Kept w [(ws.heap.size, 30, #[.int .i64 c1, .int .i64 c2]), (w.heap.size + 1 + 1, 30, #[.int .i64 ct, .int .i64 cv]), (w.heap.size + 1, 28, #[.int .i64 (t0 + 1), .int .i64 t1, .int .i64 t2, .int .i64 t3, .int .i64 t4, .int .i64 t5, .int .i64 t6, .bool false]), (w.heap.size, 26, #[.int .i64 key, .slice A l.length cap])] _ := hn.sub (by intro y hy; simp at hy ⊢; rcases hy with rfl | rfl | rfl | rfl <;> simp)
    refine wp_region_free [false, false, false, false, false, true, false, false, true, false, false, true, true, false, false, true, true, false, false] (ShV [(5, .bool nx), (8, .agg #[.int .i64 q11, .int .i64 q12, .int .i64 q13]), (11, .agg #[.int .i64 q21, .int .i64 q22, .int .i64 q23]), (12, .agg #[.int .i64 TS.clock, .int .i64 TS.epoch, .int .i64 TS.cursor, .int .i64 TS.read, .int .i64 TS.written, .int .i64 TS.nread, .int .i64 TS.nwritten, .bool TS.failed])]) (fun D _ u => ResC w [(ws.heap.size, 30, #[.int .i64 c1, .int .i64 c2]), (w.heap.size + 1 + 1, 30, #[.int .i64 ct, .int .i64 cv]), (w.heap.size + 1, 28, #[.int .i64 (t0 + 1), .int .i64 t1, .int .i64 t2, .int .i64 t3, .int .i64 t4, .int .i64 t5, .int .i64 t6, .bool false]), (w.heap.size, 26, #[.int .i64 key, .slice A l.length cap])] [(15, w.heap.size + 1 + 1 + 1, 28, #[.int .i64 TS.clock, .int .i64 TS.epoch, .int .i64 TS.cursor, .int .i64 TS.read, .int .i64 TS.written, .int .i64 TS.nread, .int .i64 TS.nwritten, .bool TS.failed]), (16, w.heap.size + 1 + 1 + 1 + 1, 30, #[.int .i64 c1, .int .i64 c2])] D u) (by kernel_rfl) (by kernel_rfl) (fun γ => by kernel_rfl) (fun D γ γ' w _ h => h) (ShV.inh _) (fun γ => ResC.start hn0 hst) (fun γ hγ => ?_)
    have g5 : γ 5 = .bool nx := hγ 5 rfl
    have g8 : γ 8 = .agg #[.int .i64 q11, .int .i64 q12, .int .i64 q13] := hγ 8 rfl
    have g11 : γ 11 = .agg #[.int .i64 q21, .int .i64 q22, .int .i64 q23] := hγ 11 rfl
    have g12 : γ 12 = .agg #[.int .i64 TS.clock, .int .i64 TS.epoch, .int .i64 TS.cursor, .int .i64 TS.read, .int .i64 TS.written, .int .i64 TS.nread, .int .i64 TS.nwritten, .bool TS.failed] := hγ 12 rfl
    have g15 : γ 15 = undef := hγ 15 rfl
    have g16 : γ 16 = undef := hγ 16 rfl
    apply Exists.intro
    refine ⟨fun D => ?_, ?_, ?_⟩
    · simp only [hushL, cond_true, cond_false, Nat.reduceAdd, g5, g8, g11, g12, g15, g16]
      iterate 19 (first
        | go_big_quiet_skip
        | (go_big_quiet_want
           go_big_quiet_op
           first
             | go_big_quiet_on
             | (apply Exists.intro
                refine ⟨fun u hu => ?_, ?_⟩
                · first
                    | with_reducible rfl
                    | (obtain ⟨kc0, kf0, kc1, kf1, kc2, kf2, kc3, kf3, -⟩ := hu.1.rd; go_simp; first | done | with_reducible rfl)
                go_big_quiet_on)))
      exact wpQuiet_nil rfl
    · simp only [freeOk, Nat.reduceAdd]
      refine ⟨fun D u hD hd hu => ?_, fun D u hD hd hu => ?_, fun D u hD hd hu => ?_, fun D u hD hd hu => ?_, fun D u hD hd hu => ?_, fun D u hD hd hu => ?_, trivial⟩
      · exact steps_call ((BH.out u hu.1.1).mono fun e w' ⟨he, hb⟩ => ⟨_, he, rfl, hu.below hb 5 (by simp)⟩) rfl rfl rfl rfl (by kernel_rfl)
      · exact steps_call ((TI1.out u).mono fun e w' ⟨he, hb⟩ => ⟨_, he, rfl, hu.below hb 8 (by simp)⟩) rfl rfl rfl rfl (by kernel_rfl)
      · exact steps_call ((TI2.out u).mono fun e w' ⟨he, hb⟩ => ⟨_, he, rfl, hu.below hb 11 (by simp)⟩) rfl rfl rfl rfl (by kernel_rfl)
      · exact steps_call ((LS.out u).mono fun e w' ⟨he, hb⟩ => ⟨_, he, rfl, hu.below hb 12 (by simp)⟩) rfl rfl rfl rfl (by kernel_rfl)
      · obtain ⟨z, hz, hzs⟩ := hu.at_ (k := 15) (p := w.heap.size + 1 + 1 + 1) (t := 28) (V := #[.int .i64 TS.clock, .int .i64 TS.epoch, .int .i64 TS.cursor, .int .i64 TS.read, .int .i64 TS.written, .int .i64 TS.nread, .int .i64 TS.nwritten, .bool TS.failed]) (by simp)
        exact steps_store hz rfl rfl rfl (by kernel_rfl) hzs (by simp [Value.oneCell']) (fun w' hc hg => ⟨rfl, hu.stored (by simp) (by simp) hg hc⟩)
      · obtain ⟨z, hz, hzs⟩ := hu.at_ (k := 16) (p := w.heap.size + 1 + 1 + 1 + 1) (t := 30) (V := #[.int .i64 c1, .int .i64 c2]) (by simp)
        exact steps_store hz rfl rfl rfl (by kernel_rfl) hzs (by simp [Value.oneCell']) (fun w' hc hg => ⟨rfl, hu.stored (by simp) (by simp) hg hc⟩)
    · intro D u hD hu
      have hf := hu.done (by intro y hy; simp only [List.mem_cons, List.not_mem_nil, or_false] at hy; rcases hy with rfl | rfl; exact hD 15 (by simp) rfl; exact hD 16 (by simp) rfl)
      clear hu hD
      obtain ⟨kc0, kf0, kc1, kf1, -⟩ := hf.rd
      go_wp2_with fail
      exact bodyPost_ret (v := (.tuple #[.agg #[.int .i64 TS.clock, .int .i64 TS.epoch, .int .i64 TS.cursor, .int .i64 TS.read, .int .i64 TS.written, .int .i64 TS.nread, .int .i64 TS.nwritten, .bool TS.failed], .agg #[.int .i64 c1, .int .i64 c2], .int .i64 rd, .int .i64 0])) (by simp [results, Tryz.results10, go_sem, kc0, kc1]) rfl ⟨rfl, hf.1⟩
end Go.Proofs.YteopplldbcgjjaaGreatDoor.Mx

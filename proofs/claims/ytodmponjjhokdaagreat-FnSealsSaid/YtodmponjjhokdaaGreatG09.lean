import Derived.Test.YtodmponjjhokdaaGreatG08
import Derived.RangeFuncBox
import Derived.RangeFuncLeaves
import Derived.Shelf.Abstract
import Derived.OwnWalkIn
import Derived.TacticsInMore
import Derived.LoopNIn
import Derived.LoopIn
import Derived.Maps.AppendAt
import Derived.Test.YtodmponjjhokdaaGreatG07
namespace Go.Proofs.YtodmponjjhokdaaGreat.Mx
open Go.ChangeShapes Go.WideShapes Go.ChangeAt Go.RowKit
set_option linter.unusedVariables false
attribute [local go_sem] Oper.semAt_some
theorem run_index8 (cs : Array Value) (i : Nat) (v : Value) (hi : i < 8) (hc : cs[i]? = some v) (w : World) : (Instr.index 76 (.agg cs) (.int .i64 (i : Int))).run Tryz.prog w = .ok v w := by
 obtain ⟨j, hj, hzz⟩ := Option.map_eq_some_iff.1 info_i64
 simp only [Prod.mk.injEq] at hzz
 simp [Instr.index, asIntOf, run_underlying Tryz.underlying76, sizeOf, typeInfo, hj, hzz.2.1, hc, go_sem]
 intro h; omega
theorem fieldsOf_calls (C : Option Addr) (n c : Nat) (w : World) :
    Calls Tryz.prog 27 #[.slice C n c] w fun e w' => e = .returned (.func (.func 43) #[] #[.pointer (some ⟨w.heap.size, 0, none⟩)]) ∧ w' = w.alloc (.cells #[.slice C n c] 27) := by
 go_enter Tryz.func27, Tryz.ntmps27
 go_wp2_with fail
 go_ret
 exact ⟨rfl, rfl⟩
theorem take8 (xs : List Int) (t : Tru) {j : Nat} {x : Int} (h : (macRow t)[j]? = some x) : xs ++ (macRow t).take (j + 1) = xs ++ (macRow t).take j ++ [x] := by
 rw [List.append_assoc]
 congr 1
 rw [List.take_add_one, h]; rfl
theorem prefix8 (L : List Tru) {k j : Nat} (hk : k < L.length) : (L.take k).flatMap macRow ++ (macRow (L.getD k default)).take j <+: L.flatMap macRow := by
 have h := takeT_succ hk
 refine List.IsPrefix.trans (l₂ := (L.take (k + 1)).flatMap macRow) ?_ ?_
 ·rw [h]; exact List.prefix_append_right_inj _ |>.2 (List.take_prefix _ _)
 ·conv => rhs; rw [← List.take_append_drop (k + 1) L]
  rw [List.flatMap_append]; exact List.prefix_append _ _
theorem len8 (L : List Tru) {k j : Nat} (hk : k < L.length) (hj : j < 8) (t : Tru) : ((L.take k).flatMap macRow ++ (macRow t).take j).length < L.length * 8 := by
 rw [List.length_append, macRow_len, List.length_take, List.length_take, Nat.min_eq_left (by omega)]
 show _ + min j 8 < _
 omega
set_option maxRecDepth 100000 in
set_option maxHeartbeats 4000000 in
theorem fields_in (n : Nat) (hn : 1 ≤ n) (l Bn n₀ : Nat) (C : Option Addr) (L : List Tru) (cap2 : Nat) (hN : L.length ≤ 1048576) (J Jx : List Int → World → Prop)
    (hJ : ∀ s W W', J s W → W.grownBy W' none → J s W')
    (hY : ∀ pre x W, J pre W → pre.length < L.length * 8 → YieldAt Fence.wide (n - 1) Tryz.prog l #[.int .i64 x] W fun e W' =>
     (e = .returned (.bool true) ∧ J (pre ++ [x]) W' ∧ Below n₀ W W') ∨ (e = .returned (.bool false) ∧ Jx (pre ++ [x]) W'))
    (W : World) (hn₀ : n₀ ≤ W.heap.size) (hBn : W.cell? ⟨Bn, 0, none⟩ = some (.slice C L.length cap2)) (hL : Trs W n₀ C L) (h0 : J [] W) :
    CallsIn Fence.wide n Tryz.prog 43 #[.func (.yield l) #[] #[], .pointer (some ⟨Bn, 0, none⟩)] W fun e W' => (∃ v, e = .returned v) ∧
     ((∃ ys, ys = L.flatMap macRow ∧ J ys W') ∨ (∃ pre, pre <+: L.flatMap macRow ∧ Jx pre W')) := by
 have HL := Lib.hid hL
 have HY := Lib.hid hY
 have HJ := Lib.hid hJ
 clear hL hY hJ
 refine callsIn_of_wp Tryz.func43 rfl trivial ?_ rfl
 simp only [Tryz.ntmps43, List.size_toArray, List.length_cons, List.length_nil, Nat.reduceAdd, Nat.reduceSub, Array.replicate_succ, Array.replicate_zero, List.push_toArray, List.append_toArray, List.nil_append, List.cons_append]
 gi_wp2
 gi_loopw [10] (fun i wr => ∃ k : Nat, k ≤ L.length ∧ i = .int .i64 k ∧ J ((L.take k).flatMap macRow) wr ∧ Below n₀ W wr) (fun i _ => L.length - (intOf i).toNat)
 case atStart => exact ⟨0, Nat.zero_le _, rfl, h0, Below.refl _ _⟩
 case round =>
  obtain ⟨k, hk, rfl, hJs, hnx⟩ := hrel
  by_cases hlt : k < L.length
  ·obtain ⟨b, off, rfl, hb, hc⟩ := HL.out.at_ hlt
   have hlt' : (k : Int) < L.length := by omega
   have hk0 : (0 : Int) ≤ k := by omega
   obtain ⟨c0, c1, c2, c3, c4, c5, c6, c7⟩ := hc.below hnx hb
   generalize hT : L.getD k default = t at c0 c1 c2 c3 c4 c5 c6 c7
   gi_wp2
   have hz2 : Kept wr [(wr.heap.size, 43, #[.int .i64 t.clock, .int .i64 t.epoch, .int .i64 t.cursor, .int .i64 t.read, .int .i64 t.written, .int .i64 t.nread, .int .i64 t.nwritten, .bool t.failed])] (wr.alloc (.cells #[.int .i64 t.clock, .int .i64 t.epoch, .int .i64 t.cursor, .int .i64 t.read, .int .i64 t.written, .int .i64 t.nread, .int .i64 t.nwritten, .bool t.failed] 43)) := (Kept.refl wr).put1 _ _ #[.int .i64 t.clock, .int .i64 t.epoch, .int .i64 t.cursor, .int .i64 t.read, .int .i64 t.written, .int .i64 t.nread, .int .i64 t.nwritten, .bool t.failed] rfl
   clear c0 c1 c2 c3 c4 c5 c6 c7
   generalize World.alloc _ _ = w1 at hz2 ⊢
   refine wpIn_wide.2 ?_
   refine wp_region_free [false, false, false, false, false, false, false, false, false, false, false, false, false, false, false, false, true, false, true, true] (ShM [(16, .int .i64 (flagN t.failed))] [18]) (fun D γ u => MadeC w1 (w1.heap.size) [] [] [(18, 19, 76, #[.int .i64 t.clock, .int .i64 t.epoch, .int .i64 t.cursor, .int .i64 t.read, .int .i64 t.written, .int .i64 t.nread, .int .i64 t.nwritten, .int .i64 (flagN t.failed)])] D γ u) (by kernel_rfl) (by kernel_rfl) (fun γ => by kernel_rfl) (fun D γ γ' w ha h => h.loc ha) (ShM.inh _ _) (fun γ => MadeC.start (ResC.start (Kept.refl _) (fun x hx => by cases hx)) (Nat.le_refl _) (Nat.le_refl _) (fun x hx => by cases hx) (fun x hx => by cases hx)) (fun γ hγ => ?_)
   have g16 : γ 16 = .int .i64 (flagN t.failed) := hγ 16 rfl
   have g19 : γ 19 = undef := hγ 19 rfl
   obtain ⟨bq, g18⟩ : ∃ g : Nat, γ 18 = .pointer (some ⟨g, 0, none⟩) := hγ 18 rfl
   apply Exists.intro
   refine ⟨fun D => ?_, ?_, ?_⟩
   ·simp only [hushL, cond_true, cond_false, Nat.reduceAdd, g16, g19, g18]
    iterate 20 (first
     | go_big_quiet_skip
     | (go_big_quiet_want
        go_big_quiet_op
        first
         | go_big_quiet_on
         | (apply Exists.intro
            refine ⟨fun u hu => ?_, ?_⟩
            ·first
               | with_reducible rfl
               | (have hk9 := hz2.below hu.1.1.1; obtain ⟨kc0, kf0, -⟩ := hk9.rd; go_simp; first | done | with_reducible rfl)
            go_big_quiet_on)))
    exact wpQuiet_nil rfl
   ·simp only [freeOk, Nat.reduceAdd]
    refine ⟨fun D u hD hd hu => ?_, fun D u hD hd hu => ?_, fun D u hD hd hu => ?_, trivial⟩
    ·have hb := hu.1.1.1
     exact steps_call ((((asNumber_calls t.failed u).mono fun e w' h => (⟨h.1, h.2 ▸ Below.refl _ _⟩ : _ ∧ Below u.heap.size u w'))).mono fun e w' ⟨he, hb⟩ => ⟨_, he, rfl, hu.below hb 16 _ (by simp)⟩) rfl rfl rfl rfl (by kernel_rfl)
    ·exact steps_alloc (cs := #[.int .i64 0, .int .i64 0, .int .i64 0, .int .i64 0, .int .i64 0, .int .i64 0, .int .i64 0, .int .i64 0]) rfl (by kernel_rfl) ⟨⟨_, rfl⟩, hu.made (j := 19) (t := 76) (V := #[.int .i64 t.clock, .int .i64 t.epoch, .int .i64 t.cursor, .int .i64 t.read, .int .i64 t.written, .int .i64 t.nread, .int .i64 t.nwritten, .int .i64 (flagN t.failed)]) (by simp) (by simp) (by simp) hD (by decide) rfl⟩
    ·have dk := hd { on := 18, ground := Ground.data } (by simp) rfl rfl
     obtain ⟨g0, e1, z, hz, hzs⟩ := hu.box (k := 18) (j := 19) (t := 76) (V := #[.int .i64 t.clock, .int .i64 t.epoch, .int .i64 t.cursor, .int .i64 t.read, .int .i64 t.written, .int .i64 t.nread, .int .i64 t.nwritten, .int .i64 (flagN t.failed)]) (by simp) dk
     obtain rfl : bq = g0 := by rw [g18] at e1; simpa using e1
     exact steps_store hz rfl rfl rfl (by kernel_rfl) hzs (by simp [Value.oneCell']) (fun w' hc hg => ⟨rfl, hu.filled (k := 18) (t := 76) (V := #[.int .i64 t.clock, .int .i64 t.epoch, .int .i64 t.cursor, .int .i64 t.read, .int .i64 t.written, .int .i64 t.nread, .int .i64 t.nwritten, .int .i64 (flagN t.failed)]) (by simp) dk (by simp) (by simp) (by decide) e1 hg hc _⟩)
   ·intro D uf hD hu
    have hb3 := hu.1.1.1
    have hf := hz2.below hb3
    obtain ⟨g0, e1, hge18, hgc18⟩ := hu.doneM (k := 18) (j := 19) (t := 76) (V := #[.int .i64 t.clock, .int .i64 t.epoch, .int .i64 t.cursor, .int .i64 t.read, .int .i64 t.written, .int .i64 t.nread, .int .i64 t.nwritten, .int .i64 (flagN t.failed)]) (by simp) (hD 18 (by simp) rfl) (hD 19 (by simp) rfl)
    obtain rfl : bq = g0 := by rw [g18] at e1; simpa using e1
    clear e1
    have hfz1 := hf.more (Nat.le_trans hz2.1.size hge18) hgc18
    clear hu hD
    obtain ⟨kc0, kf0, kc1, kf1, -⟩ := hfz1.rd
    have JK := Lib.hid (HJ.out _ _ _ hJs (below_gb hfz1.1 none))
    have NK := Lib.hid (hnx.trans (hfz1.1.mono (Nat.le_trans hn₀ hnx.size)))
    clear hJs hnx hz2
    gi_wp2
    clear kc0 kf0 kc1 kf1 hf hfz1 hb3
    have HX := Lib.hid (fun j => prefix8 (j := j) L hlt)
    have HTS := Lib.hid (takeT_succ hlt)
    rw [hT] at HX HTS
    gi_loopw [33] (fun i wz => ∃ j : Nat, j ≤ 8 ∧ i = .int .i64 j ∧ J ((L.take k).flatMap macRow ++ (macRow t).take j) wz ∧ Below n₀ W wz) (fun i _ => 8 - (intOf i).toNat)
    case atStart => exact ⟨0, Nat.zero_le _, rfl, by simpa using JK.out, NK.out⟩
    case round =>
     obtain ⟨j, hj, rfl, hJz, hnz⟩ := hrel
     by_cases hj8 : j < 8
     ·have e8 : j = 0 ∨ j = 1 ∨ j = 2 ∨ j = 3 ∨ j = 4 ∨ j = 5 ∨ j = 6 ∨ j = 7 := by omega
      obtain ⟨x, hx⟩ : ∃ x, (macRow t)[j]? = some x := ⟨_, List.getElem?_eq_getElem (show j < (macRow t).length from hj8)⟩
      obtain ⟨fn, tmps, assign, body, hy, hR⟩ := HY.out _ x wr hJz (len8 L hlt hj8 t)
      have HT8 := Lib.hid (take8 ((L.take k).flatMap macRow) t hx)
      rcases e8 with rfl | rfl | rfl | rfl | rfl | rfl | rfl | rfl
      ·obtain rfl := Option.some.inj hx
       have hix : (Instr.index 76 (.agg #[.int .i64 t.clock, .int .i64 t.epoch, .int .i64 t.cursor, .int .i64 t.read, .int .i64 t.written, .int .i64 t.nread, .int .i64 t.nwritten, .int .i64 (flagN t.failed)]) (.int .i64 0)).run Tryz.prog wr = .ok (.int .i64 t.clock) wr := run_index8 #[.int .i64 t.clock, .int .i64 t.epoch, .int .i64 t.cursor, .int .i64 t.read, .int .i64 t.written, .int .i64 t.nread, .int .i64 t.nwritten, .int .i64 (flagN t.failed)] 0 _ (by omega) rfl wr
       clear hJz
       gi_wp2
       refine hR.mono ?_
       rintro e W3 (⟨rfl, hJ3, hk3⟩ | ⟨rfl, hJx3⟩)
       ·gi_wp2
        go_roundw
        case rel => exact ⟨1, by omega, rfl, by rw [HT8.out]; exact hJ3, hnz.trans hk3⟩
        case measure => simp [intOf]
       ·gi_wp2
        refine bodyPost_ret (results_none rfl _ _ _) rfl ?_
        exact ⟨⟨_, rfl⟩, .inr ⟨_, by have h := HX.out 1; rw [HT8.out] at h; exact h, hJx3⟩⟩
      ·obtain rfl := Option.some.inj hx
       have hix : (Instr.index 76 (.agg #[.int .i64 t.clock, .int .i64 t.epoch, .int .i64 t.cursor, .int .i64 t.read, .int .i64 t.written, .int .i64 t.nread, .int .i64 t.nwritten, .int .i64 (flagN t.failed)]) (.int .i64 1)).run Tryz.prog wr = .ok (.int .i64 t.epoch) wr := run_index8 #[.int .i64 t.clock, .int .i64 t.epoch, .int .i64 t.cursor, .int .i64 t.read, .int .i64 t.written, .int .i64 t.nread, .int .i64 t.nwritten, .int .i64 (flagN t.failed)] 1 _ (by omega) rfl wr
       clear hJz
       gi_wp2
       refine hR.mono ?_
       rintro e W3 (⟨rfl, hJ3, hk3⟩ | ⟨rfl, hJx3⟩)
       ·gi_wp2
        go_roundw
        case rel => exact ⟨2, by omega, rfl, by rw [HT8.out]; exact hJ3, hnz.trans hk3⟩
        case measure => simp [intOf]
       ·gi_wp2
        refine bodyPost_ret (results_none rfl _ _ _) rfl ?_
        exact ⟨⟨_, rfl⟩, .inr ⟨_, by have h := HX.out 2; rw [HT8.out] at h; exact h, hJx3⟩⟩
      ·obtain rfl := Option.some.inj hx
       have hix : (Instr.index 76 (.agg #[.int .i64 t.clock, .int .i64 t.epoch, .int .i64 t.cursor, .int .i64 t.read, .int .i64 t.written, .int .i64 t.nread, .int .i64 t.nwritten, .int .i64 (flagN t.failed)]) (.int .i64 2)).run Tryz.prog wr = .ok (.int .i64 t.cursor) wr := run_index8 #[.int .i64 t.clock, .int .i64 t.epoch, .int .i64 t.cursor, .int .i64 t.read, .int .i64 t.written, .int .i64 t.nread, .int .i64 t.nwritten, .int .i64 (flagN t.failed)] 2 _ (by omega) rfl wr
       clear hJz
       gi_wp2
       refine hR.mono ?_
       rintro e W3 (⟨rfl, hJ3, hk3⟩ | ⟨rfl, hJx3⟩)
       ·gi_wp2
        go_roundw
        case rel => exact ⟨3, by omega, rfl, by rw [HT8.out]; exact hJ3, hnz.trans hk3⟩
        case measure => simp [intOf]
       ·gi_wp2
        refine bodyPost_ret (results_none rfl _ _ _) rfl ?_
        exact ⟨⟨_, rfl⟩, .inr ⟨_, by have h := HX.out 3; rw [HT8.out] at h; exact h, hJx3⟩⟩
      ·obtain rfl := Option.some.inj hx
       have hix : (Instr.index 76 (.agg #[.int .i64 t.clock, .int .i64 t.epoch, .int .i64 t.cursor, .int .i64 t.read, .int .i64 t.written, .int .i64 t.nread, .int .i64 t.nwritten, .int .i64 (flagN t.failed)]) (.int .i64 3)).run Tryz.prog wr = .ok (.int .i64 t.read) wr := run_index8 #[.int .i64 t.clock, .int .i64 t.epoch, .int .i64 t.cursor, .int .i64 t.read, .int .i64 t.written, .int .i64 t.nread, .int .i64 t.nwritten, .int .i64 (flagN t.failed)] 3 _ (by omega) rfl wr
       clear hJz
       gi_wp2
       refine hR.mono ?_
       rintro e W3 (⟨rfl, hJ3, hk3⟩ | ⟨rfl, hJx3⟩)
       ·gi_wp2
        go_roundw
        case rel => exact ⟨4, by omega, rfl, by rw [HT8.out]; exact hJ3, hnz.trans hk3⟩
        case measure => simp [intOf]
       ·gi_wp2
        refine bodyPost_ret (results_none rfl _ _ _) rfl ?_
        exact ⟨⟨_, rfl⟩, .inr ⟨_, by have h := HX.out 4; rw [HT8.out] at h; exact h, hJx3⟩⟩
      ·obtain rfl := Option.some.inj hx
       have hix : (Instr.index 76 (.agg #[.int .i64 t.clock, .int .i64 t.epoch, .int .i64 t.cursor, .int .i64 t.read, .int .i64 t.written, .int .i64 t.nread, .int .i64 t.nwritten, .int .i64 (flagN t.failed)]) (.int .i64 4)).run Tryz.prog wr = .ok (.int .i64 t.written) wr := run_index8 #[.int .i64 t.clock, .int .i64 t.epoch, .int .i64 t.cursor, .int .i64 t.read, .int .i64 t.written, .int .i64 t.nread, .int .i64 t.nwritten, .int .i64 (flagN t.failed)] 4 _ (by omega) rfl wr
       clear hJz
       gi_wp2
       refine hR.mono ?_
       rintro e W3 (⟨rfl, hJ3, hk3⟩ | ⟨rfl, hJx3⟩)
       ·gi_wp2
        go_roundw
        case rel => exact ⟨5, by omega, rfl, by rw [HT8.out]; exact hJ3, hnz.trans hk3⟩
        case measure => simp [intOf]
       ·gi_wp2
        refine bodyPost_ret (results_none rfl _ _ _) rfl ?_
        exact ⟨⟨_, rfl⟩, .inr ⟨_, by have h := HX.out 5; rw [HT8.out] at h; exact h, hJx3⟩⟩
      ·obtain rfl := Option.some.inj hx
       have hix : (Instr.index 76 (.agg #[.int .i64 t.clock, .int .i64 t.epoch, .int .i64 t.cursor, .int .i64 t.read, .int .i64 t.written, .int .i64 t.nread, .int .i64 t.nwritten, .int .i64 (flagN t.failed)]) (.int .i64 5)).run Tryz.prog wr = .ok (.int .i64 t.nread) wr := run_index8 #[.int .i64 t.clock, .int .i64 t.epoch, .int .i64 t.cursor, .int .i64 t.read, .int .i64 t.written, .int .i64 t.nread, .int .i64 t.nwritten, .int .i64 (flagN t.failed)] 5 _ (by omega) rfl wr
       clear hJz
       gi_wp2
       refine hR.mono ?_
       rintro e W3 (⟨rfl, hJ3, hk3⟩ | ⟨rfl, hJx3⟩)
       ·gi_wp2
        go_roundw
        case rel => exact ⟨6, by omega, rfl, by rw [HT8.out]; exact hJ3, hnz.trans hk3⟩
        case measure => simp [intOf]
       ·gi_wp2
        refine bodyPost_ret (results_none rfl _ _ _) rfl ?_
        exact ⟨⟨_, rfl⟩, .inr ⟨_, by have h := HX.out 6; rw [HT8.out] at h; exact h, hJx3⟩⟩
      ·obtain rfl := Option.some.inj hx
       have hix : (Instr.index 76 (.agg #[.int .i64 t.clock, .int .i64 t.epoch, .int .i64 t.cursor, .int .i64 t.read, .int .i64 t.written, .int .i64 t.nread, .int .i64 t.nwritten, .int .i64 (flagN t.failed)]) (.int .i64 6)).run Tryz.prog wr = .ok (.int .i64 t.nwritten) wr := run_index8 #[.int .i64 t.clock, .int .i64 t.epoch, .int .i64 t.cursor, .int .i64 t.read, .int .i64 t.written, .int .i64 t.nread, .int .i64 t.nwritten, .int .i64 (flagN t.failed)] 6 _ (by omega) rfl wr
       clear hJz
       gi_wp2
       refine hR.mono ?_
       rintro e W3 (⟨rfl, hJ3, hk3⟩ | ⟨rfl, hJx3⟩)
       ·gi_wp2
        go_roundw
        case rel => exact ⟨7, by omega, rfl, by rw [HT8.out]; exact hJ3, hnz.trans hk3⟩
        case measure => simp [intOf]
       ·gi_wp2
        refine bodyPost_ret (results_none rfl _ _ _) rfl ?_
        exact ⟨⟨_, rfl⟩, .inr ⟨_, by have h := HX.out 7; rw [HT8.out] at h; exact h, hJx3⟩⟩
      ·obtain rfl := Option.some.inj hx
       have hix : (Instr.index 76 (.agg #[.int .i64 t.clock, .int .i64 t.epoch, .int .i64 t.cursor, .int .i64 t.read, .int .i64 t.written, .int .i64 t.nread, .int .i64 t.nwritten, .int .i64 (flagN t.failed)]) (.int .i64 7)).run Tryz.prog wr = .ok (.int .i64 (flagN t.failed)) wr := run_index8 #[.int .i64 t.clock, .int .i64 t.epoch, .int .i64 t.cursor, .int .i64 t.read, .int .i64 t.written, .int .i64 t.nread, .int .i64 t.nwritten, .int .i64 (flagN t.failed)] 7 _ (by omega) rfl wr
       clear hJz
       gi_wp2
       refine hR.mono ?_
       rintro e W3 (⟨rfl, hJ3, hk3⟩ | ⟨rfl, hJx3⟩)
       ·gi_wp2
        go_roundw
        case rel => exact ⟨8, by omega, rfl, by rw [HT8.out]; exact hJ3, hnz.trans hk3⟩
        case measure => simp [intOf]
       ·gi_wp2
        refine bodyPost_ret (results_none rfl _ _ _) rfl ?_
        exact ⟨⟨_, rfl⟩, .inr ⟨_, by have h := HX.out 8; rw [HT8.out] at h; exact h, hJx3⟩⟩
     ·obtain rfl : j = 8 := by omega
      have hJ8 : J ((L.take (k + 1)).flatMap macRow) wr := by rw [HTS.out]; exact hJz
      clear hJz
      gi_wp2
      go_roundw
      case rel => exact ⟨k + 1, by omega, by go_num, hJ8, hnz⟩
      case measure => simp [intOf]; omega
  ·obtain rfl : k = L.length := by omega
   gi_wp2
   go_end0
   exact ⟨⟨_, rfl⟩, .inl ⟨_, rfl, by simpa using hJs⟩⟩
end Go.Proofs.YtodmponjjhokdaaGreat.Mx
namespace Go.Proofs.YtodmponjjhokdaaGreat.Mx
open Go.ChangeShapes Go.WideShapes Go.ChangeAt Go.RowKit
set_option linter.unusedVariables false
attribute [local go_sem] Oper.semAt_some
theorem ownFrom_kept {β : Type} {B : Nat} {b : World} {L : List Box} (hB : b.heap.size ≤ B) : OwnFrom B (fun (_ : β) W => Kept b L W) := by
 intro s W W' row hs hg hr
 refine ⟨hs.1.grown hg hs.1.size (fun k e => Nat.le_trans hB (hr k e).1), fun x hx => ⟨(hs.2 x hx).1, ?_⟩⟩
 refine (hs.2 x hx).2.grown hg ?_
 intro e
 obtain ⟨_, o, ho, hc⟩ := hr x.1 e.symm
 rw [(hs.2 x hx).2] at ho
 cases ho; cases hc
theorem Kept.upto {b W W' : World} {L : List Box} {n : Nat} (h : Kept b L W) (hb : Below n W W') (h1 : b.heap.size ≤ n) (h2 : ∀ x ∈ L, x.1 < n) : Kept b L W' :=
 ⟨h.1.trans (hb.mono h1), fun x hx => ⟨(h.2 x hx).1, (hb.block x.1 (h2 x hx)).trans (h.2 x hx).2⟩⟩
theorem flat_i64 {L : List Tru} (h : TrusI L) : I64s (L.flatMap macRow) := by
 induction L with
 | nil => exact I64s.nil
 | cons t L ih =>
   rw [List.flatMap_cons]
   exact I64s.append (macRow_i64 (h 0 (by simp))) (ih (fun i hi => by have := h (i + 1) (by simpa using hi); simpa using this))
theorem fields_stops (n : Nat) (hn : 1 ≤ n) (Bn n₀ : Nat) (C : Option Addr) (L : List Tru) (cap2 : Nat) (hN : L.length ≤ 1048576) (w : World) (hBn : Bn < w.heap.size) (hn₀ : n₀ ≤ w.heap.size)
    (hc : w.cell? ⟨Bn, 0, none⟩ = some (.slice C L.length cap2)) (hL : Trs w n₀ C L) :
    SeqStopsK Fence.wide n Tryz.prog 43 #[.pointer (some ⟨Bn, 0, none⟩)] (fun x : Int => #[Value.int .i64 x]) (Below n₀) (fun ys => ys = L.flatMap macRow) (fun pre => pre <+: L.flatMap macRow) (L.length * 8) w := fun l J Jx W hW hJ _ hY h0 =>
 fields_in n hn l Bn n₀ C L cap2 hN J Jx (fun s X Y hs hg => hJ s X Y none hs hg (fun r e => by cases e)) hY W (Nat.le_trans hn₀ hW.size) ((hW.cell (p := ⟨Bn, 0, none⟩) hBn).trans hc) (hL.below (hW.mono hn₀) (Nat.le_refl _)) h0
set_option maxRecDepth 100000 in
set_option maxHeartbeats 4000000 in
theorem implMac_calls (key count : Int) (A C : Option Addr) (l : List Int) (cap : Nat) (hcap : l.length ≤ cap) (L : List Tru) (cap2 : Nat) (w : World) (hn : l.length ≤ 1048576) (hA : Ints w .i64 w.heap.size A l) (hN : L.length ≤ 1048576) (hC : Trs w w.heap.size C L) (hI : TrusI L) (hc0 : I64 count) :
    Calls Tryz.prog 10 #[.agg #[.int .i64 key, .slice A l.length cap], .int .i64 count, .slice C L.length cap2] w fun e w' => e = .returned (.int .i64 (macOf key l count L)) ∧ Below w.heap.size w w' := by
 have K0 := Lib.hid (show Kept w [(w.heap.size, 26, #[.int .i64 key, .slice A l.length cap])] _ from (Kept.refl w).put1 _ _ #[.int .i64 key, .slice A l.length cap] rfl)
 have hm2 : l.length ≤ maxLen := by unfold maxLen; omega
 have PO := Lib.hid (fun (u : World) (hb : Below w.heap.size w u) => planOk_calls key A l cap u hm2 hcap ((hA.below hb (Nat.le_refl _)).more hb.size))
 have HC := Lib.hid hC
 have HI := Lib.hid hI
 unfold macOf
 clear hA hC hn hI hcap hm2
 by_cases hp : planOk key l
 ·rw [if_pos hp]
  rw [okB_yes hp] at PO
  clear hp
  refine (callsIn_wide (n := 8)).1 ?_
  refine callsIn_of_wp_marks Tryz.func10 rfl trivial ?_ rfl
  simp only [Tryz.ntmps10, List.size_toArray, List.length_cons, List.length_nil, Nat.reduceAdd, Nat.reduceSub, Array.replicate_succ, Array.replicate_zero, List.push_toArray, List.append_toArray, List.nil_append, List.cons_append]
  gi_wp2_with fail
  refine ⟨trivial, callsIn_wide.2 ((PO.out _ K0.out.1).mono ?_)⟩; rintro e w1 ⟨rfl, b1⟩
  have h1 := K0.out.below b1
  have hs1 : w.heap.size + 1 ≤ w1.heap.size := h1.lt (x := (w.heap.size, 26, #[.int .i64 key, .slice A l.length cap])) (by simp)
  have RW := Lib.hid (Row.lit w1 (w.heap.size + 1) [3, count, (L.length : Int)] hs1 (by simp [maxLen]) (I64s.cons (by omega) (by omega) (I64s.cons hc0.1 hc0.2 (I64s.cons (by omega) (by omega) I64s.nil))))
  clear b1 K0
  have H1 := Lib.hid h1
  clear h1
  gi_wp2_with fail
  have hrow := RW.out
  have hkp := H1.out.below ((Below.refl _ _).alloc (Nat.le_refl _) (.cells #[.int .i64 3, .int .i64 count, .int .i64 (L.length : Int)] 2))
  clear RW H1
  refine ⟨trivial, callsIn_wide.2 ((fieldsOf_calls C L.length cap2 _).mono ?_)⟩; rintro e w' ⟨rfl, rfl⟩
  gi_wp2_with fail
  obtain ⟨i0, hi, hzz⟩ := Option.map_eq_some_iff.1 info_i64
  simp only [Prod.mk.injEq] at hzz
  obtain ⟨hz0, hz1, hz2⟩ := hzz
  have hrow1 : (w1.alloc (.cells #[.int .i64 3, .int .i64 count, .int .i64 (L.length : Int)] 2)).ownsRow (w.heap.size + 1) 2 1 (.slice (some ⟨w1.heap.size, 0, none⟩) 3 3) 3 (([3, count, (L.length : Int)] ++ []).map (Value.int .i64)) := hrow.1
  have bO := Boxed.new (w1.alloc (.cells #[.int .i64 3, .int .i64 count, .int .i64 (L.length : Int)] 2)) 24 (.slice (some ⟨w1.heap.size, 0, none⟩) 3 3)
  rw [World.size_alloc] at bO
  have bN := Boxed.new ((w1.alloc (.cells #[.int .i64 3, .int .i64 count, .int .i64 (L.length : Int)] 2)).alloc (.cells #[.slice (some ⟨w1.heap.size, 0, none⟩) 3 3] 24)) 27 (.slice C L.length cap2)
  rw [World.size_alloc, World.size_alloc] at bN
  have hrow0 := (hrow1.alloc (.cells #[.slice (some ⟨w1.heap.size, 0, none⟩) 3 3] 24)).alloc (.cells #[.slice C L.length cap2] 27)
  have hk0 := (hkp.below ((Below.refl _ _).alloc (Nat.le_refl _) (.cells #[.slice (some ⟨w1.heap.size, 0, none⟩) 3 3] 24))).below ((Below.refl _ _).alloc (Nat.le_refl _) (.cells #[.slice C L.length cap2] 27))
  have bO' := bO.alloc (.cells #[.slice C L.length cap2] 27)
  have hsz : (((w1.alloc (.cells #[.int .i64 3, .int .i64 count, .int .i64 (L.length : Int)] 2)).alloc (.cells #[.slice (some ⟨w1.heap.size, 0, none⟩) 3 3] 24)).alloc (.cells #[.slice C L.length cap2] 27)).heap.size = w1.heap.size + 3 := by simp
  have IL := Lib.hid hrow.2
  clear hrow hrow1 hkp bO
  generalize World.alloc _ _ = W0 at hrow0 hk0 bN bO' hsz ⊢
  have HCW := HC.out.below hk0.1 (Nat.le_refl _)
  refine wpIn_rangeFunc_ownF (gf := 43) (lb := #[.pointer (some ⟨w1.heap.size + 1 + 1, 0, none⟩)]) rfl (by omega) rfl trivial (enters_of Tryz.func43 (by kernel_rfl) rfl)
   (fields_stops 7 (by omega) (w1.heap.size + 1 + 1) w.heap.size C L cap2 hN W0 (by omega) (by omega) bN.cell HCW) belowK_t (belowK_b (by omega)) (Below.refl _ _) (fun _ => rfl)
   (fun pre W => (∃ v, Boxed W (w1.heap.size + 1) 24 v ∧ W.ownsRow (w.heap.size + 1) 2 1 v ([3, count, (L.length : Int)] ++ pre).length (([3, count, (L.length : Int)] ++ pre).map (Value.int .i64)) ∧ True) ∧ Kept w [(w.heap.size, 26, #[.int .i64 key, .slice A l.length cap])] W)
   (fun _ _ _ => False)
   (OwnFrom.and (Own.from (holdsRow_own (w.heap.size + 1) (w1.heap.size + 1) 24 2 1 (fun pre => ([3, count, (L.length : Int)] ++ pre).length) (fun pre => ([3, count, (L.length : Int)] ++ pre).map (Value.int .i64)) (fun pre v => True)) _) (ownFrom_kept (by omega)))
   (fun _ _ _ _ _ hs _ _ => hs)
   ⟨⟨_, bO', hrow0, trivial⟩, hk0⟩
   (fun x => { tmps := #[.agg #[.int .i64 key, .slice A l.length cap], .int .i64 count, .slice C L.length cap2, .pointer (some ⟨w.heap.size, 0, none⟩), undef, undef, .int .i64 0, .pointer (some ⟨w1.heap.size + 1, 0, none⟩), .int .i64 x, .agg #[.int .i64 key, .slice A l.length cap], .bool true, .bool false, .int .i64 count, .slice C L.length cap2, .int .i64 (L.length : Int), .slice (some ⟨w1.heap.size, 0, none⟩) 3 3, .slice C L.length cap2, .func (.func 43) #[] #[.pointer (some ⟨w1.heap.size + 1 + 1, 0, none⟩)], .int .i64 x, undef, undef, undef, undef, undef, undef, undef, undef], defers := [] }) ?assign ?body ?done ?stop
  case assign =>
   intro l x W K hK
   gi_wp2
   exact hK
  case body =>
   rintro l' pre x W ⟨⟨v, hv, hrow, -⟩, hkw⟩ hlt
   have hc := hv.cell
   have hln : ([3, count, (L.length : Int)] ++ pre).length ≤ 3 + pre.length := by rw [List.length_append]; exact Nat.le_refl _
   have hws : w.heap.size + 1 ≤ W.heap.size := hkw.lt (x := (w.heap.size, 26, #[.int .i64 key, .slice A l.length cap])) (by simp)
   have HS := Lib.hid (show ([3, count, (L.length : Int)] ++ (pre ++ [x])).map (Value.int .i64) = ([3, count, (L.length : Int)] ++ pre).map (Value.int .i64) ++ [.int .i64 x] from by rw [← List.append_assoc, List.map_append]; rfl)
   have HN2 := Lib.hid (show ([3, count, (L.length : Int)] ++ (pre ++ [x])).length = ([3, count, (L.length : Int)] ++ pre).length + 1 from by rw [← List.append_assoc, List.length_append]; rfl)
   generalize ([3, count, (L.length : Int)] ++ pre).map (Value.int .i64) = zs at hrow HS
   generalize ([3, count, (L.length : Int)] ++ pre).length = zl at hrow HN2 hln
   gi_wp2_with (gi_at_builtin; refine wpListIn_append_own _ rfl _ _ 24 rfl (w.heap.size + 1) 2 i0 (.int .i64 0) 1 8 Tryz.underlying24 hi hz0 hz1 hz2 rfl (by decide) _ _ _ rfl (hrow.alloc _) ⟨W.heap.size, 0, none⟩ 1 1 [.int .i64 x] rfl rfl (cell_one_new _ _ _) (by simp [Value.oneCell']) (by unfold maxLen; omega) (by omega) (by simp; omega) ?_; intro v' w2 hown' hgrow _; obtain ⟨g', cap', rfl⟩ := ownsRow_succ hown'; obtain ⟨hv1, hv2, hr2, hk2, hb2⟩ := hv.appended (by decide) hrow hws (by omega) hown' hgrow; have hc1 := hv1.cell; have hf1 := hv1.frozen)
   refine ⟨hk2, hb2.mono (by omega), ⟨_, hv2, by rw [HS.out, HN2.out]; exact hr2, trivial⟩, hkw.upto hb2 (by omega) (by intro y hy; simp at hy; subst hy; simp)⟩
  case done =>
   rintro D ys W hD rfl ⟨⟨v, hv, hrow, -⟩, hkw⟩ hK
   have hc := hv.cell
   obtain ⟨kc0, kf0, -⟩ := hkw.rd
   have hlen : ([3, count, (L.length : Int)] ++ L.flatMap macRow).length ≤ 3 + L.length * 8 := by rw [List.length_append, macRow_len]; exact Nat.le_refl _
   have hrr : Row W (w.heap.size + 1) 2 v ([3, count, (L.length : Int)] ++ L.flatMap macRow) := ⟨hrow, I64s.append IL.out (fun i hi => flat_i64 HI.out i hi)⟩
   obtain ⟨B, c, rfl, hI2⟩ := hrr.reads
   have MX := Lib.hid (fun u hu => mixed_calls key B ([3, count, (L.length : Int)] ++ L.flatMap macRow) c W.heap.size u (by unfold maxLen; omega) hu hrr.2)
   rw [show mixOf key ([3, count, (L.length : Int)] ++ L.flatMap macRow) = mixOf key (macList count L) from rfl] at MX
   have HIN := Lib.hid hI2
   have HKW := Lib.hid hkw.1
   obtain ⟨mx, hmx⟩ : ∃ m, m = mixOf key (macList count L) := ⟨_, rfl⟩
   rw [← hmx] at MX
   have HMX := Lib.hid hmx
   clear hmx
   generalize ([3, count, (L.length : Int)] ++ L.flatMap macRow).length = zl at MX hc
   clear hrr hrow hI2 hkw hv hlen
   gi_wp2_with fail
   refine ⟨trivial, callsIn_wide.2 ((MX.out _ HIN.out).mono ?_)⟩; rintro e w' ⟨rfl, rfl⟩
   gi_wp2_with fail
   refine ⟨by simp, .inl ⟨_, _, rfl, run_takeDeferred hK, ?_⟩⟩
   exact ⟨_, results_tmp rfl _ _ _, by rw [← HMX.out]; rfl, HKW.out.trans (belowK_b (w := w) (Nat.le_refl _) W D _ _ (by omega) hK rfl rfl)⟩
  case stop =>
   rintro D c pre W _ _ h _
   exact h.elim
 ·rw [if_neg hp]
  rw [okB_no hp] at PO
  clear hp
  go_enter Tryz.func10, Tryz.ntmps10
  go_wp2_with fail
  refine (PO.out _ K0.out.1).mono ?_; rintro e w1 ⟨rfl, b1⟩
  have h1 := K0.out.below b1
  clear b1 K0
  have H1 := Lib.hid h1
  clear h1
  go_wp2_with fail
  go_ret
  exact ⟨rfl, H1.out.1⟩
end Go.Proofs.YtodmponjjhokdaaGreat.Mx
namespace Go.Proofs.YtodmponjjhokdaaGreat.Mx
open Go.ChangeShapes Go.WideShapes Go.ChangeAt Go.RowKit
set_option linter.unusedVariables false
def CelAt (w : World) (b off : Nat) (t : Ce) : Prop := w.cell? ⟨b, off, none⟩ = some (.int .i64 t.1) ∧ w.cell? ⟨b, off + 1, none⟩ = some (.int .i64 t.2)
theorem CelAt.below {w u : World} {B b off : Nat} {t : Ce} (h : CelAt w b off t) (hb : Below B w u) (hlt : b < B) : CelAt u b off t := by
 have f := fun o => hb.cell (p := ⟨b, o, none⟩) hlt
 exact ⟨(f _).trans h.1, (f _).trans h.2⟩
theorem Cls.at_ {w : World} {B : Nat} {A : Option Addr} {L : List Ce} {k : Nat} (h : Cls w B A L) (hk : k < L.length) : ∃ b off, A = some ⟨b, off, none⟩ ∧ b < B ∧ CelAt w b (off + k * 2) (L.getD k default) := by
 obtain ⟨b, off, e, hb, hc⟩ := h k hk
 exact ⟨b, off, e, hb, hc 0 (by omega), hc 1 (by omega)⟩
def cellsOk (key : Int) (l : List Int) (L : List Ce) : Prop := (∀ i, i < L.length → isCell (L.getD i default).1 (L.getD i default).2) ∧ (L.length : Int) = sectorsOf key l
open Classical in
noncomputable def cellsB (key : Int) (l : List Int) (L : List Ce) : Bool := decide (cellsOk key l L)
open Classical in
theorem cellsB_yes {key : Int} {l : List Int} {L : List Ce} (h : cellsOk key l L) : cellsB key l L = true := by unfold cellsB; exact decide_eq_true h
open Classical in
theorem cellsB_no {key : Int} {l : List Int} {L : List Ce} (h : ¬ cellsOk key l L) : cellsB key l L = false := by unfold cellsB; exact decide_eq_false h
def UpToCell (L : List Ce) (k : Nat) : Prop := ∀ i, i < k → isCell (L.getD i default).1 (L.getD i default).2
set_option maxRecDepth 20000 in
set_option maxHeartbeats 4000000 in
theorem l11Cells_calls (key : Int) (A C : Option Addr) (l : List Int) (cap : Nat) (L : List Ce) (cap2 : Nat) (w : World) (hn : l.length ≤ maxLen) (hA : Ints w .i64 w.heap.size A l) (hN : L.length ≤ maxLen) (hC : Cls w w.heap.size C L) :
    Calls Tryz.prog 108 #[.agg #[.int .i64 key, .slice A l.length cap], .slice C L.length cap2] w fun e w' => e = .returned (.bool (cellsB key l L)) ∧ Below w.heap.size w w' := by
 have K0 := Lib.hid (show Kept w [(w.heap.size, 26, #[.int .i64 key, .slice A l.length cap])] _ from (Kept.refl w).put1 _ _ #[.int .i64 key, .slice A l.length cap] rfl)
 have PO := Lib.hid (fun (u : World) (hb : Below w.heap.size w u) => specSectors_calls key A l cap u hn ((hA.below hb (Nat.le_refl _)).more hb.size))
 have TO := Lib.hid (fun (t : Ce) (u : World) => specCellOk_calls t.1 t.2 u)
 have HC := Lib.hid hC
 have hm := hN
 unfold maxLen at hm
 clear hA hC hN hn
 go_enter Tryz.func108, Tryz.ntmps108
 go_wp2_with fail
 go_loopw [5] (fun i wr => ∃ k : Nat, k ≤ L.length ∧ i = .int .i64 k ∧ UpToCell L k ∧ Kept w [(w.heap.size, 26, #[.int .i64 key, .slice A l.length cap])] wr) (fun i _ => L.length - (intOf i).toNat)
 case atStart => exact ⟨0, Nat.zero_le _, rfl, fun i hi => absurd hi (by omega), K0.out⟩
 case round =>
  obtain ⟨k, hk, rfl, hup, hz⟩ := hrel
  have HU := Lib.hid hup
  clear hup
  by_cases hlt : k < L.length
  ·obtain ⟨b, off, rfl, hb, hc⟩ := HC.out.at_ hlt
   have hlt' : (k : Int) < L.length := by omega
   have hk0 : (0 : Int) ≤ k := by omega
   have TB := Lib.hid (TO.out (L.getD k default))
   obtain ⟨c0, c1⟩ := hc.below hz.1 hb
   by_cases hok : isCell (L.getD k default).1 (L.getD k default).2
   ·have NX := Lib.hid (show UpToCell L (k + 1) from fun i hi => by
      rcases Nat.lt_or_ge i k with h | h
      ·exact HU.out i h
      ·obtain rfl : i = k := by omega
       exact hok)
    rw [decide_eq_true hok] at TB
    clear hok HU
    generalize L.getD k default = t at hc TB c0 c1
    go_wp2_with fail
    refine (TB.out _).mono ?_; rintro e w1 ⟨rfl, b1⟩
    have h1 := hz.below b1
    clear b1 hz c0 c1
    go_wp2_with fail
    go_roundw
    case rel => exact ⟨k + 1, by omega, by go_num, NX.out, h1⟩
    case measure => simp [intOf]; omega
   ·rw [decide_eq_false hok] at TB
    have HX := Lib.hid (cellsB_no (l := l) (L := L) (key := key) (fun h => hok (h.1 k hlt)))
    clear hok HU
    generalize L.getD k default = t at hc TB c0 c1
    go_wp2_with fail
    refine (TB.out _).mono ?_; rintro e w1 ⟨rfl, b1⟩
    have h1 := hz.below b1
    clear b1 hz c0 c1
    go_wp2_with fail
    go_ret
    exact ⟨by rw [HX.out]; rfl, h1.1⟩
  ·have hk' : k = L.length := by omega
   subst hk'
   have PB := PO
   by_cases hs : (L.length : Int) = sectorsOf key l
   ·have HX := Lib.hid (cellsB_yes (show cellsOk key l L from ⟨HU.out, hs⟩))
    have hbl : ((L.length : Int) == sectorsOf key l) = true := beq_iff_eq.2 hs
    generalize sectorsOf key l = ss at PB hbl
    clear hs
    obtain ⟨kc0, kf0, -⟩ := hz.rd
    go_wp2_with fail
    refine (PB.out _ hz.1).mono ?_; rintro e w1 ⟨rfl, b1⟩
    have h1 := hz.below b1
    clear b1 hz kc0 kf0
    go_wp2_with fail
    go_ret
    exact ⟨by rw [HX.out]; rfl, h1.1⟩
   ·have HX := Lib.hid (cellsB_no (show ¬ cellsOk key l L from fun h => hs h.2))
    have hbl : ((L.length : Int) == sectorsOf key l) = false := beq_false_of_ne hs
    generalize sectorsOf key l = ss at PB hbl
    clear hs
    obtain ⟨kc0, kf0, -⟩ := hz.rd
    go_wp2_with fail
    refine (PB.out _ hz.1).mono ?_; rintro e w1 ⟨rfl, b1⟩
    have h1 := hz.below b1
    clear b1 hz kc0 kf0
    go_wp2_with fail
    go_ret
    exact ⟨by rw [HX.out]; rfl, h1.1⟩
end Go.Proofs.YtodmponjjhokdaaGreat.Mx

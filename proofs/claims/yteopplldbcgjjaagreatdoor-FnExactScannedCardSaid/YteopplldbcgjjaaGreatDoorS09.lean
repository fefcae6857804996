import Derived.Test.YteopplldbcgjjaaGreatDoorS07
import Derived.Test.YteopplldbcgjjaaGreatDoorS08
namespace Go.Proofs.YteopplldbcgjjaaGreatDoor.Mx
open Go.ChangeShapes Go.WideShapes Go.ChangeAt Go.RowKit
set_option linter.unusedVariables false
def RefQ (w : World) (a : Addr) (t0 t1 t2 t3 t4 t5 t6 : Int) (t7 : Bool) (ct cv : Int) (e : Ending) (w' : World) : Prop := ∃ r, e = .returned (.iface 118 (.pointer (some ⟨r, 0, none⟩))) ∧ CellsAt w' r 122 #[.iface 212 (.pointer (some a)), .int .i64 t0, .int .i64 t1, .int .i64 t2, .int .i64 t3, .int .i64 t4, .int .i64 t5, .int .i64 t6, .bool t7, .int .i64 ct, .int .i64 cv] ∧ Below w.heap.size w w'
set_option maxRecDepth 20000 in
set_option maxHeartbeats 4000000 in
theorem refd_bad (a0 a1 a2 a3 : Addr) (ct cv t0 t1 t2 t3 t4 t5 t6 : Int) (t7 sp : Bool) (w : World) (he : Errs w a0 a1 a2 a3) :
    Calls Tryz.prog 70 #[.agg #[.int .i64 t0, .int .i64 t1, .int .i64 t2, .int .i64 t3, .int .i64 t4, .int .i64 t5, .int .i64 t6, .bool t7], .agg #[.int .i64 ct, .int .i64 cv], .bool false, .bool sp] w (RefQ w a0 0 0 0 0 0 0 0 false 0 0) := by
  have K0 := Lib.hid (show Kept w [(w.heap.size + 1, 30, #[.int .i64 ct, .int .i64 cv]), (w.heap.size, 28, #[.int .i64 t0, .int .i64 t1, .int .i64 t2, .int .i64 t3, .int .i64 t4, .int .i64 t5, .int .i64 t6, .bool t7])] _ from (((Kept.refl w).put1 _ _ #[.int .i64 t0, .int .i64 t1, .int .i64 t2, .int .i64 t3, .int .i64 t4, .int .i64 t5, .int .i64 t6, .bool t7] rfl).put1 _ _ #[.int .i64 ct, .int .i64 cv] (by simp)))
  have EC := Lib.hid (fun (u : World) (hb : Below w.heap.size w u) => he.below hb)
  clear he
  go_enter Tryz.func70, Tryz.ntmps70
  go_upto_region 1 with fail
  have k1 := K0.out
  clear K0
  generalize World.alloc _ _ = w1 at k1 ⊢
  obtain ⟨-, ⟨g0, g1, g2, g3⟩, -⟩ := EC.out _ k1.1
  obtain ⟨kc0, kf0, kc1, kf1, -⟩ := k1.rd
  have K9 := Lib.hid k1
  clear k1 EC
  go_wp2_with fail
  go_ret
  exact ⟨w1.heap.size, rfl, CellsAt.new w1 _ _, K9.out.1.trans ((allocP w1 _).mono K9.out.1.size)⟩
set_option maxRecDepth 20000 in
set_option maxHeartbeats 4000000 in
theorem refd_failed (a0 a1 a2 a3 : Addr) (ct cv t0 t1 t2 t3 t4 t5 t6 : Int) (sp : Bool) (w : World) (he : Errs w a0 a1 a2 a3) :
    Calls Tryz.prog 70 #[.agg #[.int .i64 t0, .int .i64 t1, .int .i64 t2, .int .i64 t3, .int .i64 t4, .int .i64 t5, .int .i64 t6, .bool true], .agg #[.int .i64 ct, .int .i64 cv], .bool true, .bool sp] w (RefQ w a1 t0 t1 t2 t3 t4 t5 t6 true ct cv) := by
  have K0 := Lib.hid (show Kept w [(w.heap.size + 1, 30, #[.int .i64 ct, .int .i64 cv]), (w.heap.size, 28, #[.int .i64 t0, .int .i64 t1, .int .i64 t2, .int .i64 t3, .int .i64 t4, .int .i64 t5, .int .i64 t6, .bool true])] _ from (((Kept.refl w).put1 _ _ #[.int .i64 t0, .int .i64 t1, .int .i64 t2, .int .i64 t3, .int .i64 t4, .int .i64 t5, .int .i64 t6, .bool true] rfl).put1 _ _ #[.int .i64 ct, .int .i64 cv] (by simp)))
  have EC := Lib.hid (fun (u : World) (hb : Below w.heap.size w u) => he.below hb)
  clear he
  go_enter Tryz.func70, Tryz.ntmps70
  go_upto_region 1 with fail
  have k1 := K0.out
  clear K0
  generalize World.alloc _ _ = w1 at k1 ⊢
  obtain ⟨-, ⟨g0, g1, g2, g3⟩, -⟩ := EC.out _ k1.1
  obtain ⟨kc0, kf0, kc1, kf1, -⟩ := k1.rd
  have K9 := Lib.hid k1
  clear k1 EC
  go_wp2_with fail
  go_ret
  exact ⟨w1.heap.size, rfl, CellsAt.new w1 _ _, K9.out.1.trans ((allocP w1 _).mono K9.out.1.size)⟩
set_option maxRecDepth 20000 in
set_option maxHeartbeats 4000000 in
theorem refd_spent (a0 a1 a2 a3 : Addr) (ct cv t0 t1 t2 t3 t4 t5 t6 : Int) (w : World) (he : Errs w a0 a1 a2 a3) :
    Calls Tryz.prog 70 #[.agg #[.int .i64 t0, .int .i64 t1, .int .i64 t2, .int .i64 t3, .int .i64 t4, .int .i64 t5, .int .i64 t6, .bool false], .agg #[.int .i64 ct, .int .i64 cv], .bool true, .bool true] w (RefQ w a2 t0 t1 t2 t3 t4 t5 t6 false ct cv) := by
  have K0 := Lib.hid (show Kept w [(w.heap.size + 1, 30, #[.int .i64 ct, .int .i64 cv]), (w.heap.size, 28, #[.int .i64 t0, .int .i64 t1, .int .i64 t2, .int .i64 t3, .int .i64 t4, .int .i64 t5, .int .i64 t6, .bool false])] _ from (((Kept.refl w).put1 _ _ #[.int .i64 t0, .int .i64 t1, .int .i64 t2, .int .i64 t3, .int .i64 t4, .int .i64 t5, .int .i64 t6, .bool false] rfl).put1 _ _ #[.int .i64 ct, .int .i64 cv] (by simp)))
  have EC := Lib.hid (fun (u : World) (hb : Below w.heap.size w u) => he.below hb)
  clear he
  go_enter Tryz.func70, Tryz.ntmps70
  go_upto_region 1 with fail
  have k1 := K0.out
  clear K0
  generalize World.alloc _ _ = w1 at k1 ⊢
  obtain ⟨-, ⟨g0, g1, g2, g3⟩, -⟩ := EC.out _ k1.1
  obtain ⟨kc0, kf0, kc1, kf1, -⟩ := k1.rd
  have K9 := Lib.hid k1
  clear k1 EC
  go_wp2_with fail
  go_ret
  exact ⟨w1.heap.size, rfl, CellsAt.new w1 _ _, K9.out.1.trans ((allocP w1 _).mono K9.out.1.size)⟩
set_option maxRecDepth 20000 in
set_option maxHeartbeats 4000000 in
theorem refd_caught (a0 a1 a2 a3 : Addr) (ct cv t0 t1 t2 t3 t4 t5 t6 : Int) (w : World) (he : Errs w a0 a1 a2 a3) (h2 : t0 < ct) :
    Calls Tryz.prog 70 #[.agg #[.int .i64 t0, .int .i64 t1, .int .i64 t2, .int .i64 t3, .int .i64 t4, .int .i64 t5, .int .i64 t6, .bool false], .agg #[.int .i64 ct, .int .i64 cv], .bool true, .bool false] w (RefQ w a3 t0 t1 t2 t3 t4 t5 t6 true ct cv) := by
  have K0 := Lib.hid (show Kept w [(w.heap.size + 1, 30, #[.int .i64 ct, .int .i64 cv]), (w.heap.size, 28, #[.int .i64 t0, .int .i64 t1, .int .i64 t2, .int .i64 t3, .int .i64 t4, .int .i64 t5, .int .i64 t6, .bool false])] _ from (((Kept.refl w).put1 _ _ #[.int .i64 t0, .int .i64 t1, .int .i64 t2, .int .i64 t3, .int .i64 t4, .int .i64 t5, .int .i64 t6, .bool false] rfl).put1 _ _ #[.int .i64 ct, .int .i64 cv] (by simp)))
  have EC := Lib.hid (fun (u : World) (hb : Below w.heap.size w u) => he.below hb)
  clear he
  have hq1 : decide (t0 < ct) = true := decide_eq_true h2
  go_enter Tryz.func70, Tryz.ntmps70
  go_upto_region 1 with fail
  have k1 := K0.out
  clear K0
  generalize World.alloc _ _ = w1 at k1 ⊢
  obtain ⟨-, ⟨g0, g1, g2, g3⟩, -⟩ := EC.out _ k1.1
  obtain ⟨kc0, kf0, kc1, kf1, -⟩ := k1.rd
  go_upto_region 9 with fail
  have k2 : Kept w [(w.heap.size + 1, 30, #[.int .i64 ct, .int .i64 cv]), (w.heap.size, 28, #[.int .i64 t0, .int .i64 t1, .int .i64 t2, .int .i64 t3, .int .i64 t4, .int .i64 t5, .int .i64 t6, .bool true])] _ := k1.put (k := 1) rfl (by unfold Apart; simp <;> omega) (gb_set (gb_refl _ (some w.heap.size)) 7 (.bool true)) ((k1.at_ (p := w.heap.size) (t := 28) (cs := #[.int .i64 t0, .int .i64 t1, .int .i64 t2, .int .i64 t3, .int .i64 t4, .int .i64 t5, .int .i64 t6, .bool false]) (by simp)).set_ 7 _)
  clear g0 g1 g2 g3 kc0 kf0 kc1 kf1 k1
  generalize World.setCell _ _ _ = w2 at k2 ⊢
  obtain ⟨-, ⟨g0, g1, g2, g3⟩, -⟩ := EC.out _ k2.1
  obtain ⟨kc0, kf0, kc1, kf1, -⟩ := k2.rd
  have K9 := Lib.hid k2
  clear k2 EC
  go_wp2_with fail
  go_ret
  exact ⟨w2.heap.size, rfl, CellsAt.new w2 _ _, K9.out.1.trans ((allocP w2 _).mono K9.out.1.size)⟩
set_option maxRecDepth 20000 in
set_option maxHeartbeats 4000000 in
theorem refd_none (a0 a1 a2 a3 : Addr) (ct cv t0 t1 t2 t3 t4 t5 t6 : Int) (w : World) (he : Errs w a0 a1 a2 a3) (h2 : ¬ t0 < ct) :
    Calls Tryz.prog 70 #[.agg #[.int .i64 t0, .int .i64 t1, .int .i64 t2, .int .i64 t3, .int .i64 t4, .int .i64 t5, .int .i64 t6, .bool false], .agg #[.int .i64 ct, .int .i64 cv], .bool true, .bool false] w (fun e w' => e = .returned .nilIface ∧ Below w.heap.size w w') := by
  have K0 := Lib.hid (show Kept w [(w.heap.size + 1, 30, #[.int .i64 ct, .int .i64 cv]), (w.heap.size, 28, #[.int .i64 t0, .int .i64 t1, .int .i64 t2, .int .i64 t3, .int .i64 t4, .int .i64 t5, .int .i64 t6, .bool false])] _ from (((Kept.refl w).put1 _ _ #[.int .i64 t0, .int .i64 t1, .int .i64 t2, .int .i64 t3, .int .i64 t4, .int .i64 t5, .int .i64 t6, .bool false] rfl).put1 _ _ #[.int .i64 ct, .int .i64 cv] (by simp)))
  have EC := Lib.hid (fun (u : World) (hb : Below w.heap.size w u) => he.below hb)
  clear he
  have hq1 : decide (t0 < ct) = false := decide_eq_false h2
  clear h2
  go_enter Tryz.func70, Tryz.ntmps70
  go_upto_region 1 with fail
  have k1 := K0.out
  clear K0
  generalize World.alloc _ _ = w1 at k1 ⊢
  obtain ⟨-, ⟨g0, g1, g2, g3⟩, -⟩ := EC.out _ k1.1
  obtain ⟨kc0, kf0, kc1, kf1, -⟩ := k1.rd
  have K9 := Lib.hid k1
  clear k1 EC
  go_wp2_with fail
  go_ret
  exact ⟨rfl, K9.out.1⟩
theorem valueIn_i64 (key a t v : Int) : I64 (valueIn key a t v) := by
  unfold valueIn
  split
  · unfold shownOf
    have := turnOf_bd (streamOf key a t) (10007 - streamOf key a t) v
    unfold I64; omega
  · exact ⟨by decide, by decide⟩
end Go.Proofs.YteopplldbcgjjaaGreatDoor.Mx

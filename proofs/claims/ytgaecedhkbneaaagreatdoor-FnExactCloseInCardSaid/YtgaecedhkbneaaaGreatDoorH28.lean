import Derived.Test.YtgaecedhkbneaaaGreatDoorH23
import Derived.Test.YtgaecedhkbneaaaGreatDoorH14
import Derived.Test.YtgaecedhkbneaaaGreatDoorH16
namespace Go.Proofs.YtgaecedhkbneaaaGreatDoor.Mx
open Go.ChangeShapes Go.WideShapes Go.ChangeAt Go.RowKit
set_option linter.unusedVariables false
def RefQ (w : World) (a : Addr) (t0 t1 t2 t3 t4 t5 t6 : Int) (t7 : Bool) (ct cv : Int) (e : Ending) (w' : World) : Prop := ∃ r, e = .returned (.iface 207 (.pointer (some ⟨r, 0, none⟩))) ∧ CellsAt w' r 211 #[.iface 264 (.pointer (some a)), .int .i64 t0, .int .i64 t1, .int .i64 t2, .int .i64 t3, .int .i64 t4, .int .i64 t5, .int .i64 t6, .bool t7, .int .i64 ct, .int .i64 cv] ∧ Below w.heap.size w w'
set_option maxRecDepth 20000 in
set_option maxHeartbeats 4000000 in
theorem refd_failed (a0 a1 a2 a3 : Addr) (ct cv t0 t1 t2 t3 t4 t5 t6 : Int) (sp : Bool) (w : World) (he : Errs w a0 a1 a2 a3) :
    Calls Tryz.prog 197 #[.agg (tA t0 t1 t2 t3 t4 t5 t6 true), .agg (cA ct cv), .bool true, .bool sp] w (RefQ w a1 t0 t1 t2 t3 t4 t5 t6 true ct cv) := by
  have K0 := Lib.hid (show Kept w [(w.heap.size + 1, 112, (cA ct cv)), (w.heap.size, 80, (tA t0 t1 t2 t3 t4 t5 t6 true))] _ from (((Kept.refl w).put1 _ _ (tA t0 t1 t2 t3 t4 t5 t6 true) rfl).put1 _ _ (cA ct cv) (by simp)))
  have EC := Lib.hid (fun (u : World) (hb : Below w.heap.size w u) => he.below hb)
  clear he
  go_enter Tryz.func197, Tryz.ntmps197
  go_upto_region 1 with fail
  have k1 := K0.out
  clear K0
  generalize World.alloc _ _ = w1 at k1 ⊢
  obtain ⟨-, ⟨g0, g1, g2, g3⟩, -⟩ := EC.out _ k1.1
  obtain ⟨kc0, kf0, kc1, kf1, -⟩ := k1.rd
  have K9 := Lib.hid k1
  clear k1 EC
  go_wp2_with fail
  go_ret
  exact ⟨w1.heap.size, rfl, CellsAt.new w1 _ _, K9.out.1.trans ((allocP w1 _).mono K9.out.1.size)⟩
set_option maxRecDepth 20000 in
set_option maxHeartbeats 4000000 in
theorem refd_spent (a0 a1 a2 a3 : Addr) (ct cv t0 t1 t2 t3 t4 t5 t6 : Int) (w : World) (he : Errs w a0 a1 a2 a3) :
    Calls Tryz.prog 197 #[.agg (tA t0 t1 t2 t3 t4 t5 t6 false), .agg (cA ct cv), .bool true, .bool true] w (RefQ w a2 t0 t1 t2 t3 t4 t5 t6 false ct cv) := by
  have K0 := Lib.hid (show Kept w [(w.heap.size + 1, 112, (cA ct cv)), (w.heap.size, 80, (tA t0 t1 t2 t3 t4 t5 t6 false))] _ from (((Kept.refl w).put1 _ _ (tA t0 t1 t2 t3 t4 t5 t6 false) rfl).put1 _ _ (cA ct cv) (by simp)))
  have EC := Lib.hid (fun (u : World) (hb : Below w.heap.size w u) => he.below hb)
  clear he
  go_enter Tryz.func197, Tryz.ntmps197
  go_upto_region 1 with fail
  have k1 := K0.out
  clear K0
  generalize World.alloc _ _ = w1 at k1 ⊢
  obtain ⟨-, ⟨g0, g1, g2, g3⟩, -⟩ := EC.out _ k1.1
  obtain ⟨kc0, kf0, kc1, kf1, -⟩ := k1.rd
  have K9 := Lib.hid k1
  clear k1 EC
  go_wp2_with fail
  go_ret
  exact ⟨w1.heap.size, rfl, CellsAt.new w1 _ _, K9.out.1.trans ((allocP w1 _).mono K9.out.1.size)⟩
set_option maxRecDepth 20000 in
set_option maxHeartbeats 4000000 in
theorem refd_caught (a0 a1 a2 a3 : Addr) (ct cv t0 t1 t2 t3 t4 t5 t6 : Int) (w : World) (he : Errs w a0 a1 a2 a3) (h2 : t0 < ct) :
    Calls Tryz.prog 197 #[.agg (tA t0 t1 t2 t3 t4 t5 t6 false), .agg (cA ct cv), .bool true, .bool false] w (RefQ w a3 t0 t1 t2 t3 t4 t5 t6 true ct cv) := by
  have K0 := Lib.hid (show Kept w [(w.heap.size + 1, 112, (cA ct cv)), (w.heap.size, 80, (tA t0 t1 t2 t3 t4 t5 t6 false))] _ from (((Kept.refl w).put1 _ _ (tA t0 t1 t2 t3 t4 t5 t6 false) rfl).put1 _ _ (cA ct cv) (by simp)))
  have EC := Lib.hid (fun (u : World) (hb : Below w.heap.size w u) => he.below hb)
  clear he
  have hq1 : decide (t0 < ct) = true := decide_eq_true h2
  go_enter Tryz.func197, Tryz.ntmps197
  go_upto_region 1 with fail
  have k1 := K0.out
  clear K0
  generalize World.alloc _ _ = w1 at k1 ⊢
  obtain ⟨-, ⟨g0, g1, g2, g3⟩, -⟩ := EC.out _ k1.1
  obtain ⟨kc0, kf0, kc1, kf1, -⟩ := k1.rd
  go_upto_region 9 with fail
  have k2 : Kept w [(w.heap.size + 1, 112, (cA ct cv)), (w.heap.size, 80, (tA t0 t1 t2 t3 t4 t5 t6 true))] _ := k1.put (k := 1) rfl (by unfold Apart; simp <;> omega) (gb_set (gb_refl _ (some w.heap.size)) 7 (.bool true)) ((k1.at_ (p := w.heap.size) (t := 80) (cs := (tA t0 t1 t2 t3 t4 t5 t6 false)) (by simp)).set_ 7 _)
  clear g0 g1 g2 g3 kc0 kf0 kc1 kf1 k1
  generalize World.setCell _ _ _ = w2 at k2 ⊢
  obtain ⟨-, ⟨g0, g1, g2, g3⟩, -⟩ := EC.out _ k2.1
  obtain ⟨kc0, kf0, kc1, kf1, -⟩ := k2.rd
  have K9 := Lib.hid k2
  clear k2 EC
  go_wp2_with fail
  go_ret
  exact ⟨w2.heap.size, rfl, CellsAt.new w2 _ _, K9.out.1.trans ((allocP w2 _).mono K9.out.1.size)⟩
set_option maxRecDepth 20000 in
set_option maxHeartbeats 4000000 in
theorem refd_none (a0 a1 a2 a3 : Addr) (ct cv t0 t1 t2 t3 t4 t5 t6 : Int) (w : World) (he : Errs w a0 a1 a2 a3) (h2 : ¬ t0 < ct) :
    Calls Tryz.prog 197 #[.agg (tA t0 t1 t2 t3 t4 t5 t6 false), .agg (cA ct cv), .bool true, .bool false] w (fun e w' => e = .returned .nilIface ∧ Below w.heap.size w w') := by
  have K0 := Lib.hid (show Kept w [(w.heap.size + 1, 112, (cA ct cv)), (w.heap.size, 80, (tA t0 t1 t2 t3 t4 t5 t6 false))] _ from (((Kept.refl w).put1 _ _ (tA t0 t1 t2 t3 t4 t5 t6 false) rfl).put1 _ _ (cA ct cv) (by simp)))
  have EC := Lib.hid (fun (u : World) (hb : Below w.heap.size w u) => he.below hb)
  clear he
  have hq1 : decide (t0 < ct) = false := decide_eq_false h2
  clear h2
  go_enter Tryz.func197, Tryz.ntmps197
  go_upto_region 1 with fail
  have k1 := K0.out
  clear K0
  generalize World.alloc _ _ = w1 at k1 ⊢
  obtain ⟨-, ⟨g0, g1, g2, g3⟩, -⟩ := EC.out _ k1.1
  obtain ⟨kc0, kf0, kc1, kf1, -⟩ := k1.rd
  have K9 := Lib.hid k1
  clear k1 EC
  go_wp2_with fail
  go_ret
  exact ⟨rfl, K9.out.1⟩
theorem valueIn_i64 (key a t v : Int) : I64 (valueIn key a t v) := by
  unfold valueIn
  split
  · unfold shownOf
    have := turnOf_bd (streamOf key a t) (10007 - streamOf key a t) v
    unfold I64; omega
  · exact ⟨by decide, by decide⟩
theorem steps_loadN {P : Program} {ρ : Operand → Value} {o : Oper} {t : TypeId} {x : Operand} {w : World} {K : Value → World → Prop} {a : Addr} {z : Value} (hc : w.cell? a = some z) (hop : o.op = .load t x) (hx : ρ x = .pointer (some a)) (hu : ∃ k, P.underlying t = some (.int k)) (h : K z w) : stepsTo P ((execOp ρ o).run P w) K := by
  obtain ⟨k, hu⟩ := hu
  have e2 : (execOp ρ o).run P w = .ok (.value z) w := by
    unfold execOp
    rw [hop]
    simp [hx, Instr.loadAt, Instr.sureAddr, loadVar, isAgg, underlying, hu, hc, Result.andThen]
  rw [e2]
  exact h
theorem steps_nilN {P : Program} {ρ : Operand → Value} {o : Oper} {x : Operand} {w : World} {K : Value → World → Prop} {a : Addr} (hop : o.op = .nilCheck x) (hx : ρ x = .pointer (some a)) (h : K (.pointer (some a)) w) : stepsTo P ((execOp ρ o).run P w) K := by
  have e2 : (execOp ρ o).run P w = .ok (.value (.pointer (some a))) w := by
    unfold execOp
    rw [hop]
    simp [hx, go_sem]
  rw [e2]
  exact h
theorem steps_addN {P : Program} {ρ : Operand → Value} {o : Oper} {t t' : TypeId} {x y : Operand} {w : World} {K : Value → World → Prop} {a b : Int} (hop : o.op = .binOp .add t x y t') (hx : ρ x = .int .i64 a) (hy : ρ y = .int .i64 b) (h : K (.int .i64 (IntKind.i64.wrap (a + b))) w) : stepsTo P ((execOp ρ o).run P w) K := by
  have e2 : (execOp ρ o).run P w = .ok (.value (.int .i64 (IntKind.i64.wrap (a + b)))) w := by
    unfold execOp
    rw [hop]
    simp [hx, hy, eqGuard, binOp, Op.intArith, go_sem]
  rw [e2]
  exact h
def GoC (K0 K1 K2 : World → Prop) (D : Nat → Bool) (u : World) : Prop :=
  (D 14 = true → D 12 = true ∧ D 7 = true) ∧ (D 12 = true → D 11 = true ∧ D 7 = true) ∧ (D 16 = true → D 14 = true) ∧ (D 14 = false → K0 u) ∧ (D 14 = true → D 16 = false → K1 u) ∧ (D 16 = true → K2 u)
namespace GoC
variable {K0 K1 K2 : World → Prop} {D : Nat → Bool} {u u' : World}
theorem start (h : K0 u) : GoC K0 K1 K2 (fun _ => false) u := ⟨fun e => (by cases e), fun e => (by cases e), fun e => (by cases e), fun _ => h, fun e => (by cases e), fun e => (by cases e)⟩
theorem bf {a b : Bool} (h : a = true → b = true) (hb : b = false) : a = false := by cases a; rfl; have := h rfl; rw [hb] at this; cases this
theorem pre12 (h : GoC K0 K1 K2 D u) (e : D 12 = false) : D 14 = false ∧ D 16 = false := by
  have e1 := bf (fun e => (h.1 e).1) e
  exact ⟨e1, bf h.2.2.1 e1⟩
theorem nil (h : GoC K0 K1 K2 D u) : GoC K0 K1 K2 (setD D 9) u := by
  obtain ⟨h1, h2, h3, h4, h5, h6⟩ := h
  have e : ∀ k, k ≠ 9 → setD D 9 k = D k := fun k hk => by unfold setD; simp [hk]
  unfold GoC
  rw [e 14 (by decide), e 12 (by decide), e 7 (by decide), e 11 (by decide), e 16 (by decide)]
  exact ⟨h1, h2, h3, h4, h5, h6⟩
theorem on (h : GoC K0 K1 K2 D u) (k : Nat) (hk : k = 7 ∨ k = 11 ∨ k = 12) (e14 : D 14 = false) (e16 : D 16 = false) (h12 : k = 12 → D 11 = true ∧ D 7 = true) (hK : K0 u') : GoC K0 K1 K2 (setD D k) u' := by
  obtain ⟨h1, h2, h3, h4, h5, h6⟩ := h
  have n14 : ¬ 14 = k := by omega
  have n16 : ¬ 16 = k := by omega
  refine ⟨fun e => ?_, fun e => ?_, fun e => ?_, fun _ => hK, fun e => ?_, fun e => ?_⟩
  · unfold setD at e; simp [n14, e14] at e
  · unfold setD at e ⊢
    by_cases h9 : k = 12
    · have := h12 h9; simp [this]
    · have h9' : ¬ 12 = k := fun e => h9 e.symm
      have := h2 (by simpa [h9'] using e)
      simp [this]
  · unfold setD at e; simp [n16, e16] at e
  · unfold setD at e; simp [n14, e14] at e
  · unfold setD at e; simp [n16, e16] at e
theorem did (h : GoC K0 K1 K2 D u) (e14 : D 14 = false) (h12 : D 12 = true) (h7 : D 7 = true) (hK : K1 u') : GoC K0 K1 K2 (setD D 14) u' := by
  obtain ⟨h1, h2, h3, h4, h5, h6⟩ := h
  have e16 := bf h3 e14
  refine ⟨fun _ => by unfold setD; simp [h12, h7], fun e => ?_, fun e => ?_, fun e => ?_, fun _ _ => hK, fun e => ?_⟩
  · have := h2 h12; unfold setD; simp [this]
  · unfold setD at e; simp [e16] at e
  · unfold setD at e; simp at e
  · unfold setD at e; simp [e16] at e
theorem put (h : GoC K0 K1 K2 D u) (e14 : D 14 = true) (hK : K2 u') : GoC K0 K1 K2 (setD D 16) u' := by
  obtain ⟨h1, h2, h3, h4, h5, h6⟩ := h
  refine ⟨fun e => ?_, fun e => ?_, fun _ => by unfold setD; simp [e14], fun e => ?_, fun _ e => ?_, fun _ => hK⟩
  · have := h1 e14; unfold setD; simp [this]
  · have := h2 (by unfold setD at e; simpa using e); unfold setD; simp [this]
  · unfold setD at e; simp [e14] at e
  · unfold setD at e; simp at e
theorem all (h : GoC K0 K1 K2 D u) {R : World → Prop} (f0 : K0 u → R u) (f1 : K1 u → R u) (f2 : K2 u → R u) : R u := by
  obtain ⟨h1, h2, h3, h4, h5, h6⟩ := h
  cases e : D 14 with
  | false => exact f0 (h4 e)
  | true =>
    cases e2 : D 16 with
    | false => exact f1 (h5 e e2)
    | true => exact f2 (h6 e2)
end GoC
open Classical in
noncomputable def scanB (key : Int) (l : List Int) (x : Int) (t : Tru) (ct cv : Int) : Bool := decide (scanOk key l x t ct cv)
open Classical in
theorem scanB_yes {key : Int} {l : List Int} {t : Tru} {x ct cv : Int} (h : scanOk key l x t ct cv) : scanB key l x t ct cv = true := by unfold scanB; exact decide_eq_true h
set_option maxRecDepth 20000 in
set_option maxHeartbeats 8000000 in
theorem refusedScan_on (key x ct cv : Int) (A : Option Addr) (l : List Int) (cap : Nat) (t0 t1 t2 t3 t4 t5 t6 : Int) (t7 : Bool) (w : World) (P : Value → World → Prop) (hn : l.length ≤ 1048576) (hcap : l.length ≤ cap) (hA : Ints w .i64 w.heap.size A l) (hct : I64 ct) (hcv : I64 cv)
    (R : ∀ u, Below w.heap.size w u → Calls Tryz.prog 197 #[.agg (tA t0 t1 t2 t3 t4 t5 t6 t7), .agg (cA ct cv), .bool (scanB key l x ⟨t0, t1, t2, t3, t4, t5, t6, t7⟩ ct cv), .bool (t0 == 100000 || t1 == 1000)] u fun e w' => ∃ v, e = .returned v ∧ P v w') :
    Calls Tryz.prog 166 #[.agg (pA key A l.length cap), .int .i64 x, .agg (tA t0 t1 t2 t3 t4 t5 t6 t7), .agg (cA ct cv)] w fun e w' => ∃ v, e = .returned v ∧ P v w' := by
  have K0 := Lib.hid (show Kept w [(w.heap.size + 1 + 1, 112, (cA ct cv)), (w.heap.size + 1, 80, (tA t0 t1 t2 t3 t4 t5 t6 t7)), (w.heap.size, 26, (pA key A l.length cap))] _ from ((((Kept.refl w).put1 _ _ (pA key A l.length cap) rfl).put1 _ _ (tA t0 t1 t2 t3 t4 t5 t6 t7) (by simp)).put1 _ _ (cA ct cv) (by simp)))
  have TC := Lib.hid (fun (u : World) (h : Kept w [(w.heap.size + 1 + 1, 112, (cA ct cv)), (w.heap.size + 1, 80, (tA t0 t1 t2 t3 t4 t5 t6 t7)), (w.heap.size, 26, (pA key A l.length cap))] u) => (implTrustOk_calls key x A l cap t0 t1 t2 t3 t4 t5 t6 t7 u hn hcap ((hA.below h.1 (Nat.le_refl _)).more h.1.size)).mono (fun e w' ⟨he, hb⟩ => (⟨he, h.below hb⟩ : _ ∧ Kept w [(w.heap.size + 1 + 1, 112, (cA ct cv)), (w.heap.size + 1, 80, (tA t0 t1 t2 t3 t4 t5 t6 t7)), (w.heap.size, 26, (pA key A l.length cap))] w')))
  have CC := Lib.hid (fun (u : World) (h : Kept w [(w.heap.size + 1 + 1, 112, (cA ct cv)), (w.heap.size + 1, 80, (tA t0 t1 t2 t3 t4 t5 t6 t7)), (w.heap.size, 26, (pA key A l.length cap))] u) => (ansCellOk ct cv u hct hcv).mono (fun e w' ⟨he, hb⟩ => (⟨he, h.below hb⟩ : _ ∧ Kept w [(w.heap.size + 1 + 1, 112, (cA ct cv)), (w.heap.size + 1, 80, (tA t0 t1 t2 t3 t4 t5 t6 t7)), (w.heap.size, 26, (pA key A l.length cap))] w')))
  have hsb : scanB key l x ⟨t0, t1, t2, t3, t4, t5, t6, t7⟩ ct cv = (trustB key l x ⟨t0, t1, t2, t3, t4, t5, t6, t7⟩ && decide (isCell ct cv)) := by
    unfold scanB trustB
    by_cases h1 : trustOk key l x ⟨t0, t1, t2, t3, t4, t5, t6, t7⟩ <;> by_cases h2 : isCell ct cv <;> simp [scanOk, h1, h2]
  rw [hsb] at R
  clear hsb hA hn hcap hct hcv
  generalize trustB key l x ⟨t0, t1, t2, t3, t4, t5, t6, t7⟩ = b1 at R TC
  generalize decide (isCell ct cv) = b2 at R CC
  rcases hq0 : (t0 == 100000) with _ | _
  all_goals rw [hq0] at R
  all_goals simp only [Bool.false_or, Bool.true_or] at R
  all_goals
    rcases b1 with _ | _
    all_goals simp only [Bool.false_and, Bool.true_and] at R
    all_goals
      have RQ := Lib.hid R
      clear R
      go_enter Tryz.func166, Tryz.ntmps166
      go_upto_region 1 with fail
      have k0 := K0.out
      clear K0
      generalize World.alloc _ _ = w0 at k0 ⊢
      obtain ⟨kc0, kf0, kc1, kf1, kc2, kf2, -⟩ := k0.rd
      go_wp2_with fail
      refine (TC.out _ k0).mono ?_; rintro e w1 ⟨rfl, k1⟩
      clear kc0 kf0 kc1 kf1 kc2 kf2 k0 TC
      obtain ⟨kc0, kf0, kc1, kf1, kc2, kf2, -⟩ := k1.rd
      go_wp2_with fail
      try
        refine (CC.out _ k1).mono ?_; rintro e w1 ⟨rfl, k1⟩
        clear kc0 kf0 kc1 kf1 kc2 kf2
        obtain ⟨kc0, kf0, kc1, kf1, kc2, kf2, -⟩ := k1.rd
        go_wp2_with fail
      refine (RQ.out _ k1.1).mono ?_; rintro e w9 ⟨v, rfl, hv⟩
      have HV := Lib.hid hv
      clear hv
      go_wp2_with fail
      go_ret
      exact ⟨v, rfl, HV.out⟩
def putT (T : Array Value) (o : Nat) (V : List Value) : Array Value := T.mapIdx fun i x => if o ≤ i then (V[i - o]?).getD x else x
theorem putT_get {T : Array Value} {o : Nat} {V : List Value} (h : o + V.length ≤ T.size) (k : Nat) (hk : k < V.length) : (putT T o V)[o + k]? = V[k]? := by
  unfold putT
  rw [Array.getElem?_mapIdx, Array.getElem?_eq_getElem (show o + k < T.size by omega)]
  simp [List.getElem?_eq_getElem hk]
theorem putT_set {T : Array Value} {o : Nat} {V : List Value} (h : o + V.length ≤ T.size) (k : Nat) (hk : k < V.length) (v : Value) : (putT T o V).setIfInBounds (o + k) v = putT T o (V.set k v) := by
  apply Array.ext_getElem?
  intro i
  unfold putT
  rw [Array.getElem?_setIfInBounds, Array.getElem?_mapIdx, Array.getElem?_mapIdx]
  by_cases e : o + k = i
  · subst e
    rw [if_pos rfl, Array.getElem?_eq_getElem (show o + k < T.size by omega)]
    simp [hk]
    omega
  · rw [if_neg e]
    rcases Nat.lt_or_ge i T.size with hi | hi
    · rw [Array.getElem?_eq_getElem hi]
      simp only [Option.map_some]
      congr 1
      by_cases h2 : o ≤ i
      · rw [if_pos h2, if_pos h2, List.getElem?_set_ne (by omega)]
      · rw [if_neg h2, if_neg h2]
    · rw [Array.getElem?_eq_none hi]; rfl
theorem putT_8 {u : World} {p o : Nat} {t : TypeId} {T : Array Value} {a0 a1 a2 a3 a4 a5 a6 a7 : Value} (hT : o + 8 ≤ T.size) (h : CellsAt u p t (putT T o [a0, a1, a2, a3, a4, a5, a6, a7])) :
    u.cell? ⟨p, o, none⟩ = some a0 ∧ u.cell? ⟨p, o + 1, none⟩ = some a1 ∧ u.cell? ⟨p, o + 2, none⟩ = some a2 ∧ u.cell? ⟨p, o + 3, none⟩ = some a3 ∧ u.cell? ⟨p, o + 4, none⟩ = some a4 ∧ u.cell? ⟨p, o + 5, none⟩ = some a5 ∧ u.cell? ⟨p, o + 6, none⟩ = some a6 ∧ u.cell? ⟨p, o + 7, none⟩ = some a7 ∧ ∀ i, u.frozen? ⟨p, i, none⟩ = false := by
  have g := fun k hk => (h.cell (o + k)).trans (putT_get (V := [a0, a1, a2, a3, a4, a5, a6, a7]) hT k hk)
  exact ⟨g 0 (by simp), g 1 (by simp), g 2 (by simp), g 3 (by simp), g 4 (by simp), g 5 (by simp), g 6 (by simp), g 7 (by simp), h.frozen⟩
theorem CellsAt.put8 {u : World} {p o : Nat} {t : TypeId} {T : Array Value} {V : List Value} (h : CellsAt u p t (putT T o V)) (hT : o + 8 ≤ T.size) (hV : V.length = 8) (k : Nat) (hk : k < 8) (v : Value) : CellsAt (u.setCell ⟨p, o + k, none⟩ v) p t (putT T o (V.set k v)) := by
  have h1 := h.set_ (o + k) v
  rwa [putT_set (by omega) k (by omega)] at h1
set_option maxRecDepth 20000 in
set_option maxHeartbeats 4000000 in
theorem putO_calls (key a c s v : Int) (p o k : Nat) (cs : Array Value) (w : World) (hkey : I64 key) (ha : I64 a) (hc0 : 0 ≤ c) (hc1 : c ≤ 1000000) (hv : I64 v) (hp : CellsAt w p 80 cs) (e0 : cs[o]? = some (.int .i64 c)) (ek : cs[k]? = some (.int .i64 s)) (k0 : o ≠ k) :
    Calls Tryz.prog 161 #[.pointer (some ⟨p, o, none⟩), .pointer (some ⟨p, k, none⟩), .int .i64 key, .int .i64 a, .int .i64 v] w fun e w' =>
      e = .returned (.agg #[.int .i64 (cellOf key a (c + 1) v).1, .int .i64 (cellOf key a (c + 1) v).2]) ∧ w.grownBy w' (some p) ∧
      CellsAt w' p 80 ((cs.setIfInBounds o (.int .i64 (c + 1))).setIfInBounds k (.int .i64 (addOf s (tagIn key a (cellOf key a (c + 1) v).1 (cellOf key a (c + 1) v).2)))) := by
  have hi := cellOf_i64 (a := a) (t := c + 1) (v := v) hkey ⟨by omega, by omega⟩
  have CC := Lib.hid (fun u => ansCellOf key a (c + 1) v u hkey ha ⟨by omega, by omega⟩ hv)
  generalize (cellOf key a (c + 1) v).1 = x1 at CC hi ⊢
  generalize (cellOf key a (c + 1) v).2 = x2 at CC hi ⊢
  have CA := Lib.hid (fun u => added_calls s key a x1 x2 u ha hi.1 hi.2)
  generalize addOf s (tagIn key a x1 x2) = z at CA ⊢
  have hwc : IntKind.i64.wrap (c + 1) = c + 1 := IntWalk.i64_in _ (by omega)
  have lp := hp.lt
  have P0 := Lib.hid (show CellsAt (w.alloc (.cells #[.int .i64 0, .int .i64 0] 112)) p 80 cs from hp.below (allocP w _) lp)
  have G0 := Lib.hid (show w.grownBy (w.alloc (.cells #[.int .i64 0, .int .i64 0] 112)) (some p) from gb_alloc (gb_refl w (some p)) _)
  have R0 := Lib.hid (show CellsAt (w.alloc (.cells #[.int .i64 0, .int .i64 0] 112)) w.heap.size 112 #[.int .i64 0, .int .i64 0] from CellsAt.new w _ _)
  have E0 := Lib.hid e0
  have EK := Lib.hid ek
  have hne : ¬ p = w.heap.size := by omega
  have hne' : ¬ w.heap.size = p := by omega
  clear hp hi ha hkey hv e0 ek
  go_enter Tryz.func161, Tryz.ntmps161
  go_upto_region 1 with fail
  have hp0 := P0.out
  have hg0 := G0.out
  have hr0 := R0.out
  clear P0 G0 R0
  generalize World.alloc _ _ = w0 at hp0 hg0 hr0 ⊢
  have c0 : w0.cell? ⟨p, o, none⟩ = some (.int .i64 c) := (hp0.cell o).trans E0.out
  have f0 : ∀ i, w0.frozen? ⟨p, i, none⟩ = false := hp0.frozen
  go_upto_region 2 with fail
  have hp1 := hp0.set_ o (.int .i64 (c + 1))
  have hg1 := gb_set hg0 o (.int .i64 (c + 1))
  have hr1 := hr0.grown (gb_set (gb_refl w0 (some p)) o (.int .i64 (c + 1))) (by intro e; injection e; omega)
  clear hp0 hg0 hr0 c0 f0
  generalize World.setCell _ _ _ = w1 at hp1 hg1 hr1 ⊢
  have hsz : o < cs.size := by apply Nat.lt_of_not_le; intro h; have := E0.out; rw [Array.getElem?_eq_none h] at this; cases this
  have c1 : w1.cell? ⟨p, o, none⟩ = some (.int .i64 (c + 1)) := by rw [hp1.cell o, Array.getElem?_setIfInBounds_self_of_lt (by omega)]
  go_wp2_with fail
  refine (CC.out _).mono ?_; rintro e w2 ⟨rfl, b2⟩
  have hp2 := hp1.below b2 hp1.lt
  have hr2 := hr1.below b2 hr1.lt
  have hg2 := gb_belowP hg1 (b2.mono hg1.size)
  have l2 : w.heap.size < w2.heap.size := hr2.lt
  clear hp1 hr1 hg1 b2 c1 CC
  have hp3 := hp2.below (allocP w2 (.cells #[.int .i64 x1, .int .i64 x2] 112)) hp2.lt
  have hr3 := hr2.below (allocP w2 (.cells #[.int .i64 x1, .int .i64 x2] 112)) hr2.lt
  have hg3 := gb_alloc hg2 (.cells #[.int .i64 x1, .int .i64 x2] 112)
  have hq3 := CellsAt.new w2 112 #[.int .i64 x1, .int .i64 x2]
  have hne2 : ¬ p = w2.heap.size := by omega
  have hne2' : ¬ w2.heap.size = p := by omega
  clear hp2 hr2 hg2
  go_upto_region 3 with fail
  generalize hw3 : World.alloc _ _ = w3 at hp3 hr3 hg3 hq3 ⊢
  clear hw3
  have CK : ∀ u, Below w3.heap.size w3 u → u.cell? ⟨p, k, none⟩ = some (.int .i64 s) ∧ (∀ i, u.frozen? ⟨p, i, none⟩ = false) ∧ (∀ i, u.cell? ⟨w2.heap.size, i, none⟩ = #[.int .i64 x1, .int .i64 x2][i]?) := fun u hu =>
    ⟨((hp3.below hu hp3.lt).cell k).trans (by rw [Array.getElem?_setIfInBounds_ne k0]; exact EK.out), (hp3.below hu hp3.lt).frozen, (hq3.below hu hq3.lt).cell⟩
  have HK := Lib.hid CK
  have HP := Lib.hid hp3
  have HR := Lib.hid hr3
  have HG := Lib.hid hg3
  have HQ := Lib.hid hq3
  clear CK hp3 hr3 hg3 hq3 hsz
  refine wp_region_class_tail (C := fun u => Below w3.heap.size w3 u) 9 (by kernel_rfl) (by kernel_rfl) (Below.refl _ _).drew ?_
  simp only [List.take_succ_cons, List.take_zero, List.drop_succ_cons, List.drop_zero]
  iterate 9 (first
    | go_big_quiet_skip
    | (go_big_quiet_want
       go_big_quiet_op
       first
         | go_big_quiet_on
         | (apply Exists.intro
            refine ⟨fun u hu => ?_, ?_⟩
            · first
                | with_reducible rfl
                | (go_at_call 200; refine (CA.out u).mono ?_; rintro e wx ⟨rfl, bx⟩; exact ⟨rfl, hu.trans (bx.mono hu.size)⟩)
                | (obtain ⟨ck, cf, cq⟩ := HK.out u hu; go_simp; first | done | with_reducible rfl)
            go_big_quiet_on)))
  refine wpQuiet_nil ?_
  intro w4 hb4
  obtain ⟨ck, cf, cq⟩ := HK.out w4 hb4
  have hp4 := HP.out.below hb4 HP.out.lt
  have hr4 := HR.out.below hb4 HR.out.lt
  have hq4 := HQ.out.below hb4 HQ.out.lt
  have hg4 := gb_belowP HG.out (hb4.mono HG.out.size)
  clear HP HR HQ HG HK CA hb4
  go_upto_region 4 with fail
  have hp5 := hp4.set_ k (.int .i64 z)
  have hr5 := hr4.grown (gb_set (gb_refl w4 (some p)) k (.int .i64 z)) (by intro e; injection e; omega)
  have hq5 := hq4.grown (gb_set (gb_refl w4 (some p)) k (.int .i64 z)) (by intro e; injection e; omega)
  have hg5 := gb_set hg4 k (.int .i64 z)
  clear hp4 hr4 hq4 hg4 ck cf cq
  generalize World.setCell _ _ _ = w5 at hp5 hr5 hq5 hg5 ⊢
  have qc : ∀ i, w5.cell? ⟨w2.heap.size, i, none⟩ = #[.int .i64 x1, .int .i64 x2][i]? := hq5.cell
  have rc : ∀ i, w5.cell? ⟨w.heap.size, i, none⟩ = #[.int .i64 0, .int .i64 0][i]? := hr5.cell
  have rf : ∀ i, w5.frozen? ⟨w.heap.size, i, none⟩ = false := hr5.frozen
  go_wp2_with fail
  have hr6 := (hr5.set_ 0 (.int .i64 x1)).set_ 1 (.int .i64 x2)
  have hg56 := gb_set (gb_set (gb_refl w5 (some w.heap.size)) 0 (.int .i64 x1)) 1 (.int .i64 x2)
  have hp6 := hp5.grown hg56 (by intro e; injection e; omega)
  have hg6 : w.grownBy _ (some p) := gb_newP (gb_newP hg5 (Nat.le_refl _) 0 (.int .i64 x1)) (Nat.le_refl _) 1 (.int .i64 x2)
  clear qc rc rf hr5 hq5 hp5 hg5 hg56
  generalize World.setCell _ _ _ = w6 at hr6 hp6 hg6 ⊢
  have rc : ∀ i, w6.cell? ⟨w.heap.size, i, none⟩ = #[.int .i64 x1, .int .i64 x2][i]? := hr6.cell
  exact bodyPost_ret (v := .agg #[.int .i64 x1, .int .i64 x2]) (by simp [results, Tryz.results161, go_sem, rc]) rfl ⟨rfl, hg6, hp6⟩
set_option maxRecDepth 20000 in
set_option maxHeartbeats 2000000 in
theorem rewindO_calls (p : Nat) (T : Array Value) (o : Nat) (hT : o + 8 ≤ T.size) (t0 t1 t2 t3 t4 t5 t6 : Int) (t7 : Bool) (w : World) (hp : CellsAt w p 80 (putT T o [.int .i64 t0, .int .i64 t1, .int .i64 t2, .int .i64 t3, .int .i64 t4, .int .i64 t5, .int .i64 t6, .bool t7])) :
    Calls Tryz.prog 206 #[.pointer (some ⟨p, o, none⟩)] w fun e w' => e = .returned (.tuple #[]) ∧ w.grownBy w' (some p) ∧ CellsAt w' p 80 (putT T o [.int .i64 t0, .int .i64 t1, .int .i64 0, .int .i64 t3, .int .i64 t4, .int .i64 0, .int .i64 0, .bool t7]) := by
  obtain ⟨c0, c1, c2, c3, c4, c5, c6, c7, hf⟩ := putT_8 hT hp
  have HP := Lib.hid (show CellsAt _ p 80 (putT T o [.int .i64 t0, .int .i64 t1, .int .i64 0, .int .i64 t3, .int .i64 t4, .int .i64 0, .int .i64 0, .bool t7]) from ((hp.put8 hT rfl 2 (by decide) (.int .i64 0)).put8 hT rfl 5 (by decide) (.int .i64 0)).put8 hT rfl 6 (by decide) (.int .i64 0))
  have HG := Lib.hid (gb_set (gb_set (gb_set (gb_refl w (some p)) (o + 2) (.int .i64 0)) (o + 5) (.int .i64 0)) (o + 6) (.int .i64 0))
  clear hp
  go_enter Tryz.func206, Tryz.ntmps206
  go_wp2_with fail
  go_end0
  exact ⟨rfl, HG.out, HP.out⟩
set_option maxRecDepth 20000 in
set_option maxHeartbeats 2000000 in
theorem failO_calls (p : Nat) (T : Array Value) (o : Nat) (hT : o + 8 ≤ T.size) (t0 t1 t2 t3 t4 t5 t6 : Int) (t7 : Bool) (w : World) (hp : CellsAt w p 80 (putT T o [.int .i64 t0, .int .i64 t1, .int .i64 t2, .int .i64 t3, .int .i64 t4, .int .i64 t5, .int .i64 t6, .bool t7])) :
    Calls Tryz.prog 169 #[.pointer (some ⟨p, o, none⟩)] w fun e w' => e = .returned (.int .i64 4) ∧ w.grownBy w' (some p) ∧ CellsAt w' p 80 (putT T o [.int .i64 t0, .int .i64 t1, .int .i64 0, .int .i64 t3, .int .i64 t4, .int .i64 0, .int .i64 0, .bool true]) := by
  obtain ⟨c0, c1, c2, c3, c4, c5, c6, c7, hf⟩ := putT_8 hT hp
  have HP := Lib.hid (show CellsAt (w.setCell ⟨p, o + 7, none⟩ (.bool true)) p 80 (putT T o [.int .i64 t0, .int .i64 t1, .int .i64 t2, .int .i64 t3, .int .i64 t4, .int .i64 t5, .int .i64 t6, .bool true]) from hp.put8 hT rfl 7 (by decide) (.bool true))
  have HG := Lib.hid (gb_set (gb_refl w (some p)) (o + 7) (.bool true))
  have RW := Lib.hid (fun (u : World) (h : CellsAt u p 80 (putT T o [.int .i64 t0, .int .i64 t1, .int .i64 t2, .int .i64 t3, .int .i64 t4, .int .i64 t5, .int .i64 t6, .bool true])) => rewindO_calls p T o hT t0 t1 t2 t3 t4 t5 t6 true u h)
  clear hp
  go_enter Tryz.func169, Tryz.ntmps169
  go_upto_region 2 with fail
  have h1 := HP.out
  have g1 := HG.out
  clear HP HG c0 c1 c2 c3 c4 c5 c6 c7 hf
  generalize World.setCell _ _ _ = w1 at h1 g1 ⊢
  go_wp2_with fail
  refine (RW.out _ h1).mono ?_; rintro e w2 ⟨rfl, g2, h2⟩
  have G2 := Lib.hid (gb_trans g1 g2)
  have H2 := Lib.hid h2
  clear g1 g2 h1 h2 RW
  go_wp2_with fail
  go_ret
  exact ⟨rfl, G2.out, H2.out⟩
set_option maxRecDepth 20000 in
set_option maxHeartbeats 4000000 in
theorem passO_calls (p : Nat) (T : Array Value) (o : Nat) (hT : o + 8 ≤ T.size) (t0 t1 t2 t3 t4 t5 t6 : Int) (t7 : Bool) (w : World) (h1 : 0 ≤ t1) (h1' : t1 ≤ 1000) (hp : CellsAt w p 80 (putT T o [.int .i64 t0, .int .i64 t1, .int .i64 t2, .int .i64 t3, .int .i64 t4, .int .i64 t5, .int .i64 t6, .bool t7])) :
    Calls Tryz.prog 168 #[.pointer (some ⟨p, o, none⟩)] w fun e w' => e = .returned (.int .i64 5) ∧ w.grownBy w' (some p) ∧ CellsAt w' p 80 (putT T o [.int .i64 t0, .int .i64 (t1 + 1), .int .i64 0, .int .i64 t5, .int .i64 t6, .int .i64 0, .int .i64 0, .bool t7]) := by
  have hw : IntKind.i64.wrap (t1 + 1) = t1 + 1 := IntWalk.i64_in _ (by omega)
  obtain ⟨c0, c1, c2, c3, c4, c5, c6, c7, hf⟩ := putT_8 hT hp
  have HP := Lib.hid (show CellsAt (w.setCell ⟨p, o + 1, none⟩ (.int .i64 (t1 + 1))) p 80 (putT T o [.int .i64 t0, .int .i64 (t1 + 1), .int .i64 t2, .int .i64 t3, .int .i64 t4, .int .i64 t5, .int .i64 t6, .bool t7]) from hp.put8 hT rfl 1 (by decide) (.int .i64 (t1 + 1)))
  have HG := Lib.hid (gb_set (gb_refl w (some p)) (o + 1) (.int .i64 (t1 + 1)))
  have RW := Lib.hid (fun (u : World) (h : CellsAt u p 80 (putT T o [.int .i64 t0, .int .i64 (t1 + 1), .int .i64 t2, .int .i64 t5, .int .i64 t6, .int .i64 t5, .int .i64 t6, .bool t7])) => rewindO_calls p T o hT t0 (t1 + 1) t2 t5 t6 t5 t6 t7 u h)
  clear hp h1 h1'
  go_enter Tryz.func168, Tryz.ntmps168
  go_upto_region 2 with fail
  have h1 := HP.out
  have g1 := HG.out
  clear HP HG c0 c1 c2 c3 c4 c5 c6 c7 hf
  generalize World.setCell _ _ _ = w1 at h1 g1 ⊢
  obtain ⟨c0, c1, c2, c3, c4, c5, c6, c7, hf⟩ := putT_8 hT h1
  have H1 := Lib.hid h1
  have G1 := Lib.hid g1
  clear h1 g1
  go_region
  all_goals
    have H2 := Lib.hid (show CellsAt _ p 80 (putT T o [.int .i64 t0, .int .i64 (t1 + 1), .int .i64 t2, .int .i64 t5, .int .i64 t6, .int .i64 t5, .int .i64 t6, .bool t7]) from ((H1.out.put8 hT rfl 3 (by decide) (.int .i64 t5)).put8 hT rfl 4 (by decide) (.int .i64 t6)).drew)
    have G2 := Lib.hid (gb_drew (gb_set (gb_set G1.out (o + 3) (.int .i64 t5)) (o + 4) (.int .i64 t6)))
    clear c0 c1 c2 c3 c4 c5 c6 c7 hf H1 G1
    go_upto_region 3 with fail
    have h2 := H2.out
    have g2 := G2.out
    clear H2 G2
    generalize World.drew _ = w2 at h2 g2 ⊢
    go_wp2_with fail
    refine (RW.out _ h2).mono ?_; rintro e w3 ⟨rfl, g3, h3⟩
    have G3 := Lib.hid (gb_trans g2 g3)
    have H3 := Lib.hid h3
    clear g2 g3 h2 h3 RW
    go_wp2_with fail
    go_ret
    exact ⟨rfl, G3.out, H3.out⟩
set_option maxRecDepth 20000 in
set_option maxHeartbeats 8000000 in
theorem goThroughO_calls (key a ct cv : Int) (p : Nat) (T : Array Value) (o : Nat) (hT : o + 8 ≤ T.size) (t0 t1 t2 t3 t4 t5 t6 : Int) (t7 : Bool) (w : World) (hkey : I64 key) (ha : I64 a) (hct : I64 ct) (hcv : I64 cv) (h0 : 0 ≤ t0) (h0' : t0 ≤ 100000) (h2 : 0 ≤ t2) (h2' : t2 ≤ 100) (hp : CellsAt w p 80 (putT T o [.int .i64 t0, .int .i64 t1, .int .i64 t2, .int .i64 t3, .int .i64 t4, .int .i64 t5, .int .i64 t6, .bool t7])) :
    Calls Tryz.prog 167 #[.pointer (some ⟨p, o, none⟩), .int .i64 key, .int .i64 a, .agg #[.int .i64 ct, .int .i64 cv]] w fun e w' => e = .returned (.agg #[.int .i64 (cellOf key a (t0 + 1) (valueIn key a ct cv)).1, .int .i64 (cellOf key a (t0 + 1) (valueIn key a ct cv)).2]) ∧ w.grownBy w' (some p) ∧ CellsAt w' p 80 (putT T o [.int .i64 (t0 + 1), .int .i64 t1, .int .i64 (t2 + 1), .int .i64 (addOf t3 (tagIn key a ct cv)), .int .i64 t4, .int .i64 t5, .int .i64 (addOf t6 (tagIn key a (cellOf key a (t0 + 1) (valueIn key a ct cv)).1 (cellOf key a (t0 + 1) (valueIn key a ct cv)).2)), .bool t7]) := by
  have hw : IntKind.i64.wrap (t2 + 1) = t2 + 1 := IntWalk.i64_in _ (by omega)
  have TC := Lib.hid (fun (u : World) (h : CellsAt u p 80 (putT T o [.int .i64 t0, .int .i64 t1, .int .i64 t2, .int .i64 t3, .int .i64 t4, .int .i64 t5, .int .i64 t6, .bool t7])) => take_calls key a t3 ct cv p (o + 3) (putT T o [.int .i64 t0, .int .i64 t1, .int .i64 t2, .int .i64 t3, .int .i64 t4, .int .i64 t5, .int .i64 t6, .bool t7]) u hkey ha hct hcv h (putT_get (V := [.int .i64 t0, .int .i64 t1, .int .i64 t2, .int .i64 t3, .int .i64 t4, .int .i64 t5, .int .i64 t6, .bool t7]) hT 3 (by simp)))
  have hvi := valueIn_i64 key a ct cv
  generalize hz3 : addOf t3 (tagIn key a ct cv) = z3 at TC ⊢
  clear hz3
  generalize hy : valueIn key a ct cv = y at TC hvi ⊢
  clear hy
  have PC := Lib.hid (fun (u : World) (h : CellsAt u p 80 (putT T o [.int .i64 t0, .int .i64 t1, .int .i64 (t2 + 1), .int .i64 z3, .int .i64 t4, .int .i64 t5, .int .i64 t6, .bool t7])) => putO_calls key a t0 t6 y p o (o + 6) (putT T o [.int .i64 t0, .int .i64 t1, .int .i64 (t2 + 1), .int .i64 z3, .int .i64 t4, .int .i64 t5, .int .i64 t6, .bool t7]) u hkey ha h0 (by omega) hvi h (putT_get (V := [.int .i64 t0, .int .i64 t1, .int .i64 (t2 + 1), .int .i64 z3, .int .i64 t4, .int .i64 t5, .int .i64 t6, .bool t7]) hT 0 (by simp)) (putT_get (V := [.int .i64 t0, .int .i64 t1, .int .i64 (t2 + 1), .int .i64 z3, .int .i64 t4, .int .i64 t5, .int .i64 t6, .bool t7]) hT 6 (by simp)) (by omega))
  generalize hz6 : addOf t6 (tagIn key a (cellOf key a (t0 + 1) y).1 (cellOf key a (t0 + 1) y).2) = z6 at PC ⊢
  clear hz6
  generalize (cellOf key a (t0 + 1) y).1 = y1 at PC ⊢
  generalize (cellOf key a (t0 + 1) y).2 = y2 at PC ⊢
  have lp := hp.lt
  have P0 := Lib.hid (show CellsAt ((w.alloc (.cells #[.int .i64 ct, .int .i64 cv] 112)).alloc (.cells #[.int .i64 0, .int .i64 0] 112)) p 80 (putT T o [.int .i64 t0, .int .i64 t1, .int .i64 t2, .int .i64 t3, .int .i64 t4, .int .i64 t5, .int .i64 t6, .bool t7]) from (hp.below (allocP w _) lp).below (allocP _ _) (by simp; omega))
  have G0 := Lib.hid (show w.grownBy ((w.alloc (.cells #[.int .i64 ct, .int .i64 cv] 112)).alloc (.cells #[.int .i64 0, .int .i64 0] 112)) (some p) from gb_alloc (gb_alloc (gb_refl w (some p)) _) _)
  have R0 := Lib.hid (show CellsAt ((w.alloc (.cells #[.int .i64 ct, .int .i64 cv] 112)).alloc (.cells #[.int .i64 0, .int .i64 0] 112)) w.heap.size 112 #[.int .i64 ct, .int .i64 cv] from (CellsAt.new w _ _).below (allocP _ _) (by simp))
  have Q0 := Lib.hid (show CellsAt ((w.alloc (.cells #[.int .i64 ct, .int .i64 cv] 112)).alloc (.cells #[.int .i64 0, .int .i64 0] 112)) (w.heap.size + 1) 112 #[.int .i64 0, .int .i64 0] from by have h := CellsAt.new (w.alloc (.cells #[.int .i64 ct, .int .i64 cv] 112)) 112 #[.int .i64 0, .int .i64 0]; simpa using h)
  clear hp hkey ha hct hcv h0 h0' h2 h2' hvi
  go_enter Tryz.func167, Tryz.ntmps167
  go_upto_region 1 with fail
  have hp0 := P0.out
  have hg0 := G0.out
  have hr0 := R0.out
  have hq0 := Q0.out
  clear P0 G0 R0 Q0
  generalize World.alloc _ _ = w0 at hp0 hg0 hr0 hq0 ⊢
  have HP := Lib.hid hp0
  have HG := Lib.hid hg0
  have HR := Lib.hid hr0
  have HQ := Lib.hid hq0
  clear hp0 hg0 hr0 hq0
  refine wp_region_class_tail (C := fun u => Below w0.heap.size w0 u) 6 (by kernel_rfl) (by kernel_rfl) (Below.refl _ _).drew ?_
  simp only [List.take_succ_cons, List.take_zero, List.drop_succ_cons, List.drop_zero]
  iterate 6 (first
    | go_big_quiet_skip
    | (go_big_quiet_want
       go_big_quiet_op
       first
         | go_big_quiet_on
         | (apply Exists.intro
            refine ⟨fun u hu => ?_, ?_⟩
            · first
                | with_reducible rfl
                | (have cq := (HR.out.below hu HR.out.lt).cell; go_simp; first | done | with_reducible rfl)
            go_big_quiet_on)))
  refine wpQuiet_nil ?_
  intro w1 hb1
  have hp1 := HP.out.below hb1 HP.out.lt
  have hg1 := gb_belowP HG.out (hb1.mono HG.out.size)
  have hq1 := HQ.out.below hb1 HQ.out.lt
  clear HP HG HR HQ hb1
  go_wp2_with fail
  refine (TC.out _ hp1).mono ?_; rintro e w2 ⟨rfl, g2, hp2⟩
  have hp2' : CellsAt w2 p 80 (putT T o [.int .i64 t0, .int .i64 t1, .int .i64 t2, .int .i64 z3, .int .i64 t4, .int .i64 t5, .int .i64 t6, .bool t7]) := by rw [putT_set (by simpa using hT) 3 (by simp)] at hp2; exact hp2
  have hq2 := hq1.grown g2 (by intro e; injection e; omega)
  have hg2 := gb_trans hg1 g2
  obtain ⟨c0, c1, c2, c3, c4, c5, c6, c7, hf⟩ := putT_8 hT hp2'
  have HP := Lib.hid (show CellsAt (w2.setCell ⟨p, o + 2, none⟩ (.int .i64 (t2 + 1))) p 80 (putT T o [.int .i64 t0, .int .i64 t1, .int .i64 (t2 + 1), .int .i64 z3, .int .i64 t4, .int .i64 t5, .int .i64 t6, .bool t7]) from hp2'.put8 hT rfl 2 (by decide) (.int .i64 (t2 + 1)))
  have HG := Lib.hid (gb_set hg2 (o + 2) (.int .i64 (t2 + 1)))
  have HQ := Lib.hid (hq2.grown (gb_set (gb_refl w2 (some p)) (o + 2) (.int .i64 (t2 + 1))) (by intro e; injection e; omega))
  clear hp1 hp2 hp2' hq1 hq2 hg1 hg2 g2 TC
  go_upto_region 3 with fail
  have hp3 := HP.out
  have hg3 := HG.out
  have hq3 := HQ.out
  clear HP HG HQ c0 c1 c2 c3 c4 c5 c6 c7 hf
  generalize World.setCell _ _ _ = w3 at hp3 hg3 hq3 ⊢
  go_wp2_with fail
  refine (PC.out _ hp3).mono ?_; rintro e w4 ⟨rfl, g4, hp4⟩
  have hp4' : CellsAt w4 p 80 (putT T o [.int .i64 (t0 + 1), .int .i64 t1, .int .i64 (t2 + 1), .int .i64 z3, .int .i64 t4, .int .i64 t5, .int .i64 z6, .bool t7]) := by rw [show (putT T o [.int .i64 t0, .int .i64 t1, .int .i64 (t2 + 1), .int .i64 z3, .int .i64 t4, .int .i64 t5, .int .i64 t6, .bool t7]).setIfInBounds o (.int .i64 (t0 + 1)) = _ from putT_set (V := [.int .i64 t0, .int .i64 t1, .int .i64 (t2 + 1), .int .i64 z3, .int .i64 t4, .int .i64 t5, .int .i64 t6, .bool t7]) hT 0 (by simp) _, putT_set (by simpa using hT) 6 (by simp)] at hp4; exact hp4
  have hq4 := hq3.grown g4 (by intro e; injection e; omega)
  have hg4 := gb_trans hg3 g4
  have qc : ∀ i, w4.cell? ⟨w.heap.size + 1, i, none⟩ = #[.int .i64 0, .int .i64 0][i]? := hq4.cell
  have qf : ∀ i, w4.frozen? ⟨w.heap.size + 1, i, none⟩ = false := hq4.frozen
  have hq5 := (hq4.set_ 0 (.int .i64 y1)).set_ 1 (.int .i64 y2)
  have hp5 := hp4'.grown (gb_set (gb_set (gb_refl w4 (some (w.heap.size + 1))) 0 (.int .i64 y1)) 1 (.int .i64 y2)) (by intro e; injection e; omega)
  have hg5 : w.grownBy _ (some p) := gb_newP (gb_newP hg4 (show w.heap.size ≤ w.heap.size + 1 by omega) 0 (.int .i64 y1)) (show w.heap.size ≤ w.heap.size + 1 by omega) 1 (.int .i64 y2)
  have HP := Lib.hid hp5
  have HG := Lib.hid hg5
  have HQ := Lib.hid hq5
  clear hp3 hp4 hp4' hq3 hq4 hg3 hg4 g4 hp5 hg5 hq5 PC
  go_wp2_with fail
  have hp5 := HP.out
  have hg5 := HG.out
  have hq5 := HQ.out
  clear HP HG HQ qc qf
  generalize World.setCell _ _ _ = w5 at hp5 hg5 hq5 ⊢
  have rc : ∀ i, w5.cell? ⟨w.heap.size + 1, i, none⟩ = #[.int .i64 y1, .int .i64 y2][i]? := hq5.cell
  exact bodyPost_ret (v := .agg #[.int .i64 y1, .int .i64 y2]) (by simp [results, Tryz.results167, go_sem, rc]) rfl ⟨rfl, hg5, hp5⟩
end Go.Proofs.YtgaecedhkbneaaaGreatDoor.Mx

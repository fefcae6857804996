import Derived.Test.YteopplldbcgjjaaGreatDoorH35
import Derived.Test.YteopplldbcgjjaaGreatDoorH19
namespace Go.Proofs.YteopplldbcgjjaaGreatDoor.Mx
open Go.ChangeShapes Go.WideShapes Go.ChangeAt Go.RowKit
set_option linter.unusedVariables false
open Go.Lib (hid)
set_option maxHeartbeats 64000000
theorem steps_storeB {P : Program} {ρ : Operand → Value} {o : Oper} {t tb : TypeId} {x y : Operand} {w : World} {K : Value → World → Prop} {p : Nat} {cs cs' : Array Value}
    (hc : CellsAt w p tb cs) (hop : o.op = .store t x y) (hx : ρ x = .pointer (some ⟨p, 0, none⟩)) (hy : ρ y = .agg cs') (hi : (P.info? t).map (·.size) = some cs'.size) (hs : cs.size = cs'.size) (h1 : cs'.all (·.oneCell') = true)
    (h : ∀ w', CellsAt w' p tb cs' → w.grownBy w' (some p) → K undef w') : stepsTo P ((execOp ρ o).run P w) K := by
 obtain ⟨w', e, hc', hg⟩ : ∃ w', (Instr.storeAt t (.pointer (some ⟨p, 0, none⟩)) (.agg cs')).run P w = .ok () w' ∧ CellsAt w' p tb cs' ∧ w.grownBy w' (some p) := by
  refine ⟨w.setRow p cs', ?_, setRow_heap w p cs cs' tb (0, 0) hc, ⟨rfl, rfl, rfl, Nat.le_of_eq (setRow_size w p cs').symm, fun k _ hk => setRow_other w p k cs' (fun e => hk (by rw [e]))⟩⟩
  simp only [Instr.storeAt, Instr.sureAddr, Sem.run_bind, Sem.run_pure, Result.andThen_ok]
  exact run_storeVar_row _ _ tb t cs cs' hc hi hs h1
 have e2 : (execOp ρ o).run P w = .ok .skip w' := by
  unfold execOp
  rw [hop]
  simp only [hx, hy, Sem.run_bind, e, Result.andThen_ok, Sem.run_pure]
 rw [e2]
 exact h w' hc' hg
theorem steps_loadN {P : Program} {ρ : Operand → Value} {o : Oper} {t : TypeId} {x : Operand} {w : World} {K : Value → World → Prop} {a : Addr} {z : Value} (hc : w.cell? a = some z) (hop : o.op = .load t x) (hx : ρ x = .pointer (some a)) (hu : ∃ k, P.underlying t = some (.int k)) (h : K z w) : stepsTo P ((execOp ρ o).run P w) K := by
 obtain ⟨k, hu⟩ := hu
 have e2 : (execOp ρ o).run P w = .ok (.value z) w := by
  unfold execOp
  rw [hop]
  simp [hx, Instr.loadAt, Instr.sureAddr, loadVar, isAgg, underlying, hu, hc, Result.andThen]
 rw [e2]
 exact h
theorem steps_nilN {P : Program} {ρ : Operand → Value} {o : Oper} {x : Operand} {w : World} {K : Value → World → Prop} {a : Addr} (hop : o.op = .nilCheck x) (hx : ρ x = .pointer (some a)) (h : K (.pointer (some a)) w) : stepsTo P ((execOp ρ o).run P w) K := by
 have e2 : (execOp ρ o).run P w = .ok (.value (.pointer (some a))) w := by
  unfold execOp
  rw [hop]
  simp [hx, go_sem]
 rw [e2]
 exact h
theorem steps_addN {P : Program} {ρ : Operand → Value} {o : Oper} {t t' : TypeId} {x y : Operand} {w : World} {K : Value → World → Prop} {a b : Int} (hop : o.op = .binOp .add t x y t') (hx : ρ x = .int .i64 a) (hy : ρ y = .int .i64 b) (h : K (.int .i64 (IntKind.i64.wrap (a + b))) w) : stepsTo P ((execOp ρ o).run P w) K := by
 have e2 : (execOp ρ o).run P w = .ok (.value (.int .i64 (IntKind.i64.wrap (a + b)))) w := by
  unfold execOp
  rw [hop]
  simp [hx, hy, eqGuard, binOp, Op.intArith, go_sem]
 rw [e2]
 exact h
def GoC (K0 K1 K2 : World → Prop) (D : Nat → Bool) (u : World) : Prop :=
 (D 14 = true → D 12 = true ∧ D 7 = true) ∧ (D 12 = true → D 11 = true ∧ D 7 = true) ∧ (D 16 = true → D 14 = true) ∧ (D 14 = false → K0 u) ∧ (D 14 = true → D 16 = false → K1 u) ∧ (D 16 = true → K2 u)
namespace GoC
variable {K0 K1 K2 : World → Prop} {D : Nat → Bool} {u u' : World}
theorem start (h : K0 u) : GoC K0 K1 K2 (fun _ => false) u := ⟨fun e => (by cases e), fun e => (by cases e), fun e => (by cases e), fun _ => h, fun e => (by cases e), fun e => (by cases e)⟩
theorem bf {a b : Bool} (h : a = true → b = true) (hb : b = false) : a = false := by cases a; rfl; have := h rfl; rw [hb] at this; cases this
theorem pre12 (h : GoC K0 K1 K2 D u) (e : D 12 = false) : D 14 = false ∧ D 16 = false := by
 have e1 := bf (fun e => (h.1 e).1) e
 exact ⟨e1, bf h.2.2.1 e1⟩
theorem nil (h : GoC K0 K1 K2 D u) : GoC K0 K1 K2 (setD D 9) u := by
 obtain ⟨h1, h2, h3, h4, h5, h6⟩ := h
 have e : ∀ k, k ≠ 9 → setD D 9 k = D k := fun k hk => by unfold setD; simp [hk]
 unfold GoC
 rw [e 14 (by decide), e 12 (by decide), e 7 (by decide), e 11 (by decide), e 16 (by decide)]
 exact ⟨h1, h2, h3, h4, h5, h6⟩
theorem on (h : GoC K0 K1 K2 D u) (k : Nat) (hk : k = 7 ∨ k = 11 ∨ k = 12) (e14 : D 14 = false) (e16 : D 16 = false) (h12 : k = 12 → D 11 = true ∧ D 7 = true) (hK : K0 u') : GoC K0 K1 K2 (setD D k) u' := by
 obtain ⟨h1, h2, h3, h4, h5, h6⟩ := h
 have n14 : ¬ 14 = k := by omega
 have n16 : ¬ 16 = k := by omega
 refine ⟨fun e => ?_, fun e => ?_, fun e => ?_, fun _ => hK, fun e => ?_, fun e => ?_⟩
 ·unfold setD at e; simp [n14, e14] at e
 ·unfold setD at e ⊢
  by_cases h9 : k = 12
  ·have := h12 h9; simp [this]
  ·have h9' : ¬ 12 = k := fun e => h9 e.symm
   have := h2 (by simpa [h9'] using e)
   simp [this]
 ·unfold setD at e; simp [n16, e16] at e
 ·unfold setD at e; simp [n14, e14] at e
 ·unfold setD at e; simp [n16, e16] at e
theorem did (h : GoC K0 K1 K2 D u) (e14 : D 14 = false) (h12 : D 12 = true) (h7 : D 7 = true) (hK : K1 u') : GoC K0 K1 K2 (setD D 14) u' := by
 obtain ⟨h1, h2, h3, h4, h5, h6⟩ := h
 have e16 := bf h3 e14
 refine ⟨fun _ => by unfold setD; simp [h12, h7], fun e => ?_, fun e => ?_, fun e => ?_, fun _ _ => hK, fun e => ?_⟩
 ·have := h2 h12; unfold setD; simp [this]
 ·unfold setD at e; simp [e16] at e
 ·unfold setD at e; simp at e
 ·unfold setD at e; simp [e16] at e
theorem put (h : GoC K0 K1 K2 D u) (e14 : D 14 = true) (hK : K2 u') : GoC K0 K1 K2 (setD D 16) u' := by
 obtain ⟨h1, h2, h3, h4, h5, h6⟩ := h
 refine ⟨fun e => ?_, fun e => ?_, fun _ => by unfold setD; simp [e14], fun e => ?_, fun _ e => ?_, fun _ => hK⟩
 ·have := h1 e14; unfold setD; simp [this]
 ·have := h2 (by unfold setD at e; simpa using e); unfold setD; simp [this]
 ·unfold setD at e; simp [e14] at e
 ·unfold setD at e; simp at e
theorem all (h : GoC K0 K1 K2 D u) {R : World → Prop} (f0 : K0 u → R u) (f1 : K1 u → R u) (f2 : K2 u → R u) : R u := by
 obtain ⟨h1, h2, h3, h4, h5, h6⟩ := h
 cases e : D 14 with
 | false => exact f0 (h4 e)
 | true =>
   cases e2 : D 16 with
   | false => exact f1 (h5 e e2)
   | true => exact f2 (h6 e2)
end GoC
set_option maxRecDepth 20000 in
theorem rewind_calls (p : Nat) (t0 t1 t2 t3 t4 t5 t6 : Int) (t7 : Bool) (w : World) (hp : CellsAt w p 28 (tA t0 t1 t2 t3 t4 t5 t6 t7)) :
    Calls Tryz.prog 128 #[.pointer (some ⟨p, 0, none⟩)] w fun e w' => e = .returned (.tuple #[]) ∧ w.grownBy w' (some p) ∧ CellsAt w' p 28 (tA t0 t1 0 t3 t4 0 0 t7) := by
 have hc : ∀ i, w.cell? ⟨p, i, none⟩ = (tA t0 t1 t2 t3 t4 t5 t6 t7)[i]? := hp.cell
 have hf : ∀ i, w.frozen? ⟨p, i, none⟩ = false := hp.frozen
 have HP := hid (((hp.set_ 2 (.int .i64 0)).set_ 5 (.int .i64 0)).set_ 6 (.int .i64 0))
 have HG := hid (gb_set (gb_set (gb_set (gb_refl w (some p)) 2 (.int .i64 0)) 5 (.int .i64 0)) 6 (.int .i64 0))
 clear hp
 go_enter Tryz.func128, Tryz.ntmps128
 go_wp2_with fail
 go_end0
 exact ⟨rfl, HG.out, HP.out⟩
set_option maxRecDepth 20000 in
theorem fail_calls (p : Nat) (t0 t1 t2 t3 t4 t5 t6 : Int) (t7 : Bool) (w : World) (hp : CellsAt w p 28 (tA t0 t1 t2 t3 t4 t5 t6 t7)) :
    Calls Tryz.prog 97 #[.pointer (some ⟨p, 0, none⟩)] w fun e w' => e = .returned (.int .i64 4) ∧ w.grownBy w' (some p) ∧ CellsAt w' p 28 (tA t0 t1 0 t3 t4 0 0 true) := by
 have hc : ∀ i, w.cell? ⟨p, i, none⟩ = (tA t0 t1 t2 t3 t4 t5 t6 t7)[i]? := hp.cell
 have hf : ∀ i, w.frozen? ⟨p, i, none⟩ = false := hp.frozen
 have HP := hid (show CellsAt (w.setCell ⟨p, 7, none⟩ (.bool true)) p 28 (tA t0 t1 t2 t3 t4 t5 t6 true) from hp.set_ 7 (.bool true))
 have HG := hid (gb_set (gb_refl w (some p)) 7 (.bool true))
 have RW := hid (fun (u : World) (h : CellsAt u p 28 (tA t0 t1 t2 t3 t4 t5 t6 true)) => rewind_calls p t0 t1 t2 t3 t4 t5 t6 true u h)
 clear hp
 go_enter Tryz.func97, Tryz.ntmps97
 go_upto_region 2 with fail
 have h1 := HP.out
 have g1 := HG.out
 clear HP HG hc hf
 generalize World.setCell _ _ _ = w1 at h1 g1 ⊢
 go_wp2_with fail
 refine (RW.out _ h1).mono ?_; rintro e w2 ⟨rfl, g2, h2⟩
 have G2 := hid (gb_trans g1 g2)
 have H2 := hid h2
 clear g1 g2 h1 h2 RW
 go_wp2_with fail
 go_ret
 exact ⟨rfl, G2.out, H2.out⟩
set_option maxRecDepth 20000 in
theorem pass_calls (p : Nat) (t0 t1 t2 t3 t4 t5 t6 : Int) (t7 : Bool) (w : World) (h1 : 0 ≤ t1) (h1' : t1 ≤ 1000) (hp : CellsAt w p 28 (tA t0 t1 t2 t3 t4 t5 t6 t7)) :
    Calls Tryz.prog 96 #[.pointer (some ⟨p, 0, none⟩)] w fun e w' => e = .returned (.int .i64 5) ∧ w.grownBy w' (some p) ∧ CellsAt w' p 28 (tA t0 (t1 + 1) 0 t5 t6 0 0 t7) := by
 have hw : IntKind.i64.wrap (t1 + 1) = t1 + 1 := IntWalk.i64_in _ (by omega)
 have hc : ∀ i, w.cell? ⟨p, i, none⟩ = (tA t0 t1 t2 t3 t4 t5 t6 t7)[i]? := hp.cell
 have hf : ∀ i, w.frozen? ⟨p, i, none⟩ = false := hp.frozen
 have HP := hid (show CellsAt (w.setCell ⟨p, 1, none⟩ (.int .i64 (t1 + 1))) p 28 (tA t0 (t1 + 1) t2 t3 t4 t5 t6 t7) from hp.set_ 1 (.int .i64 (t1 + 1)))
 have HG := hid (gb_set (gb_refl w (some p)) 1 (.int .i64 (t1 + 1)))
 have RW := hid (fun (u : World) (h : CellsAt u p 28 (tA t0 (t1 + 1) t2 t5 t6 t5 t6 t7)) => rewind_calls p t0 (t1 + 1) t2 t5 t6 t5 t6 t7 u h)
 clear hp h1 h1'
 go_enter Tryz.func96, Tryz.ntmps96
 go_upto_region 2 with fail
 have h1 := HP.out
 have g1 := HG.out
 clear HP HG hc hf
 generalize World.setCell _ _ _ = w1 at h1 g1 ⊢
 have hc : ∀ i, w1.cell? ⟨p, i, none⟩ = (tA t0 (t1 + 1) t2 t3 t4 t5 t6 t7)[i]? := h1.cell
 have hf : ∀ i, w1.frozen? ⟨p, i, none⟩ = false := h1.frozen
 have H1 := hid h1
 have G1 := hid g1
 clear h1 g1
 go_region
 all_goals
  have H2 := hid (show CellsAt _ p 28 (tA t0 (t1 + 1) t2 t5 t6 t5 t6 t7) from ((H1.out.set_ 3 (.int .i64 t5)).set_ 4 (.int .i64 t6)).drew)
  have G2 := hid (gb_drew (gb_set (gb_set G1.out 3 (.int .i64 t5)) 4 (.int .i64 t6)))
  clear hc hf H1 G1
  go_upto_region 3 with fail
  have h2 := H2.out
  have g2 := G2.out
  clear H2 G2
  generalize World.drew _ = w2 at h2 g2 ⊢
  go_wp2_with fail
  refine (RW.out _ h2).mono ?_; rintro e w3 ⟨rfl, g3, h3⟩
  have G3 := hid (gb_trans g2 g3)
  have H3 := hid h3
  clear g2 g3 h2 h3 RW
  go_wp2_with fail
  go_ret
  exact ⟨rfl, G3.out, H3.out⟩
set_option maxRecDepth 20000 in
theorem goThrough_calls (key a ct cv : Int) (p : Nat) (t0 t1 t2 t3 t4 t5 t6 : Int) (t7 : Bool) (w : World) (hkey : I64 key) (ha : I64 a) (hct : I64 ct) (hcv : I64 cv) (h0 : 0 ≤ t0) (h0' : t0 ≤ 100000) (h2 : 0 ≤ t2) (h2' : t2 ≤ 100) (hp : CellsAt w p 28 (tA t0 t1 t2 t3 t4 t5 t6 t7)) :
    Calls Tryz.prog 95 #[.pointer (some ⟨p, 0, none⟩), .int .i64 key, .int .i64 a, .agg (cA ct cv)] w fun e w' => e = .returned (.agg (cA ((cellOf key a (t0 + 1) (valueIn key a ct cv)).1) ((cellOf key a (t0 + 1) (valueIn key a ct cv)).2))) ∧ w.grownBy w' (some p) ∧ CellsAt w' p 28 (tA (t0 + 1) t1 (t2 + 1) (addOf t3 (tagIn key a ct cv)) t4 t5 (addOf t6 (tagIn key a (cellOf key a (t0 + 1) (valueIn key a ct cv)).1 (cellOf key a (t0 + 1) (valueIn key a ct cv)).2)) t7) := by
 have hw : IntKind.i64.wrap (t2 + 1) = t2 + 1 := IntWalk.i64_in _ (by omega)
 have TC := hid (fun (u : World) (h : CellsAt u p 28 (tA t0 t1 t2 t3 t4 t5 t6 t7)) => take_calls key a t3 ct cv p 3 (tA t0 t1 t2 t3 t4 t5 t6 t7) u hkey ha hct hcv h rfl)
 have hvi := valueIn_i64 key a ct cv
 generalize hz3 : addOf t3 (tagIn key a ct cv) = z3 at TC ⊢
 clear hz3
 generalize hy : valueIn key a ct cv = y at TC hvi ⊢
 clear hy
 have PC := hid (fun (u : World) (h : CellsAt u p 28 (tA t0 t1 (t2 + 1) z3 t4 t5 t6 t7)) => put_calls key a t0 t6 y p 6 (tA t0 t1 (t2 + 1) z3 t4 t5 t6 t7) u hkey ha h0 (by omega) hvi h rfl rfl (by decide))
 generalize hz6 : addOf t6 (tagIn key a (cellOf key a (t0 + 1) y).1 (cellOf key a (t0 + 1) y).2) = z6 at PC ⊢
 clear hz6
 generalize (cellOf key a (t0 + 1) y).1 = y1 at PC ⊢
 generalize (cellOf key a (t0 + 1) y).2 = y2 at PC ⊢
 have lp := hp.lt
 have P0 := hid (show CellsAt ((w.alloc (.cells (cA ct cv) 30)).alloc (.cells zC 30)) p 28 (tA t0 t1 t2 t3 t4 t5 t6 t7) from (hp.below (allocP w _) lp).below (allocP _ _) (by simp; omega))
 have G0 := hid (show w.grownBy ((w.alloc (.cells (cA ct cv) 30)).alloc (.cells zC 30)) (some p) from gb_alloc (gb_alloc (gb_refl w (some p)) _) _)
 have R0 := hid (show CellsAt ((w.alloc (.cells (cA ct cv) 30)).alloc (.cells zC 30)) w.heap.size 30 (cA ct cv) from (CellsAt.new w _ _).below (allocP _ _) (by simp))
 have Q0 := hid (show CellsAt ((w.alloc (.cells (cA ct cv) 30)).alloc (.cells zC 30)) (w.heap.size + 1) 30 zC from by have h := CellsAt.new (w.alloc (.cells (cA ct cv) 30)) 30 zC; simpa using h)
 clear hp hkey ha hct hcv h0 h0' h2 h2' hvi
 go_enter Tryz.func95, Tryz.ntmps95
 go_upto_region 1 with fail
 have hp0 := P0.out
 have hg0 := G0.out
 have hr0 := R0.out
 have hq0 := Q0.out
 clear P0 G0 R0 Q0
 generalize World.alloc _ _ = w0 at hp0 hg0 hr0 hq0 ⊢
 have HP := hid hp0
 have HG := hid hg0
 have HR := hid hr0
 have HQ := hid hq0
 clear hp0 hg0 hr0 hq0
 refine wp_region_class_tail (C := fun u => Below w0.heap.size w0 u) 6 (by kernel_rfl) (by kernel_rfl) (Below.refl _ _).drew ?_
 simp only [List.take_succ_cons, List.take_zero, List.drop_succ_cons, List.drop_zero]
 iterate 6 (first
  | go_big_quiet_skip
  | (go_big_quiet_want
     go_big_quiet_op
     first
      | go_big_quiet_on
      | (apply Exists.intro
         refine ⟨fun u hu => ?_, ?_⟩
         ·first
            | with_reducible rfl
            | (have cq := (HR.out.below hu HR.out.lt).cell; go_simp; first | done | with_reducible rfl)
         go_big_quiet_on)))
 refine wpQuiet_nil ?_
 intro w1 hb1
 have hp1 := HP.out.below hb1 HP.out.lt
 have hg1 := gb_belowP HG.out (hb1.mono HG.out.size)
 have hq1 := HQ.out.below hb1 HQ.out.lt
 clear HP HG HR HQ hb1
 go_wp2_with fail
 refine (TC.out _ hp1).mono ?_; rintro e w2 ⟨rfl, g2, hp2⟩
 have hp2' : CellsAt w2 p 28 (tA t0 t1 t2 z3 t4 t5 t6 t7) := hp2
 have hq2 := hq1.grown g2 (by intro e; injection e; omega)
 have hg2 := gb_trans hg1 g2
 have hc : ∀ i, w2.cell? ⟨p, i, none⟩ = (tA t0 t1 t2 z3 t4 t5 t6 t7)[i]? := hp2'.cell
 have hf : ∀ i, w2.frozen? ⟨p, i, none⟩ = false := hp2'.frozen
 have HP := hid (show CellsAt (w2.setCell ⟨p, 2, none⟩ (.int .i64 (t2 + 1))) p 28 (tA t0 t1 (t2 + 1) z3 t4 t5 t6 t7) from hp2'.set_ 2 (.int .i64 (t2 + 1)))
 have HG := hid (gb_set hg2 2 (.int .i64 (t2 + 1)))
 have HQ := hid (hq2.grown (gb_set (gb_refl w2 (some p)) 2 (.int .i64 (t2 + 1))) (by intro e; injection e; omega))
 clear hp1 hp2 hp2' hq1 hq2 hg1 hg2 g2 TC
 go_upto_region 3 with fail
 have hp3 := HP.out
 have hg3 := HG.out
 have hq3 := HQ.out
 clear HP HG HQ hc hf
 generalize World.setCell _ _ _ = w3 at hp3 hg3 hq3 ⊢
 go_wp2_with fail
 refine (PC.out _ hp3).mono ?_; rintro e w4 ⟨rfl, g4, hp4⟩
 have hp4' : CellsAt w4 p 28 (tA (t0 + 1) t1 (t2 + 1) z3 t4 t5 z6 t7) := hp4
 have hq4 := hq3.grown g4 (by intro e; injection e; omega)
 have hg4 := gb_trans hg3 g4
 have qc : ∀ i, w4.cell? ⟨w.heap.size + 1, i, none⟩ = zC[i]? := hq4.cell
 have qf : ∀ i, w4.frozen? ⟨w.heap.size + 1, i, none⟩ = false := hq4.frozen
 have hq5 := (hq4.set_ 0 (.int .i64 y1)).set_ 1 (.int .i64 y2)
 have hp5 := hp4'.grown (gb_set (gb_set (gb_refl w4 (some (w.heap.size + 1))) 0 (.int .i64 y1)) 1 (.int .i64 y2)) (by intro e; injection e; omega)
 have hg5 : w.grownBy _ (some p) := gb_newP (gb_newP hg4 (show w.heap.size ≤ w.heap.size + 1 by omega) 0 (.int .i64 y1)) (show w.heap.size ≤ w.heap.size + 1 by omega) 1 (.int .i64 y2)
 have HP := hid hp5
 have HG := hid hg5
 have HQ := hid hq5
 clear hp3 hp4 hp4' hq3 hq4 hg3 hg4 g4 hp5 hg5 hq5 PC
 go_wp2_with fail
 have hp5 := HP.out
 have hg5 := HG.out
 have hq5 := HQ.out
 clear HP HG HQ qc qf
 generalize World.setCell _ _ _ = w5 at hp5 hg5 hq5 ⊢
 have rc : ∀ i, w5.cell? ⟨w.heap.size + 1, i, none⟩ = (cA y1 y2)[i]? := hq5.cell
 exact bodyPost_ret (v := .agg (cA y1 y2)) (by simp [results, Tryz.results95, go_sem, rc]) rfl ⟨rfl, hg5, hp5⟩
open Classical in
noncomputable def scanB (key : Int) (l : List Int) (x : Int) (t : Tru) (ct cv : Int) : Bool := decide (scanOk key l x t ct cv)
open Classical in
theorem scanB_yes {key : Int} {l : List Int} {t : Tru} {x ct cv : Int} (h : scanOk key l x t ct cv) : scanB key l x t ct cv = true := by unfold scanB; exact decide_eq_true h
open Classical in
theorem scanB_no {key : Int} {l : List Int} {t : Tru} {x ct cv : Int} (h : ¬ scanOk key l x t ct cv) : scanB key l x t ct cv = false := by unfold scanB; exact decide_eq_false h
set_option maxRecDepth 20000 in
theorem refusedScan_on (key x ct cv : Int) (A : Option Addr) (l : List Int) (cap : Nat) (t0 t1 t2 t3 t4 t5 t6 : Int) (t7 : Bool) (w : World) (P : Value → World → Prop) (hn : l.length ≤ 1048576) (hcap : l.length ≤ cap) (hA : Ints w .i64 w.heap.size A l) (hct : I64 ct) (hcv : I64 cv)
    (R : ∀ u, Below w.heap.size w u → Calls Tryz.prog 70 #[.agg (tA t0 t1 t2 t3 t4 t5 t6 t7), .agg (cA ct cv), .bool (scanB key l x ⟨t0, t1, t2, t3, t4, t5, t6, t7⟩ ct cv), .bool (t0 == 100000 || t1 == 1000)] u fun e w' => ∃ v, e = .returned v ∧ P v w') :
    Calls Tryz.prog 94 #[.agg (pA key A l.length cap), .int .i64 x, .agg (tA t0 t1 t2 t3 t4 t5 t6 t7), .agg (cA ct cv)] w fun e w' => ∃ v, e = .returned v ∧ P v w' := by
 have K0 := hid (show Kept w [(w.heap.size + 1 + 1, 30, (cA ct cv)), (w.heap.size + 1, 28, (tA t0 t1 t2 t3 t4 t5 t6 t7)), (w.heap.size, 26, (pA key A l.length cap))] _ from ((((Kept.refl w).put1 _ _ (pA key A l.length cap) rfl).put1 _ _ (tA t0 t1 t2 t3 t4 t5 t6 t7) (by simp)).put1 _ _ (cA ct cv) (by simp)))
 have TC := hid (fun (u : World) (h : Kept w [(w.heap.size + 1 + 1, 30, (cA ct cv)), (w.heap.size + 1, 28, (tA t0 t1 t2 t3 t4 t5 t6 t7)), (w.heap.size, 26, (pA key A l.length cap))] u) => (implTrustOk_calls key x A l cap t0 t1 t2 t3 t4 t5 t6 t7 u hn hcap ((hA.below h.1 (Nat.le_refl _)).more h.1.size)).mono (fun e w' ⟨he, hb⟩ => (⟨he, h.below hb⟩ : _ ∧ Kept w [(w.heap.size + 1 + 1, 30, (cA ct cv)), (w.heap.size + 1, 28, (tA t0 t1 t2 t3 t4 t5 t6 t7)), (w.heap.size, 26, (pA key A l.length cap))] w')))
 have CC := hid (fun (u : World) (h : Kept w [(w.heap.size + 1 + 1, 30, (cA ct cv)), (w.heap.size + 1, 28, (tA t0 t1 t2 t3 t4 t5 t6 t7)), (w.heap.size, 26, (pA key A l.length cap))] u) => (ansCellOk ct cv u hct hcv).mono (fun e w' ⟨he, hb⟩ => (⟨he, h.below hb⟩ : _ ∧ Kept w [(w.heap.size + 1 + 1, 30, (cA ct cv)), (w.heap.size + 1, 28, (tA t0 t1 t2 t3 t4 t5 t6 t7)), (w.heap.size, 26, (pA key A l.length cap))] w')))
 have hsb : scanB key l x ⟨t0, t1, t2, t3, t4, t5, t6, t7⟩ ct cv = (trustB key l x ⟨t0, t1, t2, t3, t4, t5, t6, t7⟩ && decide (isCell ct cv)) := by
  unfold scanB trustB
  by_cases h1 : trustOk key l x ⟨t0, t1, t2, t3, t4, t5, t6, t7⟩ <;> by_cases h2 : isCell ct cv <;> simp [scanOk, h1, h2]
 rw [hsb] at R
 clear hsb hA hn hcap hct hcv
 generalize trustB key l x ⟨t0, t1, t2, t3, t4, t5, t6, t7⟩ = b1 at R TC
 generalize decide (isCell ct cv) = b2 at R CC
 rcases hq0 : (t0 == 100000) with _ | _
 all_goals rw [hq0] at R
 all_goals simp only [Bool.false_or, Bool.true_or] at R
 all_goals
  rcases b1 with _ | _
  all_goals simp only [Bool.false_and, Bool.true_and] at R
  all_goals
   have RQ := hid R
   clear R
   go_enter Tryz.func94, Tryz.ntmps94
   go_upto_region 1 with fail
   have k0 := K0.out
   clear K0
   generalize World.alloc _ _ = w0 at k0 ⊢
   obtain ⟨X0, Y0, X1, Y1, X2, Y2, -⟩ := k0.rd
   go_wp2_with fail
   refine (TC.out _ k0).mono ?_; rintro e w1 ⟨rfl, k1⟩
   clear X0 Y0 X1 Y1 X2 Y2 k0 TC
   obtain ⟨X0, Y0, X1, Y1, X2, Y2, -⟩ := k1.rd
   go_wp2_with fail
   try
    refine (CC.out _ k1).mono ?_; rintro e w1 ⟨rfl, k1⟩
    clear X0 Y0 X1 Y1 X2 Y2
    obtain ⟨X0, Y0, X1, Y1, X2, Y2, -⟩ := k1.rd
    go_wp2_with fail
   refine (RQ.out _ k1.1).mono ?_; rintro e w9 ⟨v, rfl, hv⟩
   have HV := hid hv
   clear hv
   go_wp2_with fail
   go_ret
   exact ⟨v, rfl, HV.out⟩
end Go.Proofs.YteopplldbcgjjaaGreatDoor.Mx

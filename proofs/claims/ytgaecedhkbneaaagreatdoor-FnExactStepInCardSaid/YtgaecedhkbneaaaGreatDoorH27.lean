import Derived.Test.YtgaecedhkbneaaaGreatDoorH25
import Derived.Test.YtgaecedhkbneaaaGreatDoorH26
import Derived.Test.YtgaecedhkbneaaaGreatDoorH19
import Derived.Test.YtgaecedhkbneaaaGreatDoorH23
import Derived.Defers
import Derived.Recover
namespace Go.Proofs.YtgaecedhkbneaaaGreatDoor.Mx
open Go.ChangeShapes Go.WideShapes Go.ChangeAt Go.RowKit
set_option linter.unusedVariables false
theorem steps_storeN {P : Program} {ρ : Operand → Value} {o : Oper} {t : TypeId} {x y : Operand} {w : World} {K : Value → World → Prop} {a : Addr} {z : Value} {n : Int} (hc : w.cell? a = some z) (hf : w.frozen? a = false) (hop : o.op = .store t x y) (hx : ρ x = .pointer (some a)) (hy : ρ y = .int .i64 n) (hi : (P.info? t).map (·.size) = some 1)
    (h : K undef (w.setCell a (.int .i64 n))) : stepsTo P ((execOp ρ o).run P w) K := by
  have e2 : (execOp ρ o).run P w = .ok .skip (w.setCell a (.int .i64 n)) := by
    unfold execOp
    rw [hop]
    obtain ⟨i, hi1, hi2⟩ := Option.map_eq_some_iff.1 hi
    simp [hx, hy, Instr.storeAt, Instr.sureAddr, storeVar, sizeOf, typeInfo, hi1, hi2, Value.cells, storeCells, go_sem, hc, hf, Addr.add]
  rw [e2]
  exact h
theorem VolO.drew {u : World} {base : Nat} {x : VolN} {v : Value} (h : VolO u base x v) : VolO u.drew base x v := h.below ⟨rfl, rfl, rfl, Nat.le_refl _, fun _ _ => rfl⟩
def KV (b : World) (L : List Box) (base : Nat) (x : VolN) (v : Value) (u : World) : Prop := Kept b L u ∧ VolO u base x v
def TurnB (b : Nat) (g : Option Nat) (u v : World) : Prop := v.os = u.os ∧ v.tape = u.tape ∧ v.output = u.output ∧ u.heap.size ≤ v.heap.size ∧ ∀ k, k < b → g ≠ some k → v.heap[k]? = u.heap[k]?
theorem TurnB.trans {b : Nat} {g : Option Nat} {u v w : World} (h : TurnB b g u v) (h' : TurnB b g v w) : TurnB b g u w :=
  ⟨h'.1.trans h.1, h'.2.1.trans h.2.1, h'.2.2.1.trans h.2.2.1, Nat.le_trans h.2.2.2.1 h'.2.2.2.1, fun k hk hr => (h'.2.2.2.2 k hk hr).trans (h.2.2.2.2 k hk hr)⟩
theorem TurnB.of {b : Nat} {g : Option Nat} {u v : World} (h : Below b u v) : TurnB b g u v := ⟨h.os, h.tape, h.output, h.size, fun k hk _ => h.block k hk⟩
theorem TurnB.mono {b b' : Nat} {g : Option Nat} {u v : World} (h : TurnB b g u v) (hb : b' ≤ b) : TurnB b' g u v := ⟨h.1, h.2.1, h.2.2.1, h.2.2.2.1, fun k hk => h.2.2.2.2 k (Nat.lt_of_lt_of_le hk hb)⟩
theorem TurnB.none {b : Nat} {u v : World} (h : TurnB b none u v) : Below b u v := ⟨h.1, h.2.1, h.2.2.1, h.2.2.2.1, fun k hk => h.2.2.2.2 k hk (by simp)⟩
theorem Kept.turnB {w u v : World} {L : List Box} {b : Nat} {g : Option Nat} (h : Kept w L u) (ht : TurnB b g u v) (hb : w.heap.size ≤ b) (hL : ∀ x ∈ L, x.1 < b) (hg : ∀ k, g = some k → k < w.heap.size) :
    ∃ wb : World, wb.heap.size = w.heap.size ∧ TurnB w.heap.size g w wb ∧ Kept wb L v ∧ ∀ k, k < w.heap.size → wb.heap[k]? = v.heap[k]? := by
  have hs : w.heap.size ≤ v.heap.size := Nat.le_trans h.1.size ht.2.2.2.1
  have hz : (v.heap.extract 0 w.heap.size).size = w.heap.size := by simp; omega
  have hk : ∀ k, k < w.heap.size → (v.heap.extract 0 w.heap.size)[k]? = v.heap[k]? := fun k hk => by
    rw [Array.getElem?_extract]; simp; intro hh; omega
  refine ⟨{ v with heap := v.heap.extract 0 w.heap.size }, hz, ⟨ht.1.trans h.1.os, ht.2.1.trans h.1.tape, ht.2.2.1.trans h.1.output, Nat.le_of_eq hz.symm, fun k hk' hr => ?_⟩, ⟨⟨rfl, rfl, rfl, by rw [hz]; exact hs, fun k hk' => ?_⟩, fun x hx => ⟨by rw [hz]; exact (h.2 x hx).1, ?_⟩⟩, hk⟩
  · exact (hk k hk').trans ((ht.2.2.2.2 k (by omega) hr).trans (h.1.block k hk'))
  · rw [hz] at hk'; exact (hk k hk').symm
  · exact (ht.2.2.2.2 x.1 (hL x hx) (fun e => by have := hg _ e; have := (h.2 x hx).1; omega)).trans (h.2 x hx).2
def WorkQ (a0 : Addr) (b : Nat) (cs : Array Value) (g : Option Nat) (r : VolN × Int × Int) (u : World) (e : Ending) (w' : World) : Prop :=
  (e = .returned (.int .i64 r.2.2) ∨ (e = .panicked [{ v := .iface 264 (.pointer (some a0)), recovered := false }] ∧ r.2.2 = 1)) ∧ VolO w' b r.1 (.agg cs) ∧ TurnB b g u w' ∧ ∀ k, g = some k → CellsAt w' k 2 #[.int .i64 r.2.1]
def WorkA (w : World) (g : Option Nat) (r : Option VolN × Int × Int) (e : Ending) (w' : World) : Prop :=
  ∃ cs, e = .returned (.tuple #[.agg cs, .int .i64 r.2.2]) ∧ VolQ w' w.heap.size r.1 (.agg cs) ∧ TurnB w.heap.size g w w' ∧ ∀ k, g = some k → CellsAt w' k 2 #[.int .i64 r.2.1]
theorem demand_yes (w : World) : Calls Tryz.prog 37 #[.bool true] w fun e w' => e = .returned (.tuple #[]) ∧ w = w' := by
  go_enter Tryz.func37, Tryz.ntmps37
  go_wp2_with fail
  go_end0
  exact ⟨rfl, rfl⟩
theorem demand_no (a0 a1 a2 a3 : Addr) (w : World) (he : Errs w a0 a1 a2 a3) : Calls Tryz.prog 37 #[.bool false] w fun e w' => e = .panicked [{ v := .iface 264 (.pointer (some a0)), recovered := false }] ∧ w = w' := by
  have hc : w.cell? ⟨0, 0, none⟩ = some (.iface 264 (.pointer (some a0))) := he.2.1.1
  clear he
  go_enter Tryz.func37, Tryz.ntmps37
  go_wp2_with fail
  exact ⟨rfl, rfl, rfl⟩
theorem catch_panicking (p : Addr) (x : Value) (u : TypeId) (pv : Value) (older : List PanicEntry) (w : World) (hc : w.cell? p = some x) (hz : w.frozen? p = false) :
    CallsD Tryz.prog 95 #[.pointer (some p)] (.panicking ({ v := .iface u pv, recovered := false } :: older)) w fun e u' w' =>
      e = .returned (.tuple #[]) ∧ u' = .panicking ({ v := .iface u pv, recovered := true } :: older) ∧ w' = w.setCell p (.int .i64 1) := by
  refine callsD_of_wpS Tryz.func95 rfl fun c₀ cs hu => ?_
  apply wpS_seq
  apply wpS_region
  simp [wpOpsS, go_sem, recoverD, hu, Tryz.ntmps95, Exit.thenS]
  refine wpS_cond (t := true) (by simp [Act.eval, Array.replicate]) ?_
  simp only [if_true]
  apply wpS_region
  simp [wpOpsS, go_sem, hc, hz, bodyPostS, results, Tryz.results95]
theorem catch_idle (p : Addr) (w : World) :
    CallsD Tryz.prog 95 #[.pointer (some p)] .returning w fun e u' w' => e = .returned (.tuple #[]) ∧ u' = .returning ∧ w' = w := by
  refine callsD_of_wpS Tryz.func95 rfl fun c₀ cs hu => ?_
  apply wpS_seq
  apply wpS_region
  simp [wpOpsS, go_sem, recoverD, hu, Tryz.ntmps95, Exit.thenS]
  refine wpS_cond (t := false) (by simp [Act.eval, Array.replicate]) ?_
  simp only [Bool.false_eq_true, if_false]
  refine wpS_of_wp (wp_skip ?_)
  cases c₀
  simp_all [bodyPostS, results, Tryz.results95]
set_option maxRecDepth 20000 in
set_option maxHeartbeats 8000000 in
theorem workedOn_StepIn_no (a0 a1 a2 a3 : Addr) (x : VolG) (v : Value) (vb : Nat) (w : World) (hx : x.Short) (hi : x.Int64) (hr : RdG w w.heap.size x v) (he : Errs w a0 a1 a2 a3)
    (hg : ∀ k, none = some k → CellsAt w k 2 #[.int .i64 0]) (hok : x.okB = false) :
    Calls Tryz.prog 35 #[v, .func (.func 43) #[] #[.pointer (some ⟨vb, 0, none⟩)]] w (WorkA w none (none, 0, 1)) := by
  obtain ⟨A, c, B, d, C, e, E, sc, rfl, i1, i2, i3, i4, i5, i6⟩ := hr
  have hmf : ∀ (fn : Fn) (first cap : Array Value) (w : World), (Instr.makeFunc fn first cap).run Tryz.prog w = .ok (.func fn first cap) w := fun _ _ _ _ => rfl
  have K0 := Lib.hid (show Kept w [(w.heap.size + 1 + 1, 2, #[.int .i64 0]), (w.heap.size + 1, 31, #[.int .i64 0, .slice none 0 0, .slice none 0 0, .slice none 0 0, .slice none 0 0, .int .i64 0]), (w.heap.size, 31, #[.int .i64 x.key, .slice A x.counts.length c, .slice B x.trusts.length d, .slice C x.cells.length e, .slice E x.slots.length sc, .int .i64 x.count])] _ from ((((Kept.refl w).put1 _ _ #[.int .i64 x.key, .slice A x.counts.length c, .slice B x.trusts.length d, .slice C x.cells.length e, .slice E x.slots.length sc, .int .i64 x.count] rfl).put1 _ _ #[.int .i64 0, .slice none 0 0, .slice none 0 0, .slice none 0 0, .slice none 0 0, .int .i64 0] (by simp)).put1 _ _ #[.int .i64 0] (by simp)))
  have HE := Lib.hid he
  have HG := Lib.hid hg
  have HR := Lib.hid (show RdG w w.heap.size x (.agg #[.int .i64 x.key, .slice A x.counts.length c, .slice B x.trusts.length d, .slice C x.cells.length e, .slice E x.slots.length sc, .int .i64 x.count]) from ⟨A, c, B, d, C, e, E, sc, rfl, i1, i2, i3, i4, i5, i6⟩)
  have VOK := Lib.hid (fun (u : World) (hb : Below w.heap.size w u) => ansVolumeOk x (.agg #[.int .i64 x.key, .slice A x.counts.length c, .slice B x.trusts.length d, .slice C x.cells.length e, .slice E x.slots.length sc, .int .i64 x.count]) u hx hi (HR.out.grow hb))
  clear he hg i1 i2 i3 i4 i5 i6 hx hi HR
  rw [hok] at VOK
  clear hok
  go_enter_defers Tryz.func35, Tryz.ntmps35
  go_upto_region 1 with fail
  have k0 := K0.out
  clear K0
  generalize World.alloc (World.alloc _ _) _ = w0 at k0 ⊢
  obtain ⟨kc0, kf0, kc1, kf1, kc2, kf2, -⟩ := k0.rd
  go_wp2_with fail
  refine (VOK.out _ k0.1).mono ?_; rintro e1 w1 ⟨rfl, b1⟩
  have k1 := k0.below b1
  clear k0 b1 kc0 kf0 kc1 kf1 kc2 kf2 VOK
  go_wp2_with fail
  refine (demand_no a0 a1 a2 a3 w1 (HE.out.below k1.1)).mono ?_; rintro e1 w2 ⟨rfl, rfl⟩
  have K1 := Lib.hid k1
  clear k1
  go_wp2_with fail
  refine leaves_cons (f := 95) (args := #[.pointer (some ⟨w.heap.size + 1 + 1, 0, none⟩)]) (by simp) (by simp [go_sem]) ?_
  refine (catch_panicking ⟨w.heap.size + 1 + 1, 0, none⟩ _ _ _ [] _ ((K1.out.cell (p := w.heap.size + 1 + 1) (t := 2) (cs := #[.int .i64 0]) (by simp) 0).trans rfl) (K1.out.frozen (p := w.heap.size + 1 + 1) (t := 2) (cs := #[.int .i64 0]) (by simp) 0)).mono ?_
  rintro e1 u' w3 ⟨rfl, rfl, rfl⟩
  have k3 : Kept w [(w.heap.size + 1 + 1, 2, #[.int .i64 1]), (w.heap.size + 1, 31, #[.int .i64 0, .slice none 0 0, .slice none 0 0, .slice none 0 0, .slice none 0 0, .int .i64 0]), (w.heap.size, 31, #[.int .i64 x.key, .slice A x.counts.length c, .slice B x.trusts.length d, .slice C x.cells.length e, .slice E x.slots.length sc, .int .i64 x.count])] _ := K1.out.put (k := 0) rfl (by unfold Apart; simp <;> omega) (gb_set (gb_refl _ (some (w.heap.size + 1 + 1))) 0 _) ((K1.out.at_ (p := w.heap.size + 1 + 1) (t := 2) (cs := #[.int .i64 0]) (by simp)).set_ 0 (.int .i64 1))
  generalize World.setCell _ _ _ = w3 at k3 ⊢
  obtain ⟨kc0, kf0, kc1, kf1, kc2, kf2, -⟩ := k3.rd
  have fin : WorkA w none (none, 0, 1) (.returned (.tuple #[.agg #[.int .i64 0, .slice none 0 0, .slice none 0 0, .slice none 0 0, .slice none 0 0, .int .i64 0], .int .i64 1])) w3 := ⟨_, rfl, rfl, TurnB.of k3.1, fun k hk => (HG.out k hk).below k3.1 (HG.out k hk).lt⟩
  have FIN := Lib.hid fin
  clear fin k3 K1 HG HE
  simp [Leaves, settle, results, Tryz.results35, go_sem, kc0, kc1]
  exact FIN.out
set_option maxRecDepth 20000 in
set_option maxHeartbeats 8000000 in
theorem workedOn_StepIn_yes (a0 a1 a2 a3 : Addr) (x : VolG) (v : Value) (vb : Nat) (r : VolN × Int × Int) (w : World) (hx : x.Short) (hi : x.Int64) (hr : RdG w w.heap.size x v) (he : Errs w a0 a1 a2 a3)
    (hg : ∀ k, none = some k → CellsAt w k 2 #[.int .i64 0]) (hok : x.okB = true)
    (hW : ∀ (u : World) (b p : Nat) (cs : Array Value), Below w.heap.size w u → w.heap.size ≤ p → p < b → b ≤ u.heap.size → CellsAt u p 31 cs → VolO u b x.toN (.agg cs) → Calls Tryz.prog 43 #[.pointer (some ⟨p, 0, none⟩), .pointer (some ⟨vb, 0, none⟩)] u (WorkQ a0 b cs none r u)) :
    Calls Tryz.prog 35 #[v, .func (.func 43) #[] #[.pointer (some ⟨vb, 0, none⟩)]] w (WorkA w none (some r.1, r.2)) := by
  have HDU0 : ∀ (u : World), Below w.heap.size w u → Calls Tryz.prog 57 #[v] u fun e w' => ∃ cs, e = .returned (.agg cs) ∧ VolO w' u.heap.size x.toN (.agg cs) ∧ Below u.heap.size u w' := fun u hb => by
    obtain ⟨A, c, B, d, C, e, b, off, s, e9, i1, i2, i3, i4, i5, i6, i7⟩ := (hr.grow hb).two (VolG.inv hi hok).1
    have h := duplicate_calls x.toN A c B d C e b off s u ⟨hx.1, hx.2.1, hx.2.2.1, (hx.2.2.2.2 0 (by rw [(VolG.inv hi hok).1]; decide)).1, (hx.2.2.2.2 0 (by rw [(VolG.inv hi hok).1]; decide)).2, (hx.2.2.2.2 1 (by rw [(VolG.inv hi hok).1]; decide)).1, (hx.2.2.2.2 1 (by rw [(VolG.inv hi hok).1]; decide)).2⟩ i1 i2 i3 i4 i5 i6
    rw [← e9] at h
    exact h
  have HDU := Lib.hid HDU0
  clear HDU0
  obtain ⟨A, c, B, d, C, e, E, sc, rfl, i1, i2, i3, i4, i5, i6⟩ := hr
  have hmf : ∀ (fn : Fn) (first cap : Array Value) (w : World), (Instr.makeFunc fn first cap).run Tryz.prog w = .ok (.func fn first cap) w := fun _ _ _ _ => rfl
  have K0 := Lib.hid (show Kept w [(w.heap.size + 1 + 1, 2, #[.int .i64 0]), (w.heap.size + 1, 31, #[.int .i64 0, .slice none 0 0, .slice none 0 0, .slice none 0 0, .slice none 0 0, .int .i64 0]), (w.heap.size, 31, #[.int .i64 x.key, .slice A x.counts.length c, .slice B x.trusts.length d, .slice C x.cells.length e, .slice E x.slots.length sc, .int .i64 x.count])] _ from ((((Kept.refl w).put1 _ _ #[.int .i64 x.key, .slice A x.counts.length c, .slice B x.trusts.length d, .slice C x.cells.length e, .slice E x.slots.length sc, .int .i64 x.count] rfl).put1 _ _ #[.int .i64 0, .slice none 0 0, .slice none 0 0, .slice none 0 0, .slice none 0 0, .int .i64 0] (by simp)).put1 _ _ #[.int .i64 0] (by simp)))
  have HG := Lib.hid hg
  have HR := Lib.hid (show RdG w w.heap.size x (.agg #[.int .i64 x.key, .slice A x.counts.length c, .slice B x.trusts.length d, .slice C x.cells.length e, .slice E x.slots.length sc, .int .i64 x.count]) from ⟨A, c, B, d, C, e, E, sc, rfl, i1, i2, i3, i4, i5, i6⟩)
  have VOK := Lib.hid (fun (u : World) (hb : Below w.heap.size w u) => ansVolumeOk x (.agg #[.int .i64 x.key, .slice A x.counts.length c, .slice B x.trusts.length d, .slice C x.cells.length e, .slice E x.slots.length sc, .int .i64 x.count]) u hx hi (HR.out.grow hb))
  have HW := Lib.hid hW
  clear he hg hW i1 i2 i3 i4 i5 i6 hx hi HR
  rw [hok] at VOK
  clear hok
  go_enter_defers Tryz.func35, Tryz.ntmps35
  go_upto_region 1 with fail
  have k0 := K0.out
  clear K0
  generalize World.alloc (World.alloc _ _) _ = w0 at k0 ⊢
  obtain ⟨kc0, kf0, kc1, kf1, kc2, kf2, -⟩ := k0.rd
  go_wp2_with fail
  refine (VOK.out _ k0.1).mono ?_; rintro e1 w1 ⟨rfl, b1⟩
  have k1 := k0.below b1
  clear k0 b1 kc0 kf0 kc1 kf1 kc2 kf2 VOK
  go_wp2_with fail
  refine (demand_yes w1).mono ?_; rintro e1 w2 ⟨rfl, rfl⟩
  obtain ⟨kc0, kf0, kc1, kf1, kc2, kf2, -⟩ := k1.rd
  go_wp2_with fail
  refine (HDU.out _ k1.1).mono ?_; rintro e1 w2 ⟨cs, rfl, hv2, b2⟩
  have k2 := k1.below b2
  have hs2 := b2.size
  have lt2 : w.heap.size + 1 + 1 < w1.heap.size := k1.lt (x := (w.heap.size + 1 + 1, 2, #[.int .i64 0])) (by simp)
  have hv2' := hv2
  obtain ⟨A2, c2, B2, d2, C2, e2, g2, q0, q1, q2, q3, q4, q5, q6, q7, e9, -⟩ := hv2'
  injection e9 with e9
  subst e9
  clear k1 b2 kc0 kf0 kc1 kf1 kc2 kf2 HDU
  obtain ⟨kc0, kf0, kc1, kf1, kc2, kf2, -⟩ := k2.rd
  go_upto_region 4 with fail
  have p3 := vol_put (x0 := .int .i64 x.toN.key) (x1 := .slice A2 x.toN.counts.length c2) (x2 := .slice B2 x.toN.trusts.length d2) (x3 := .slice C2 x.toN.cells.length e2) (x4 := .slice (some ⟨g2, 0, none⟩) 2 2) (x5 := .int .i64 x.toN.count) (k2.at_ (p := w.heap.size + 1) (t := 31) (cs := #[.int .i64 0, .slice none 0 0, .slice none 0 0, .slice none 0 0, .slice none 0 0, .int .i64 0]) (by simp))
  have k3 : Kept w [(w.heap.size + 1 + 1, 2, #[.int .i64 0]), (w.heap.size + 1, 31, #[.int .i64 x.toN.key, .slice A2 x.toN.counts.length c2, .slice B2 x.toN.trusts.length d2, .slice C2 x.toN.cells.length e2, .slice (some ⟨g2, 0, none⟩) 2 2, .int .i64 x.toN.count]), (w.heap.size, 31, #[.int .i64 x.key, .slice A x.counts.length c, .slice B x.trusts.length d, .slice C x.cells.length e, .slice E x.slots.length sc, .int .i64 x.count])] _ := k2.put (k := 1) rfl (by unfold Apart; simp <;> omega) p3.2 p3.1
  have hv3 := hv2.out p3.2 (by omega)
  have hs3 := Nat.le_trans hs2 p3.2.size
  clear k2 hv2 p3 hs2 kc0 kf0 kc1 kf1 kc2 kf2
  generalize World.setCell _ _ _ = w3 at k3 hv3 hs3 ⊢
  obtain ⟨kc0, kf0, kc1, kf1, kc2, kf2, -⟩ := k3.rd
  have hwl : w.heap.size ≤ w1.heap.size := by omega
  go_wp2_with fail
  refine (HW.out w3 w1.heap.size (w.heap.size + 1) #[.int .i64 x.toN.key, .slice A2 x.toN.counts.length c2, .slice B2 x.toN.trusts.length d2, .slice C2 x.toN.cells.length e2, .slice (some ⟨g2, 0, none⟩) 2 2, .int .i64 x.toN.count] k3.1 (by omega) (by omega) hs3 (k3.at_ (by simp)) hv3).mono ?_; rintro e1 w4 ⟨he4, hv4, ht4, hg4⟩
  obtain ⟨wb, hsb, htb, k4, hwb⟩ := k3.turnB ht4 hwl (by intro y hy; simp at hy; rcases hy with rfl | rfl | rfl <;> (simp only []; omega)) (fun k hk => (HG.out k hk).lt)
  clear k3 hv3 hs3 ht4 kc0 kf0 kc1 kf1 kc2 kf2 HW
  have CEL : ∀ u, Below wb.heap.size wb u → ∀ k, none = some k → CellsAt u k 2 #[.int .i64 r.2.1] := fun u hu k hk => by
    have hlt := (HG.out k hk).lt
    exact (hu.block k (by omega)).trans ((hwb k hlt).trans (hg4 k hk))
  have FIN : ∀ u, Kept wb [] u → VolO u w1.heap.size r.1 (.agg #[.int .i64 x.toN.key, .slice A2 x.toN.counts.length c2, .slice B2 x.toN.trusts.length d2, .slice C2 x.toN.cells.length e2, .slice (some ⟨g2, 0, none⟩) 2 2, .int .i64 x.toN.count]) → WorkA w none (some r.1, r.2) (.returned (.tuple #[.agg #[.int .i64 x.toN.key, .slice A2 x.toN.counts.length c2, .slice B2 x.toN.trusts.length d2, .slice C2 x.toN.cells.length e2, .slice (some ⟨g2, 0, none⟩) 2 2, .int .i64 x.toN.count], .int .i64 r.2.2])) u := fun u hu hv =>
    ⟨_, rfl, hv.mono hwl, htb.trans (TurnB.of (by rw [← hsb]; exact hu.1)), CEL u hu.1⟩
  have HF := Lib.hid FIN
  have HV := Lib.hid hv4
  have HL := Lib.hid lt2
  have HS := Lib.hid hsb
  clear FIN CEL hg4 hwb htb hv4 HG
  rcases he4 with rfl | ⟨rfl, h1⟩
  · obtain ⟨kc0, kf0, kc1, kf1, kc2, kf2, -⟩ := k4.rd
    go_upto_region 5 with fail
    have gs := gb_set (gb_refl w4 (some (w.heap.size + 1 + 1))) 0 (.int .i64 r.2.2)
    have k5 : Kept wb [(w.heap.size + 1 + 1, 2, #[.int .i64 r.2.2]), (w.heap.size + 1, 31, #[.int .i64 x.toN.key, .slice A2 x.toN.counts.length c2, .slice B2 x.toN.trusts.length d2, .slice C2 x.toN.cells.length e2, .slice (some ⟨g2, 0, none⟩) 2 2, .int .i64 x.toN.count]), (w.heap.size, 31, #[.int .i64 x.key, .slice A x.counts.length c, .slice B x.trusts.length d, .slice C x.cells.length e, .slice E x.slots.length sc, .int .i64 x.count])] _ := k4.put (k := 0) rfl (by unfold Apart; simp <;> omega) gs ((k4.at_ (p := w.heap.size + 1 + 1) (t := 2) (cs := #[.int .i64 0]) (by simp)).set_ 0 (.int .i64 r.2.2))
    have hv5 := HV.out.out gs HL.out
    clear k4 gs kc0 kf0 kc1 kf1 kc2 kf2 HV
    generalize World.setCell _ _ _ = w5 at k5 hv5 ⊢
    refine wp_region_free [false, false, true, true] (ShV []) (fun _ _ u => KV wb [(w.heap.size + 1 + 1, 2, #[.int .i64 r.2.2]), (w.heap.size + 1, 31, #[.int .i64 x.toN.key, .slice A2 x.toN.counts.length c2, .slice B2 x.toN.trusts.length d2, .slice C2 x.toN.cells.length e2, .slice (some ⟨g2, 0, none⟩) 2 2, .int .i64 x.toN.count]), (w.heap.size, 31, #[.int .i64 x.key, .slice A x.counts.length c, .slice B x.trusts.length d, .slice C x.cells.length e, .slice E x.slots.length sc, .int .i64 x.count])] w1.heap.size r.1 (.agg #[.int .i64 x.toN.key, .slice A2 x.toN.counts.length c2, .slice B2 x.toN.trusts.length d2, .slice C2 x.toN.cells.length e2, .slice (some ⟨g2, 0, none⟩) 2 2, .int .i64 x.toN.count]) u) (by kernel_rfl) (by kernel_rfl) (fun γ => by kernel_rfl) (fun D γ γ' w _ h => h) (ShV.inh _) (fun γ => ⟨k5.drew, hv5.drew⟩) (fun γ hγ => ?_)
    clear k5 hv5
    have g2' : γ 2 = undef := hγ 2 rfl
    have g3' : γ 3 = undef := hγ 3 rfl
    apply Exists.intro
    refine ⟨fun D => ?_, ?_, ?_⟩
    · simp only [hushL, cond_true, cond_false, Nat.reduceAdd, g2', g3']
      iterate 4 (first
        | go_big_quiet_skip
        | (go_big_quiet_want
           go_big_quiet_op
           first
             | go_big_quiet_on
             | (apply Exists.intro
                refine ⟨fun u hu => ?_, ?_⟩
                · first
                    | with_reducible rfl
                    | (obtain ⟨kc0, kf0, kc1, kf1, kc2, kf2, -⟩ := hu.1.rd; go_simp; first | done | with_reducible rfl)
                go_big_quiet_on)))
      exact wpQuiet_nil rfl
    · simp only [freeOk, Nat.reduceAdd]
      refine ⟨fun D u hD hd hu => ?_, fun D u hD hd hu => ?_, trivial⟩
      · exact steps_store (hu.1.at_ (p := w.heap.size + 1) (t := 31) (cs := #[.int .i64 x.toN.key, .slice A2 x.toN.counts.length c2, .slice B2 x.toN.trusts.length d2, .slice C2 x.toN.cells.length e2, .slice (some ⟨g2, 0, none⟩) 2 2, .int .i64 x.toN.count]) (by simp)) rfl rfl rfl (by kernel_rfl) rfl (by simp [Value.oneCell']) (fun w' hc hg => ⟨rfl, (show Kept wb [(w.heap.size + 1 + 1, 2, #[.int .i64 r.2.2]), (w.heap.size + 1, 31, #[.int .i64 x.toN.key, .slice A2 x.toN.counts.length c2, .slice B2 x.toN.trusts.length d2, .slice C2 x.toN.cells.length e2, .slice (some ⟨g2, 0, none⟩) 2 2, .int .i64 x.toN.count]), (w.heap.size, 31, #[.int .i64 x.key, .slice A x.counts.length c, .slice B x.trusts.length d, .slice C x.cells.length e, .slice E x.slots.length sc, .int .i64 x.count])] w' from hu.1.put (k := 1) rfl (by unfold Apart; simp <;> omega) hg hc), hu.2.out hg (by have := HL.out; omega)⟩)
      · have hc0 := hu.1.at_ (p := w.heap.size + 1 + 1) (t := 2) (cs := #[.int .i64 r.2.2]) (by simp)
        have gs := gb_set (gb_refl u (some (w.heap.size + 1 + 1))) 0 (.int .i64 r.2.2)
        exact steps_storeN (a := ⟨w.heap.size + 1 + 1, 0, none⟩) ((hc0.cell 0).trans rfl) (hc0.frozen 0) rfl rfl rfl (by kernel_rfl) ⟨rfl, (show Kept wb [(w.heap.size + 1 + 1, 2, #[.int .i64 r.2.2]), (w.heap.size + 1, 31, #[.int .i64 x.toN.key, .slice A2 x.toN.counts.length c2, .slice B2 x.toN.trusts.length d2, .slice C2 x.toN.cells.length e2, .slice (some ⟨g2, 0, none⟩) 2 2, .int .i64 x.toN.count]), (w.heap.size, 31, #[.int .i64 x.key, .slice A x.counts.length c, .slice B x.trusts.length d, .slice C x.cells.length e, .slice E x.slots.length sc, .int .i64 x.count])] _ from hu.1.put (k := 0) rfl (by unfold Apart; simp <;> omega) gs (hc0.set_ 0 (.int .i64 r.2.2))), hu.2.out gs HL.out⟩
    intro D w6 hD hu
    obtain ⟨k6, hv6⟩ := hu
    clear hD g2' g3' hγ
    obtain ⟨kc0, kf0, kc1, kf1, kc2, kf2, -⟩ := k6.rd
    go_wp2_with fail
    refine leaves_cons (f := 95) (args := #[.pointer (some ⟨w.heap.size + 1 + 1, 0, none⟩)]) (by simp) (by simp [go_sem]) ?_
    refine (catch_idle ⟨w.heap.size + 1 + 1, 0, none⟩ _).mono ?_
    rintro e1 u' w7 ⟨rfl, rfl, rfl⟩
    have FN := Lib.hid (HF.out _ (k6.sub (by intro y hy; cases hy)) hv6)
    clear k6 hv6 HF HL HS
    simp [Leaves, settle, results, Tryz.results35, go_sem, kc0, kc1]
    exact FN.out
  · have K4 := Lib.hid k4
    clear k4
    go_wp2_with fail
    refine leaves_cons (f := 95) (args := #[.pointer (some ⟨w.heap.size + 1 + 1, 0, none⟩)]) (by simp) (by simp [go_sem]) ?_
    refine (catch_panicking ⟨w.heap.size + 1 + 1, 0, none⟩ _ _ _ [] _ ((K4.out.cell (p := w.heap.size + 1 + 1) (t := 2) (cs := #[.int .i64 0]) (by simp) 0).trans rfl) (K4.out.frozen (p := w.heap.size + 1 + 1) (t := 2) (cs := #[.int .i64 0]) (by simp) 0)).mono ?_
    rintro e1 u' w7 ⟨rfl, rfl, rfl⟩
    have gs := gb_set (gb_refl w4 (some (w.heap.size + 1 + 1))) 0 (.int .i64 1)
    have k7 : Kept wb [(w.heap.size + 1 + 1, 2, #[.int .i64 1]), (w.heap.size + 1, 31, #[.int .i64 x.toN.key, .slice A2 x.toN.counts.length c2, .slice B2 x.toN.trusts.length d2, .slice C2 x.toN.cells.length e2, .slice (some ⟨g2, 0, none⟩) 2 2, .int .i64 x.toN.count]), (w.heap.size, 31, #[.int .i64 x.key, .slice A x.counts.length c, .slice B x.trusts.length d, .slice C x.cells.length e, .slice E x.slots.length sc, .int .i64 x.count])] _ := K4.out.put (k := 0) rfl (by unfold Apart; simp <;> omega) gs ((K4.out.at_ (p := w.heap.size + 1 + 1) (t := 2) (cs := #[.int .i64 0]) (by simp)).set_ 0 (.int .i64 1))
    have hv7 := HV.out.out gs HL.out
    generalize World.setCell _ _ _ = w7 at k7 hv7 ⊢
    obtain ⟨kc0, kf0, kc1, kf1, kc2, kf2, -⟩ := k7.rd
    have FN := Lib.hid (HF.out _ (k7.sub (by intro y hy; cases hy)) hv7)
    rw [h1] at FN
    clear k7 hv7 HF HL HS K4 gs HV
    simp [Leaves, settle, results, Tryz.results35, go_sem, kc0, kc1]
    exact FN.out
set_option maxRecDepth 20000 in
set_option maxHeartbeats 8000000 in
theorem workedOn_CloseIn_no (a0 a1 a2 a3 : Addr) (x : VolG) (v : Value) (vb : Nat) (w : World) (hx : x.Short) (hi : x.Int64) (hr : RdG w w.heap.size x v) (he : Errs w a0 a1 a2 a3)
    (hg : ∀ k, none = some k → CellsAt w k 2 #[.int .i64 0]) (hok : x.okB = false) :
    Calls Tryz.prog 35 #[v, .func (.func 47) #[] #[.pointer (some ⟨vb, 0, none⟩)]] w (WorkA w none (none, 0, 1)) := by
  obtain ⟨A, c, B, d, C, e, E, sc, rfl, i1, i2, i3, i4, i5, i6⟩ := hr
  have hmf : ∀ (fn : Fn) (first cap : Array Value) (w : World), (Instr.makeFunc fn first cap).run Tryz.prog w = .ok (.func fn first cap) w := fun _ _ _ _ => rfl
  have K0 := Lib.hid (show Kept w [(w.heap.size + 1 + 1, 2, #[.int .i64 0]), (w.heap.size + 1, 31, #[.int .i64 0, .slice none 0 0, .slice none 0 0, .slice none 0 0, .slice none 0 0, .int .i64 0]), (w.heap.size, 31, #[.int .i64 x.key, .slice A x.counts.length c, .slice B x.trusts.length d, .slice C x.cells.length e, .slice E x.slots.length sc, .int .i64 x.count])] _ from ((((Kept.refl w).put1 _ _ #[.int .i64 x.key, .slice A x.counts.length c, .slice B x.trusts.length d, .slice C x.cells.length e, .slice E x.slots.length sc, .int .i64 x.count] rfl).put1 _ _ #[.int .i64 0, .slice none 0 0, .slice none 0 0, .slice none 0 0, .slice none 0 0, .int .i64 0] (by simp)).put1 _ _ #[.int .i64 0] (by simp)))
  have HE := Lib.hid he
  have HG := Lib.hid hg
  have HR := Lib.hid (show RdG w w.heap.size x (.agg #[.int .i64 x.key, .slice A x.counts.length c, .slice B x.trusts.length d, .slice C x.cells.length e, .slice E x.slots.length sc, .int .i64 x.count]) from ⟨A, c, B, d, C, e, E, sc, rfl, i1, i2, i3, i4, i5, i6⟩)
  have VOK := Lib.hid (fun (u : World) (hb : Below w.heap.size w u) => ansVolumeOk x (.agg #[.int .i64 x.key, .slice A x.counts.length c, .slice B x.trusts.length d, .slice C x.cells.length e, .slice E x.slots.length sc, .int .i64 x.count]) u hx hi (HR.out.grow hb))
  clear he hg i1 i2 i3 i4 i5 i6 hx hi HR
  rw [hok] at VOK
  clear hok
  go_enter_defers Tryz.func35, Tryz.ntmps35
  go_upto_region 1 with fail
  have k0 := K0.out
  clear K0
  generalize World.alloc (World.alloc _ _) _ = w0 at k0 ⊢
  obtain ⟨kc0, kf0, kc1, kf1, kc2, kf2, -⟩ := k0.rd
  go_wp2_with fail
  refine (VOK.out _ k0.1).mono ?_; rintro e1 w1 ⟨rfl, b1⟩
  have k1 := k0.below b1
  clear k0 b1 kc0 kf0 kc1 kf1 kc2 kf2 VOK
  go_wp2_with fail
  refine (demand_no a0 a1 a2 a3 w1 (HE.out.below k1.1)).mono ?_; rintro e1 w2 ⟨rfl, rfl⟩
  have K1 := Lib.hid k1
  clear k1
  go_wp2_with fail
  refine leaves_cons (f := 95) (args := #[.pointer (some ⟨w.heap.size + 1 + 1, 0, none⟩)]) (by simp) (by simp [go_sem]) ?_
  refine (catch_panicking ⟨w.heap.size + 1 + 1, 0, none⟩ _ _ _ [] _ ((K1.out.cell (p := w.heap.size + 1 + 1) (t := 2) (cs := #[.int .i64 0]) (by simp) 0).trans rfl) (K1.out.frozen (p := w.heap.size + 1 + 1) (t := 2) (cs := #[.int .i64 0]) (by simp) 0)).mono ?_
  rintro e1 u' w3 ⟨rfl, rfl, rfl⟩
  have k3 : Kept w [(w.heap.size + 1 + 1, 2, #[.int .i64 1]), (w.heap.size + 1, 31, #[.int .i64 0, .slice none 0 0, .slice none 0 0, .slice none 0 0, .slice none 0 0, .int .i64 0]), (w.heap.size, 31, #[.int .i64 x.key, .slice A x.counts.length c, .slice B x.trusts.length d, .slice C x.cells.length e, .slice E x.slots.length sc, .int .i64 x.count])] _ := K1.out.put (k := 0) rfl (by unfold Apart; simp <;> omega) (gb_set (gb_refl _ (some (w.heap.size + 1 + 1))) 0 _) ((K1.out.at_ (p := w.heap.size + 1 + 1) (t := 2) (cs := #[.int .i64 0]) (by simp)).set_ 0 (.int .i64 1))
  generalize World.setCell _ _ _ = w3 at k3 ⊢
  obtain ⟨kc0, kf0, kc1, kf1, kc2, kf2, -⟩ := k3.rd
  have fin : WorkA w none (none, 0, 1) (.returned (.tuple #[.agg #[.int .i64 0, .slice none 0 0, .slice none 0 0, .slice none 0 0, .slice none 0 0, .int .i64 0], .int .i64 1])) w3 := ⟨_, rfl, rfl, TurnB.of k3.1, fun k hk => (HG.out k hk).below k3.1 (HG.out k hk).lt⟩
  have FIN := Lib.hid fin
  clear fin k3 K1 HG HE
  simp [Leaves, settle, results, Tryz.results35, go_sem, kc0, kc1]
  exact FIN.out
set_option maxRecDepth 20000 in
set_option maxHeartbeats 8000000 in
theorem workedOn_CloseIn_yes (a0 a1 a2 a3 : Addr) (x : VolG) (v : Value) (vb : Nat) (r : VolN × Int × Int) (w : World) (hx : x.Short) (hi : x.Int64) (hr : RdG w w.heap.size x v) (he : Errs w a0 a1 a2 a3)
    (hg : ∀ k, none = some k → CellsAt w k 2 #[.int .i64 0]) (hok : x.okB = true)
    (hW : ∀ (u : World) (b p : Nat) (cs : Array Value), Below w.heap.size w u → w.heap.size ≤ p → p < b → b ≤ u.heap.size → CellsAt u p 31 cs → VolO u b x.toN (.agg cs) → Calls Tryz.prog 47 #[.pointer (some ⟨p, 0, none⟩), .pointer (some ⟨vb, 0, none⟩)] u (WorkQ a0 b cs none r u)) :
    Calls Tryz.prog 35 #[v, .func (.func 47) #[] #[.pointer (some ⟨vb, 0, none⟩)]] w (WorkA w none (some r.1, r.2)) := by
  have HDU0 : ∀ (u : World), Below w.heap.size w u → Calls Tryz.prog 57 #[v] u fun e w' => ∃ cs, e = .returned (.agg cs) ∧ VolO w' u.heap.size x.toN (.agg cs) ∧ Below u.heap.size u w' := fun u hb => by
    obtain ⟨A, c, B, d, C, e, b, off, s, e9, i1, i2, i3, i4, i5, i6, i7⟩ := (hr.grow hb).two (VolG.inv hi hok).1
    have h := duplicate_calls x.toN A c B d C e b off s u ⟨hx.1, hx.2.1, hx.2.2.1, (hx.2.2.2.2 0 (by rw [(VolG.inv hi hok).1]; decide)).1, (hx.2.2.2.2 0 (by rw [(VolG.inv hi hok).1]; decide)).2, (hx.2.2.2.2 1 (by rw [(VolG.inv hi hok).1]; decide)).1, (hx.2.2.2.2 1 (by rw [(VolG.inv hi hok).1]; decide)).2⟩ i1 i2 i3 i4 i5 i6
    rw [← e9] at h
    exact h
  have HDU := Lib.hid HDU0
  clear HDU0
  obtain ⟨A, c, B, d, C, e, E, sc, rfl, i1, i2, i3, i4, i5, i6⟩ := hr
  have hmf : ∀ (fn : Fn) (first cap : Array Value) (w : World), (Instr.makeFunc fn first cap).run Tryz.prog w = .ok (.func fn first cap) w := fun _ _ _ _ => rfl
  have K0 := Lib.hid (show Kept w [(w.heap.size + 1 + 1, 2, #[.int .i64 0]), (w.heap.size + 1, 31, #[.int .i64 0, .slice none 0 0, .slice none 0 0, .slice none 0 0, .slice none 0 0, .int .i64 0]), (w.heap.size, 31, #[.int .i64 x.key, .slice A x.counts.length c, .slice B x.trusts.length d, .slice C x.cells.length e, .slice E x.slots.length sc, .int .i64 x.count])] _ from ((((Kept.refl w).put1 _ _ #[.int .i64 x.key, .slice A x.counts.length c, .slice B x.trusts.length d, .slice C x.cells.length e, .slice E x.slots.length sc, .int .i64 x.count] rfl).put1 _ _ #[.int .i64 0, .slice none 0 0, .slice none 0 0, .slice none 0 0, .slice none 0 0, .int .i64 0] (by simp)).put1 _ _ #[.int .i64 0] (by simp)))
  have HG := Lib.hid hg
  have HR := Lib.hid (show RdG w w.heap.size x (.agg #[.int .i64 x.key, .slice A x.counts.length c, .slice B x.trusts.length d, .slice C x.cells.length e, .slice E x.slots.length sc, .int .i64 x.count]) from ⟨A, c, B, d, C, e, E, sc, rfl, i1, i2, i3, i4, i5, i6⟩)
  have VOK := Lib.hid (fun (u : World) (hb : Below w.heap.size w u) => ansVolumeOk x (.agg #[.int .i64 x.key, .slice A x.counts.length c, .slice B x.trusts.length d, .slice C x.cells.length e, .slice E x.slots.length sc, .int .i64 x.count]) u hx hi (HR.out.grow hb))
  have HW := Lib.hid hW
  clear he hg hW i1 i2 i3 i4 i5 i6 hx hi HR
  rw [hok] at VOK
  clear hok
  go_enter_defers Tryz.func35, Tryz.ntmps35
  go_upto_region 1 with fail
  have k0 := K0.out
  clear K0
  generalize World.alloc (World.alloc _ _) _ = w0 at k0 ⊢
  obtain ⟨kc0, kf0, kc1, kf1, kc2, kf2, -⟩ := k0.rd
  go_wp2_with fail
  refine (VOK.out _ k0.1).mono ?_; rintro e1 w1 ⟨rfl, b1⟩
  have k1 := k0.below b1
  clear k0 b1 kc0 kf0 kc1 kf1 kc2 kf2 VOK
  go_wp2_with fail
  refine (demand_yes w1).mono ?_; rintro e1 w2 ⟨rfl, rfl⟩
  obtain ⟨kc0, kf0, kc1, kf1, kc2, kf2, -⟩ := k1.rd
  go_wp2_with fail
  refine (HDU.out _ k1.1).mono ?_; rintro e1 w2 ⟨cs, rfl, hv2, b2⟩
  have k2 := k1.below b2
  have hs2 := b2.size
  have lt2 : w.heap.size + 1 + 1 < w1.heap.size := k1.lt (x := (w.heap.size + 1 + 1, 2, #[.int .i64 0])) (by simp)
  have hv2' := hv2
  obtain ⟨A2, c2, B2, d2, C2, e2, g2, q0, q1, q2, q3, q4, q5, q6, q7, e9, -⟩ := hv2'
  injection e9 with e9
  subst e9
  clear k1 b2 kc0 kf0 kc1 kf1 kc2 kf2 HDU
  obtain ⟨kc0, kf0, kc1, kf1, kc2, kf2, -⟩ := k2.rd
  go_upto_region 4 with fail
  have p3 := vol_put (x0 := .int .i64 x.toN.key) (x1 := .slice A2 x.toN.counts.length c2) (x2 := .slice B2 x.toN.trusts.length d2) (x3 := .slice C2 x.toN.cells.length e2) (x4 := .slice (some ⟨g2, 0, none⟩) 2 2) (x5 := .int .i64 x.toN.count) (k2.at_ (p := w.heap.size + 1) (t := 31) (cs := #[.int .i64 0, .slice none 0 0, .slice none 0 0, .slice none 0 0, .slice none 0 0, .int .i64 0]) (by simp))
  have k3 : Kept w [(w.heap.size + 1 + 1, 2, #[.int .i64 0]), (w.heap.size + 1, 31, #[.int .i64 x.toN.key, .slice A2 x.toN.counts.length c2, .slice B2 x.toN.trusts.length d2, .slice C2 x.toN.cells.length e2, .slice (some ⟨g2, 0, none⟩) 2 2, .int .i64 x.toN.count]), (w.heap.size, 31, #[.int .i64 x.key, .slice A x.counts.length c, .slice B x.trusts.length d, .slice C x.cells.length e, .slice E x.slots.length sc, .int .i64 x.count])] _ := k2.put (k := 1) rfl (by unfold Apart; simp <;> omega) p3.2 p3.1
  have hv3 := hv2.out p3.2 (by omega)
  have hs3 := Nat.le_trans hs2 p3.2.size
  clear k2 hv2 p3 hs2 kc0 kf0 kc1 kf1 kc2 kf2
  generalize World.setCell _ _ _ = w3 at k3 hv3 hs3 ⊢
  obtain ⟨kc0, kf0, kc1, kf1, kc2, kf2, -⟩ := k3.rd
  have hwl : w.heap.size ≤ w1.heap.size := by omega
  go_wp2_with fail
  refine (HW.out w3 w1.heap.size (w.heap.size + 1) #[.int .i64 x.toN.key, .slice A2 x.toN.counts.length c2, .slice B2 x.toN.trusts.length d2, .slice C2 x.toN.cells.length e2, .slice (some ⟨g2, 0, none⟩) 2 2, .int .i64 x.toN.count] k3.1 (by omega) (by omega) hs3 (k3.at_ (by simp)) hv3).mono ?_; rintro e1 w4 ⟨he4, hv4, ht4, hg4⟩
  obtain ⟨wb, hsb, htb, k4, hwb⟩ := k3.turnB ht4 hwl (by intro y hy; simp at hy; rcases hy with rfl | rfl | rfl <;> (simp only []; omega)) (fun k hk => (HG.out k hk).lt)
  clear k3 hv3 hs3 ht4 kc0 kf0 kc1 kf1 kc2 kf2 HW
  have CEL : ∀ u, Below wb.heap.size wb u → ∀ k, none = some k → CellsAt u k 2 #[.int .i64 r.2.1] := fun u hu k hk => by
    have hlt := (HG.out k hk).lt
    exact (hu.block k (by omega)).trans ((hwb k hlt).trans (hg4 k hk))
  have FIN : ∀ u, Kept wb [] u → VolO u w1.heap.size r.1 (.agg #[.int .i64 x.toN.key, .slice A2 x.toN.counts.length c2, .slice B2 x.toN.trusts.length d2, .slice C2 x.toN.cells.length e2, .slice (some ⟨g2, 0, none⟩) 2 2, .int .i64 x.toN.count]) → WorkA w none (some r.1, r.2) (.returned (.tuple #[.agg #[.int .i64 x.toN.key, .slice A2 x.toN.counts.length c2, .slice B2 x.toN.trusts.length d2, .slice C2 x.toN.cells.length e2, .slice (some ⟨g2, 0, none⟩) 2 2, .int .i64 x.toN.count], .int .i64 r.2.2])) u := fun u hu hv =>
    ⟨_, rfl, hv.mono hwl, htb.trans (TurnB.of (by rw [← hsb]; exact hu.1)), CEL u hu.1⟩
  have HF := Lib.hid FIN
  have HV := Lib.hid hv4
  have HL := Lib.hid lt2
  have HS := Lib.hid hsb
  clear FIN CEL hg4 hwb htb hv4 HG
  rcases he4 with rfl | ⟨rfl, h1⟩
  · obtain ⟨kc0, kf0, kc1, kf1, kc2, kf2, -⟩ := k4.rd
    go_upto_region 5 with fail
    have gs := gb_set (gb_refl w4 (some (w.heap.size + 1 + 1))) 0 (.int .i64 r.2.2)
    have k5 : Kept wb [(w.heap.size + 1 + 1, 2, #[.int .i64 r.2.2]), (w.heap.size + 1, 31, #[.int .i64 x.toN.key, .slice A2 x.toN.counts.length c2, .slice B2 x.toN.trusts.length d2, .slice C2 x.toN.cells.length e2, .slice (some ⟨g2, 0, none⟩) 2 2, .int .i64 x.toN.count]), (w.heap.size, 31, #[.int .i64 x.key, .slice A x.counts.length c, .slice B x.trusts.length d, .slice C x.cells.length e, .slice E x.slots.length sc, .int .i64 x.count])] _ := k4.put (k := 0) rfl (by unfold Apart; simp <;> omega) gs ((k4.at_ (p := w.heap.size + 1 + 1) (t := 2) (cs := #[.int .i64 0]) (by simp)).set_ 0 (.int .i64 r.2.2))
    have hv5 := HV.out.out gs HL.out
    clear k4 gs kc0 kf0 kc1 kf1 kc2 kf2 HV
    generalize World.setCell _ _ _ = w5 at k5 hv5 ⊢
    refine wp_region_free [false, false, true, true] (ShV []) (fun _ _ u => KV wb [(w.heap.size + 1 + 1, 2, #[.int .i64 r.2.2]), (w.heap.size + 1, 31, #[.int .i64 x.toN.key, .slice A2 x.toN.counts.length c2, .slice B2 x.toN.trusts.length d2, .slice C2 x.toN.cells.length e2, .slice (some ⟨g2, 0, none⟩) 2 2, .int .i64 x.toN.count]), (w.heap.size, 31, #[.int .i64 x.key, .slice A x.counts.length c, .slice B x.trusts.length d, .slice C x.cells.length e, .slice E x.slots.length sc, .int .i64 x.count])] w1.heap.size r.1 (.agg #[.int .i64 x.toN.key, .slice A2 x.toN.counts.length c2, .slice B2 x.toN.trusts.length d2, .slice C2 x.toN.cells.length e2, .slice (some ⟨g2, 0, none⟩) 2 2, .int .i64 x.toN.count]) u) (by kernel_rfl) (by kernel_rfl) (fun γ => by kernel_rfl) (fun D γ γ' w _ h => h) (ShV.inh _) (fun γ => ⟨k5.drew, hv5.drew⟩) (fun γ hγ => ?_)
    clear k5 hv5
    have g2' : γ 2 = undef := hγ 2 rfl
    have g3' : γ 3 = undef := hγ 3 rfl
    apply Exists.intro
    refine ⟨fun D => ?_, ?_, ?_⟩
    · simp only [hushL, cond_true, cond_false, Nat.reduceAdd, g2', g3']
      iterate 4 (first
        | go_big_quiet_skip
        | (go_big_quiet_want
           go_big_quiet_op
           first
             | go_big_quiet_on
             | (apply Exists.intro
                refine ⟨fun u hu => ?_, ?_⟩
                · first
                    | with_reducible rfl
                    | (obtain ⟨kc0, kf0, kc1, kf1, kc2, kf2, -⟩ := hu.1.rd; go_simp; first | done | with_reducible rfl)
                go_big_quiet_on)))
      exact wpQuiet_nil rfl
    · simp only [freeOk, Nat.reduceAdd]
      refine ⟨fun D u hD hd hu => ?_, fun D u hD hd hu => ?_, trivial⟩
      · exact steps_store (hu.1.at_ (p := w.heap.size + 1) (t := 31) (cs := #[.int .i64 x.toN.key, .slice A2 x.toN.counts.length c2, .slice B2 x.toN.trusts.length d2, .slice C2 x.toN.cells.length e2, .slice (some ⟨g2, 0, none⟩) 2 2, .int .i64 x.toN.count]) (by simp)) rfl rfl rfl (by kernel_rfl) rfl (by simp [Value.oneCell']) (fun w' hc hg => ⟨rfl, (show Kept wb [(w.heap.size + 1 + 1, 2, #[.int .i64 r.2.2]), (w.heap.size + 1, 31, #[.int .i64 x.toN.key, .slice A2 x.toN.counts.length c2, .slice B2 x.toN.trusts.length d2, .slice C2 x.toN.cells.length e2, .slice (some ⟨g2, 0, none⟩) 2 2, .int .i64 x.toN.count]), (w.heap.size, 31, #[.int .i64 x.key, .slice A x.counts.length c, .slice B x.trusts.length d, .slice C x.cells.length e, .slice E x.slots.length sc, .int .i64 x.count])] w' from hu.1.put (k := 1) rfl (by unfold Apart; simp <;> omega) hg hc), hu.2.out hg (by have := HL.out; omega)⟩)
      · have hc0 := hu.1.at_ (p := w.heap.size + 1 + 1) (t := 2) (cs := #[.int .i64 r.2.2]) (by simp)
        have gs := gb_set (gb_refl u (some (w.heap.size + 1 + 1))) 0 (.int .i64 r.2.2)
        exact steps_storeN (a := ⟨w.heap.size + 1 + 1, 0, none⟩) ((hc0.cell 0).trans rfl) (hc0.frozen 0) rfl rfl rfl (by kernel_rfl) ⟨rfl, (show Kept wb [(w.heap.size + 1 + 1, 2, #[.int .i64 r.2.2]), (w.heap.size + 1, 31, #[.int .i64 x.toN.key, .slice A2 x.toN.counts.length c2, .slice B2 x.toN.trusts.length d2, .slice C2 x.toN.cells.length e2, .slice (some ⟨g2, 0, none⟩) 2 2, .int .i64 x.toN.count]), (w.heap.size, 31, #[.int .i64 x.key, .slice A x.counts.length c, .slice B x.trusts.length d, .slice C x.cells.length e, .slice E x.slots.length sc, .int .i64 x.count])] _ from hu.1.put (k := 0) rfl (by unfold Apart; simp <;> omega) gs (hc0.set_ 0 (.int .i64 r.2.2))), hu.2.out gs HL.out⟩
    intro D w6 hD hu
    obtain ⟨k6, hv6⟩ := hu
    clear hD g2' g3' hγ
    obtain ⟨kc0, kf0, kc1, kf1, kc2, kf2, -⟩ := k6.rd
    go_wp2_with fail
    refine leaves_cons (f := 95) (args := #[.pointer (some ⟨w.heap.size + 1 + 1, 0, none⟩)]) (by simp) (by simp [go_sem]) ?_
    refine (catch_idle ⟨w.heap.size + 1 + 1, 0, none⟩ _).mono ?_
    rintro e1 u' w7 ⟨rfl, rfl, rfl⟩
    have FN := Lib.hid (HF.out _ (k6.sub (by intro y hy; cases hy)) hv6)
    clear k6 hv6 HF HL HS
    simp [Leaves, settle, results, Tryz.results35, go_sem, kc0, kc1]
    exact FN.out
  · have K4 := Lib.hid k4
    clear k4
    go_wp2_with fail
    refine leaves_cons (f := 95) (args := #[.pointer (some ⟨w.heap.size + 1 + 1, 0, none⟩)]) (by simp) (by simp [go_sem]) ?_
    refine (catch_panicking ⟨w.heap.size + 1 + 1, 0, none⟩ _ _ _ [] _ ((K4.out.cell (p := w.heap.size + 1 + 1) (t := 2) (cs := #[.int .i64 0]) (by simp) 0).trans rfl) (K4.out.frozen (p := w.heap.size + 1 + 1) (t := 2) (cs := #[.int .i64 0]) (by simp) 0)).mono ?_
    rintro e1 u' w7 ⟨rfl, rfl, rfl⟩
    have gs := gb_set (gb_refl w4 (some (w.heap.size + 1 + 1))) 0 (.int .i64 1)
    have k7 : Kept wb [(w.heap.size + 1 + 1, 2, #[.int .i64 1]), (w.heap.size + 1, 31, #[.int .i64 x.toN.key, .slice A2 x.toN.counts.length c2, .slice B2 x.toN.trusts.length d2, .slice C2 x.toN.cells.length e2, .slice (some ⟨g2, 0, none⟩) 2 2, .int .i64 x.toN.count]), (w.heap.size, 31, #[.int .i64 x.key, .slice A x.counts.length c, .slice B x.trusts.length d, .slice C x.cells.length e, .slice E x.slots.length sc, .int .i64 x.count])] _ := K4.out.put (k := 0) rfl (by unfold Apart; simp <;> omega) gs ((K4.out.at_ (p := w.heap.size + 1 + 1) (t := 2) (cs := #[.int .i64 0]) (by simp)).set_ 0 (.int .i64 1))
    have hv7 := HV.out.out gs HL.out
    generalize World.setCell _ _ _ = w7 at k7 hv7 ⊢
    obtain ⟨kc0, kf0, kc1, kf1, kc2, kf2, -⟩ := k7.rd
    have FN := Lib.hid (HF.out _ (k7.sub (by intro y hy; cases hy)) hv7)
    rw [h1] at FN
    clear k7 hv7 HF HL HS K4 gs HV
    simp [Leaves, settle, results, Tryz.results35, go_sem, kc0, kc1]
    exact FN.out
end Go.Proofs.YtgaecedhkbneaaaGreatDoor.Mx

import Derived.Test.YtgaecedhkbneaaaGreatDoorH30
import Derived.Test.YtgaecedhkbneaaaGreatDoorH31
import Derived.Test.YtgaecedhkbneaaaGreatDoorH20
import Derived.Test.YtgaecedhkbneaaaGreatDoorH21
namespace Go.Proofs.YtgaecedhkbneaaaGreatDoor.Mx
open Go.ChangeShapes Go.WideShapes Go.ChangeAt Go.RowKit
set_option linter.unusedVariables false
def Two (i j : Nat) (K0 K1 : World → Prop) (D : Nat → Bool) (u : World) : Prop := (D j = true → D i = true) ∧ One j K0 K1 D u
theorem Two.first {i j : Nat} {K0 K1 : World → Prop} {D : Nat → Bool} {u u' : World} (h : Two i j K0 K1 D u) (hD : D i = false) (hij : i ≠ j) (hk : K0 u → K0 u') : Two i j K0 K1 (setD D i) u' := by
  have hj : D j = false := by cases e : D j; rfl; have := h.1 e; rw [hD] at this; cases this
  have e : setD D i j = D j := by unfold setD; simp [Ne.symm hij]
  unfold Two One
  rw [e, hj]
  exact ⟨fun e => (by cases e), fun _ => hk (h.2.1 hj), fun e => (by cases e)⟩
theorem Two.last {i j : Nat} {K0 K1 : World → Prop} {D : Nat → Bool} {u' : World} (hi : D i = true) (hk : K1 u') : Two i j K0 K1 (setD D j) u' :=
  ⟨fun _ => by unfold setD; simp [hi], One.put hk⟩
def Not4 (u : World) (D : Nat → Bool) (v : World) : Prop := D 4 = false ∧ Below u.heap.size u v
theorem stepsP_dies {P : Program} {Qp : List PanicEntry → World → Prop} {ρ : Operand → Value} {o : Oper} {c : Call} {f : FuncId} {args : Array Value} {w : World} {K : Value → World → Prop} (h : Calls P f args w fun e w' => ∃ ch, e = .panicked ch ∧ Qp ch w')
    (hop : o.op = .call c) (hcal : c.callee = .value (.func f)) (hf : ρ (.func f) = .func (.func f) #[] #[]) (hargs : c.args.toList.map ρ = args.toList) (he : entersB P f = true) : stepsP P Qp ((execOp ρ o).run P w) K := by
  have e : (execOp ρ o).run P w = .ok (.enter f args) w := by
    have ha : c.args.map ρ = args := by
      apply Array.toList_inj.1
      rw [Array.toList_map]; exact hargs
    unfold execOp
    rw [hop]
    simp only [resolve, hcal, hf, Deferred.ofValue, Sem.run_bind, Sem.run_pure, Result.andThen_ok, invoke, ha]
    simpa using enter_run (w := w) (args := args) he
  rw [e]
  exact h.mono fun e w' hq => .inr hq
theorem region_facts {x : VolN} {r : Nat} (hx : x.Inv) (hr : r < x.counts.length) : ∃ f k m : Nat, firstOf x.key x.counts r = f ∧ (x.trusts.getD r default).cursor = k ∧ x.counts.getD r 0 = (k + m : Nat) ∧ 0 < m := by
  have ht := hx.2.1.2.2 r (by rw [hx.fit.1]; exact hr)
  have hc := ht.2.2.2.2.1
  rw [Int.toNat_natCast] at hc
  have h0 := upTo_bd hx.1.2.2.1 (show r ≤ x.counts.length by omega)
  refine ⟨(upTo x.counts r).toNat, (x.trusts.getD r default).cursor.toNat, (x.counts.getD r 0 - (x.trusts.getD r default).cursor).toNat, ?_, by omega, by omega, by omega⟩
  rw [firstOf_yes hx.1 hr]; omega
set_option maxRecDepth 20000 in
set_option maxHeartbeats 8000000 in
theorem cloStepIn_some (a0 a1 a2 a3 : Addr) (x : VolN) (cs : Array Value) (b p vb : Nat) (r : Nat) (u : World) (he : Errs u a0 a1 a2 a3) (heb : ∀ u', Below b u u' → Errs u' a0 a1 a2 a3) (hx : x.Inv) (hv : VolO u b x (.agg cs)) (hp : CellsAt u p 31 cs) (hpb : p < b) (hbu : b ≤ u.heap.size) (hvb : vb < b) (hcv : CellsAt u vb 2 #[.int .i64 r]) (hr : r < x.counts.length) :
    Calls Tryz.prog 43 #[.pointer (some ⟨p, 0, none⟩), .pointer (some ⟨vb, 0, none⟩)] u (WorkQ a0 b cs none ((stepVol x r).1, 0, (stepVol x r).2) u) := by
  obtain ⟨A, c, B, d, C, e, g, rfl⟩ := hv.lits
  obtain ⟨f, k, m, hf, hk, hm, hm0⟩ := region_facts hx hr
  obtain ⟨gC, rfl, -, -, -, -⟩ := hv.cellsGet (by
    have hu1 := upTo_succ x.counts (show r < x.counts.length by omega)
    have hmono := upTo_mono hx.1.2.2.1 (i := r + 1) (j := x.counts.length) (by omega) (Nat.le_refl _)
    have h0 := upTo_bd hx.1.2.2.1 (show r ≤ x.counts.length by omega)
    have := hx.fit.2
    omega)
  have UC := Lib.hid (fun (u' : World) (hb : Below u.heap.size u u') => unsc_some x A B _ c d e g b p r f u' hx (hv.below hb) (hp.below hb hp.lt) hr hf k m hk hm hm0 gC rfl)
  have SC := Lib.hid (fun (mc : Nat) (u' : World) (hb : Below u.heap.size u u') => volScan_calls a0 a1 a2 a3 x A B gC c d e g b p r f k 1 mc u u' hx (hv.below hb) (hp.below hb hp.lt) hpb hr hf hk (by rw [hm]; omega) (fun u9 h9 => heb u9 ((hb.mono hbu).trans h9)))
  have hres : walkN r 1 x = (stepVol x r) := walkN_one r x
  have hme : m ≤ e - (f + k) := by
    have hup : (f : Int) = upTo x.counts r := by rw [← hf]; exact firstOf_yes hx.1 hr
    have hu1 := upTo_succ x.counts (show r < x.counts.length by omega)
    have hmono := upTo_mono hx.1.2.2.1 (i := r + 1) (j := x.counts.length) (by omega) (Nat.le_refl _)
    have hfit := hx.fit.2
    obtain ⟨_, _, _, _, _, _, _, _, _, _, _, _, _, _, _, eq9, -, -, h3, -⟩ := hv
    injection eq9 with eq9
    simp only [Array.mk.injEq, List.cons.injEq, Value.slice.injEq, true_and, and_true] at eq9
    obtain ⟨-, -, ⟨rfl, rfl⟩, -⟩ := eq9
    rcases h3.2 with ⟨h0, _⟩ | ⟨_, _, _, h0, _, _, h5, _⟩
    · simp only [Value.slice.injEq] at h0; omega
    · simp only [Value.slice.injEq] at h0; omega
  rw [hres] at SC
  have HV := Lib.hid hcv
  have HVB := Lib.hid (And.intro hvb hbu)
  generalize (stepVol x r) = R at SC ⊢
  obtain ⟨y, q⟩ := R
  have hm1 : (1 : Int) ≤ (e - (f + k) : Nat) := by omega
  clear he heb hx hv hp hpb hcv hr hf hk hm hres hvb
  go_enter Tryz.func43, Tryz.ntmps43
  go_upto_region 1 with fail
  refine wp_region_free [false, false, false, false, true, false, true, false] (ShV [(4, .slice (some ⟨gC, (f + k) * 2, none⟩) m (e - (f + k))), (6, .int .i64 q)]) (fun D _ v => Two 4 6 (Below u.heap.size u) (KW b u y (.agg #[.int .i64 x.key, .slice A x.counts.length c, .slice B x.trusts.length d, .slice (some ⟨gC, 0, none⟩) x.cells.length e, .slice (some ⟨g, 0, none⟩) 2 2, .int .i64 x.count])) D v) (by kernel_rfl) (by kernel_rfl) (fun γ => by kernel_rfl) (fun D γ γ' w _ h => h) (ShV.inh _) (fun γ => ⟨fun e => (by cases e), fun _ => (Below.refl _ _).drew, fun e => (by cases e)⟩) (fun γ hγ => ?_)
  have g4 : γ 4 = .slice (some ⟨gC, (f + k) * 2, none⟩) m (e - (f + k)) := hγ 4 rfl
  have g6 : γ 6 = .int .i64 q := hγ 6 rfl
  have RB : ∀ {D : Nat → Bool} {v : World}, Two 4 6 (Below u.heap.size u) (KW b u y (.agg #[.int .i64 x.key, .slice A x.counts.length c, .slice B x.trusts.length d, .slice (some ⟨gC, 0, none⟩) x.cells.length e, .slice (some ⟨g, 0, none⟩) 2 2, .int .i64 x.count])) D v → CellsAt v vb 2 #[.int .i64 r] := fun h => One.all (R := fun v => CellsAt v vb 2 #[.int .i64 r]) h.2 (fun k => HV.out.below k HV.out.lt) (fun k => HV.out.below k.2 HVB.out.1)
  apply Exists.intro
  refine ⟨fun D => ?_, ?_, ?_⟩
  · simp only [hushL, cond_true, cond_false, Nat.reduceAdd, g4, g6]
    iterate 8 (first
      | go_big_quiet_skip
      | (go_big_quiet_want
         go_big_quiet_op
         first
           | go_big_quiet_on
           | (apply Exists.intro
              refine ⟨fun u hu => ?_, ?_⟩
              · first
                  | with_reducible rfl
                  | (obtain ⟨kc0, kf0, -⟩ := (Rd.of (L := [(vb, 2, #[.int .i64 r])]) (fun y hy => by simp only [List.mem_cons, List.not_mem_nil, or_false] at hy; subst hy; exact RB hu)); go_simp; first | done | with_reducible rfl)
              go_big_quiet_on)))
    exact wpQuiet_nil rfl
  · simp only [freeOk, Nat.reduceAdd]
    refine ⟨fun D v hD hd hu => ?_, fun D v hD hd hu => ?_, trivial⟩
    · have hj : D 6 = false := by cases e9 : D 6; rfl; have := hu.1 e9; rw [hD] at this; cases this
      exact steps_call ((UC.out v (hu.2.1 hj)).mono fun e w' ⟨⟨mc, he, hmc, hmce⟩, hb⟩ => ⟨_, he, by rw [hmce]; rfl, hu.first hD (by decide) (fun k0 => k0.trans (hb.mono k0.size))⟩) rfl rfl rfl rfl (by kernel_rfl)
    · have d4 := hd { on := 4, ground := Ground.chain } (by simp) rfl rfl
      exact steps_call ((SC.out (e - (f + k)) v (hu.2.1 hD)).mono fun e w' ⟨he, hv, hb⟩ => ⟨_, he, rfl, Two.last d4 ⟨hv, (hu.2.1 hD).mono HVB.out.2 |>.trans hb⟩⟩) rfl rfl rfl rfl (by kernel_rfl)
  intro D w7 hD hu
  have k7 := Lib.hid (hu.2.2 (hD 6 (by simp) rfl))
  clear hu hD g4 g6 hγ UC SC RB
  go_wp2_with fail
  go_ret
  exact ⟨.inl rfl, k7.out.1, TurnB.of k7.out.2, fun k hk => by cases hk⟩
set_option maxRecDepth 20000 in
set_option maxHeartbeats 8000000 in
theorem cloCloseIn_some (a0 a1 a2 a3 : Addr) (x : VolN) (cs : Array Value) (b p vb : Nat) (r : Nat) (u : World) (he : Errs u a0 a1 a2 a3) (heb : ∀ u', Below b u u' → Errs u' a0 a1 a2 a3) (hx : x.Inv) (hv : VolO u b x (.agg cs)) (hp : CellsAt u p 31 cs) (hpb : p < b) (hbu : b ≤ u.heap.size) (hvb : vb < b) (hcv : CellsAt u vb 2 #[.int .i64 r]) (hr : r < x.counts.length) :
    Calls Tryz.prog 47 #[.pointer (some ⟨p, 0, none⟩), .pointer (some ⟨vb, 0, none⟩)] u (WorkQ a0 b cs none ((closeVol x r).1, 0, (closeVol x r).2) u) := by
  obtain ⟨A, c, B, d, C, e, g, rfl⟩ := hv.lits
  obtain ⟨f, k, m, hf, hk, hm, hm0⟩ := region_facts hx hr
  obtain ⟨gC, rfl, -, -, -, -⟩ := hv.cellsGet (by
    have hu1 := upTo_succ x.counts (show r < x.counts.length by omega)
    have hmono := upTo_mono hx.1.2.2.1 (i := r + 1) (j := x.counts.length) (by omega) (Nat.le_refl _)
    have h0 := upTo_bd hx.1.2.2.1 (show r ≤ x.counts.length by omega)
    have := hx.fit.2
    omega)
  have UC := Lib.hid (fun (u' : World) (hb : Below u.heap.size u u') => unsc_some x A B _ c d e g b p r f u' hx (hv.below hb) (hp.below hb hp.lt) hr hf k m hk hm hm0 gC rfl)
  have SC := Lib.hid (fun (mc : Nat) (u' : World) (hb : Below u.heap.size u u') => volScan_calls a0 a1 a2 a3 x A B gC c d e g b p r f k m mc u u' hx (hv.below hb) (hp.below hb hp.lt) hpb hr hf hk (by rw [hm]; omega) (fun u9 h9 => heb u9 ((hb.mono hbu).trans h9)))
  have hres : walkN r m x = (closeVol x r) := by unfold closeVol; rw [Int.toNat_natCast, hk, hm, show (((k + m : Nat) : Int) - (k : Int)).toNat = m by omega]; exact walkN_close r m x hx.fit hm0 (by rw [Int.toNat_natCast, hk, hm]; omega)
  have hme : m ≤ e - (f + k) := by
    have hup : (f : Int) = upTo x.counts r := by rw [← hf]; exact firstOf_yes hx.1 hr
    have hu1 := upTo_succ x.counts (show r < x.counts.length by omega)
    have hmono := upTo_mono hx.1.2.2.1 (i := r + 1) (j := x.counts.length) (by omega) (Nat.le_refl _)
    have hfit := hx.fit.2
    obtain ⟨_, _, _, _, _, _, _, _, _, _, _, _, _, _, _, eq9, -, -, h3, -⟩ := hv
    injection eq9 with eq9
    simp only [Array.mk.injEq, List.cons.injEq, Value.slice.injEq, true_and, and_true] at eq9
    obtain ⟨-, -, ⟨rfl, rfl⟩, -⟩ := eq9
    rcases h3.2 with ⟨h0, _⟩ | ⟨_, _, _, h0, _, _, h5, _⟩
    · simp only [Value.slice.injEq] at h0; omega
    · simp only [Value.slice.injEq] at h0; omega
  rw [hres] at SC
  have HV := Lib.hid hcv
  have HVB := Lib.hid (And.intro hvb hbu)
  generalize (closeVol x r) = R at SC ⊢
  obtain ⟨y, q⟩ := R
  have hm1 : (1 : Int) ≤ (e - (f + k) : Nat) := by omega
  clear he heb hx hv hp hpb hcv hr hf hk hm hres hvb
  go_enter Tryz.func47, Tryz.ntmps47
  go_upto_region 1 with fail
  refine wp_region_free [false, false, false, false, true, true, false] (ShV [(4, .slice (some ⟨gC, (f + k) * 2, none⟩) m (e - (f + k))), (5, .int .i64 q)]) (fun D _ v => Two 4 5 (Below u.heap.size u) (KW b u y (.agg #[.int .i64 x.key, .slice A x.counts.length c, .slice B x.trusts.length d, .slice (some ⟨gC, 0, none⟩) x.cells.length e, .slice (some ⟨g, 0, none⟩) 2 2, .int .i64 x.count])) D v) (by kernel_rfl) (by kernel_rfl) (fun γ => by kernel_rfl) (fun D γ γ' w _ h => h) (ShV.inh _) (fun γ => ⟨fun e => (by cases e), fun _ => (Below.refl _ _).drew, fun e => (by cases e)⟩) (fun γ hγ => ?_)
  have g4 : γ 4 = .slice (some ⟨gC, (f + k) * 2, none⟩) m (e - (f + k)) := hγ 4 rfl
  have g6 : γ 5 = .int .i64 q := hγ 5 rfl
  have RB : ∀ {D : Nat → Bool} {v : World}, Two 4 5 (Below u.heap.size u) (KW b u y (.agg #[.int .i64 x.key, .slice A x.counts.length c, .slice B x.trusts.length d, .slice (some ⟨gC, 0, none⟩) x.cells.length e, .slice (some ⟨g, 0, none⟩) 2 2, .int .i64 x.count])) D v → CellsAt v vb 2 #[.int .i64 r] := fun h => One.all (R := fun v => CellsAt v vb 2 #[.int .i64 r]) h.2 (fun k => HV.out.below k HV.out.lt) (fun k => HV.out.below k.2 HVB.out.1)
  apply Exists.intro
  refine ⟨fun D => ?_, ?_, ?_⟩
  · simp only [hushL, cond_true, cond_false, Nat.reduceAdd, g4, g6]
    iterate 7 (first
      | go_big_quiet_skip
      | (go_big_quiet_want
         go_big_quiet_op
         first
           | go_big_quiet_on
           | (apply Exists.intro
              refine ⟨fun u hu => ?_, ?_⟩
              · first
                  | with_reducible rfl
                  | (obtain ⟨kc0, kf0, -⟩ := (Rd.of (L := [(vb, 2, #[.int .i64 r])]) (fun y hy => by simp only [List.mem_cons, List.not_mem_nil, or_false] at hy; subst hy; exact RB hu)); go_simp; first | done | with_reducible rfl)
              go_big_quiet_on)))
    exact wpQuiet_nil rfl
  · simp only [freeOk, Nat.reduceAdd]
    refine ⟨fun D v hD hd hu => ?_, fun D v hD hd hu => ?_, trivial⟩
    · have hj : D 5 = false := by cases e9 : D 5; rfl; have := hu.1 e9; rw [hD] at this; cases this
      exact steps_call ((UC.out v (hu.2.1 hj)).mono fun e w' ⟨⟨mc, he, hmc, hmce⟩, hb⟩ => ⟨_, he, by rw [hmce]; rfl, hu.first hD (by decide) (fun k0 => k0.trans (hb.mono k0.size))⟩) rfl rfl rfl rfl (by kernel_rfl)
    · have d4 := hd { on := 4, ground := Ground.chain } (by simp) rfl rfl
      exact steps_call ((SC.out (e - (f + k)) v (hu.2.1 hD)).mono fun e w' ⟨he, hv, hb⟩ => ⟨_, he, rfl, Two.last d4 ⟨hv, (hu.2.1 hD).mono HVB.out.2 |>.trans hb⟩⟩) rfl rfl rfl rfl (by kernel_rfl)
  intro D w7 hD hu
  have k7 := Lib.hid (hu.2.2 (hD 5 (by simp) rfl))
  clear hu hD g4 g6 hγ UC SC RB
  go_wp2_with fail
  go_ret
  exact ⟨.inl rfl, k7.out.1, TurnB.of k7.out.2, fun k hk => by cases hk⟩
set_option maxRecDepth 20000 in
set_option maxHeartbeats 8000000 in
theorem cloStepIn_none (a0 a1 a2 a3 : Addr) (x : VolN) (cs : Array Value) (b p vb : Nat) (r : Int) (u : World) (he : Errs u a0 a1 a2 a3) (hx : x.Inv) (hv : VolO u b x (.agg cs)) (hp : CellsAt u p 31 cs) (hbu : b ≤ u.heap.size) (hcv : CellsAt u vb 2 #[.int .i64 r]) (hr : ¬ (0 ≤ r ∧ r < x.counts.length)) :
    Calls Tryz.prog 43 #[.pointer (some ⟨p, 0, none⟩), .pointer (some ⟨vb, 0, none⟩)] u (WorkQ a0 b cs none (x, 0, 1) u) := by
  obtain ⟨A, c, B, d, C, e, g, rfl⟩ := hv.lits
  have UC := Lib.hid (fun (u' : World) (hb : Below u.heap.size u u') => unsc_none a0 a1 a2 a3 x A B C c d e g b p r u' (he.below hb) hx (hv.below hb) (hp.below hb hp.lt) hr)
  have HV := Lib.hid hcv
  have HO := Lib.hid (And.intro hv hbu)
  clear he hx hv hp hcv hr hbu
  go_enter Tryz.func43, Tryz.ntmps43
  go_upto_region 1 with fail
  refine wp_region_freeP [false, false, false, false, true, false, true, false] (ShV [(4, .slice (some ⟨0, 0, none⟩) 1 1), (6, .int .i64 0)]) (fun ch v => ch = [{ v := .iface 264 (.pointer (some a0)), recovered := false }] ∧ Below u.heap.size u v) (fun D _ v => Not4 u D v) (fun ch a v h8 h9 => ⟨h8, .inr ⟨by rw [h9.1], rfl⟩, HO.out.1.below h9.2, (TurnB.of h9.2).mono HO.out.2, fun k hk => (by cases hk)⟩) (by kernel_rfl) (by kernel_rfl) (fun γ => by kernel_rfl) (fun D γ γ' w _ h => h) (ShV.inh _) (fun γ => ⟨rfl, (Below.refl _ _).drew⟩) (fun γ hγ => ?_)
  have g4 : γ 4 = .slice (some ⟨0, 0, none⟩) 1 1 := hγ 4 rfl
  have g6 : γ 6 = .int .i64 0 := hγ 6 rfl
  apply Exists.intro
  refine ⟨fun D => ?_, ?_, ?_⟩
  · simp only [hushL, cond_true, cond_false, Nat.reduceAdd, g4, g6]
    iterate 8 (first
      | go_big_quiet_skip
      | (go_big_quiet_want
         go_big_quiet_op
         first
           | go_big_quiet_on
           | (apply Exists.intro
              refine ⟨fun u hu => ?_, ?_⟩
              · first
                  | with_reducible rfl
                  | (have pc := (HV.out.below hu.2 HV.out.lt).cell; go_simp; first | done | with_reducible rfl)
              go_big_quiet_on)))
    exact wpQuiet_nil rfl
  · simp only [freeOkP, Nat.reduceAdd]
    refine ⟨fun D v hD hd hu => ?_, fun D v hD hd hu => ?_, trivial⟩
    · exact stepsP_dies ((UC.out v hu.2).mono fun e w' ⟨he, hb⟩ => ⟨_, he, rfl, hu.2.trans (hb.mono hu.2.size)⟩) rfl rfl rfl rfl (by kernel_rfl)
    · have d4 := hd { on := 4, ground := Ground.chain } (by simp) rfl rfl
      rw [hu.1] at d4
      cases d4
  intro D w7 hD hu
  have := hD 4 (by simp) rfl
  rw [hu.1] at this
  cases this
set_option maxRecDepth 20000 in
set_option maxHeartbeats 8000000 in
theorem cloCloseIn_none (a0 a1 a2 a3 : Addr) (x : VolN) (cs : Array Value) (b p vb : Nat) (r : Int) (u : World) (he : Errs u a0 a1 a2 a3) (hx : x.Inv) (hv : VolO u b x (.agg cs)) (hp : CellsAt u p 31 cs) (hbu : b ≤ u.heap.size) (hcv : CellsAt u vb 2 #[.int .i64 r]) (hr : ¬ (0 ≤ r ∧ r < x.counts.length)) :
    Calls Tryz.prog 47 #[.pointer (some ⟨p, 0, none⟩), .pointer (some ⟨vb, 0, none⟩)] u (WorkQ a0 b cs none (x, 0, 1) u) := by
  obtain ⟨A, c, B, d, C, e, g, rfl⟩ := hv.lits
  have UC := Lib.hid (fun (u' : World) (hb : Below u.heap.size u u') => unsc_none a0 a1 a2 a3 x A B C c d e g b p r u' (he.below hb) hx (hv.below hb) (hp.below hb hp.lt) hr)
  have HV := Lib.hid hcv
  have HO := Lib.hid (And.intro hv hbu)
  clear he hx hv hp hcv hr hbu
  go_enter Tryz.func47, Tryz.ntmps47
  go_upto_region 1 with fail
  refine wp_region_freeP [false, false, false, false, true, true, false] (ShV [(4, .slice (some ⟨0, 0, none⟩) 1 1), (5, .int .i64 0)]) (fun ch v => ch = [{ v := .iface 264 (.pointer (some a0)), recovered := false }] ∧ Below u.heap.size u v) (fun D _ v => Not4 u D v) (fun ch a v h8 h9 => ⟨h8, .inr ⟨by rw [h9.1], rfl⟩, HO.out.1.below h9.2, (TurnB.of h9.2).mono HO.out.2, fun k hk => (by cases hk)⟩) (by kernel_rfl) (by kernel_rfl) (fun γ => by kernel_rfl) (fun D γ γ' w _ h => h) (ShV.inh _) (fun γ => ⟨rfl, (Below.refl _ _).drew⟩) (fun γ hγ => ?_)
  have g4 : γ 4 = .slice (some ⟨0, 0, none⟩) 1 1 := hγ 4 rfl
  have g6 : γ 5 = .int .i64 0 := hγ 5 rfl
  apply Exists.intro
  refine ⟨fun D => ?_, ?_, ?_⟩
  · simp only [hushL, cond_true, cond_false, Nat.reduceAdd, g4, g6]
    iterate 7 (first
      | go_big_quiet_skip
      | (go_big_quiet_want
         go_big_quiet_op
         first
           | go_big_quiet_on
           | (apply Exists.intro
              refine ⟨fun u hu => ?_, ?_⟩
              · first
                  | with_reducible rfl
                  | (have pc := (HV.out.below hu.2 HV.out.lt).cell; go_simp; first | done | with_reducible rfl)
              go_big_quiet_on)))
    exact wpQuiet_nil rfl
  · simp only [freeOkP, Nat.reduceAdd]
    refine ⟨fun D v hD hd hu => ?_, fun D v hD hd hu => ?_, trivial⟩
    · exact stepsP_dies ((UC.out v hu.2).mono fun e w' ⟨he, hb⟩ => ⟨_, he, rfl, hu.2.trans (hb.mono hu.2.size)⟩) rfl rfl rfl rfl (by kernel_rfl)
    · have d4 := hd { on := 4, ground := Ground.chain } (by simp) rfl rfl
      rw [hu.1] at d4
      cases d4
  intro D w7 hD hu
  have := hD 4 (by simp) rfl
  rw [hu.1] at this
  cases this
theorem stepVol_none {x : VolN} {a : Int} (hx : x.Inv) (h : ¬ (0 ≤ a ∧ a < x.counts.length)) : stepVol x a = (x, 1) := by unfold stepVol; rw [if_neg (by rw [firstOf_neg hx.1 h]; omega)]
theorem cloStepIn_any (a0 a1 a2 a3 : Addr) (x : VolN) (cs : Array Value) (b p vb : Nat) (a : Int) (u : World) (he : Errs u a0 a1 a2 a3) (heb : ∀ u', Below b u u' → Errs u' a0 a1 a2 a3) (hx : x.Inv) (hv : VolO u b x (.agg cs)) (hp : CellsAt u p 31 cs) (hpb : p < b) (hbu : b ≤ u.heap.size) (hvb : vb < b) (hcv : CellsAt u vb 2 #[.int .i64 a]) :
    Calls Tryz.prog 43 #[.pointer (some ⟨p, 0, none⟩), .pointer (some ⟨vb, 0, none⟩)] u (WorkQ a0 b cs none ((stepVol x a).1, 0, (stepVol x a).2) u) := by
  by_cases h : 0 ≤ a ∧ a < x.counts.length
  · obtain ⟨r, rfl⟩ : ∃ r : Nat, a = r := ⟨a.toNat, by omega⟩
    skip
    exact cloStepIn_some a0 a1 a2 a3 x cs b p vb r u he heb hx hv hp hpb hbu hvb hcv (by omega)
  · rw [stepVol_none hx h]
    exact cloStepIn_none a0 a1 a2 a3 x cs b p vb a u he hx hv hp hbu hcv h
theorem cloCloseIn_any (a0 a1 a2 a3 : Addr) (x : VolN) (cs : Array Value) (b p vb : Nat) (a : Int) (u : World) (he : Errs u a0 a1 a2 a3) (heb : ∀ u', Below b u u' → Errs u' a0 a1 a2 a3) (hx : x.Inv) (hv : VolO u b x (.agg cs)) (hp : CellsAt u p 31 cs) (hpb : p < b) (hbu : b ≤ u.heap.size) (hvb : vb < b) (hcv : CellsAt u vb 2 #[.int .i64 a]) :
    Calls Tryz.prog 47 #[.pointer (some ⟨p, 0, none⟩), .pointer (some ⟨vb, 0, none⟩)] u (WorkQ a0 b cs none ((closeAny x a).1, 0, (closeAny x a).2) u) := by
  by_cases h : 0 ≤ a ∧ a < x.counts.length
  · obtain ⟨r, rfl⟩ : ∃ r : Nat, a = r := ⟨a.toNat, by omega⟩
    rw [show closeAny x (r : Int) = closeVol x r from if_pos h]
    exact cloCloseIn_some a0 a1 a2 a3 x cs b p vb r u he heb hx hv hp hpb hbu hvb hcv (by omega)
  · rw [show closeAny x a = (x, 1) from if_neg h]
    exact cloCloseIn_none a0 a1 a2 a3 x cs b p vb a u he hx hv hp hbu hcv h
set_option maxRecDepth 20000 in
set_option maxHeartbeats 8000000 in
theorem implStepIn_calls (a0 a1 a2 a3 : Addr) (x : VolG) (v : Value) (a : Int) (w : World) (hx : x.Short) (hi : x.Int64) (hr : RdG w w.heap.size x v) (he : Errs w a0 a1 a2 a3)  :
    Calls Tryz.prog 16 #[v, .int .i64 a] w (Ans2 w (stepG x a)) := by
  obtain ⟨A, c, B, d, C, e, E, sc, rfl, i1, i2, i3, i4, i5, i6⟩ := hr
  have hmf : ∀ (fn : Fn) (first cap : Array Value) (w : World), (Instr.makeFunc fn first cap).run Tryz.prog w = .ok (.func fn first cap) w := fun _ _ _ _ => rfl
  have K0 := Lib.hid (show Kept w [(w.heap.size + 1 + 1, 31, #[.int .i64 0, .slice none 0 0, .slice none 0 0, .slice none 0 0, .slice none 0 0, .int .i64 0]), (w.heap.size + 1, 2, #[.int .i64 a]), (w.heap.size, 31, #[.int .i64 x.key, .slice A x.counts.length c, .slice B x.trusts.length d, .slice C x.cells.length e, .slice E x.slots.length sc, .int .i64 x.count])] _ from ((((Kept.refl w).put1 _ _ #[.int .i64 x.key, .slice A x.counts.length c, .slice B x.trusts.length d, .slice C x.cells.length e, .slice E x.slots.length sc, .int .i64 x.count] rfl).put1 _ _ #[.int .i64 a] (by simp)).put1 _ _ #[.int .i64 0, .slice none 0 0, .slice none 0 0, .slice none 0 0, .slice none 0 0, .int .i64 0] (by simp)))
  have HR := Lib.hid (show RdG w w.heap.size x (.agg #[.int .i64 x.key, .slice A x.counts.length c, .slice B x.trusts.length d, .slice C x.cells.length e, .slice E x.slots.length sc, .int .i64 x.count]) from ⟨A, c, B, d, C, e, E, sc, rfl, i1, i2, i3, i4, i5, i6⟩)
  have WC : ∀ (u : World), Kept w [(w.heap.size + 1 + 1, 31, #[.int .i64 0, .slice none 0 0, .slice none 0 0, .slice none 0 0, .slice none 0 0, .int .i64 0]), (w.heap.size + 1, 2, #[.int .i64 a]), (w.heap.size, 31, #[.int .i64 x.key, .slice A x.counts.length c, .slice B x.trusts.length d, .slice C x.cells.length e, .slice E x.slots.length sc, .int .i64 x.count])] u → Calls Tryz.prog 35 #[.agg #[.int .i64 x.key, .slice A x.counts.length c, .slice B x.trusts.length d, .slice C x.cells.length e, .slice E x.slots.length sc, .int .i64 x.count], .func (.func 43) #[] #[.pointer (some ⟨w.heap.size + 1, 0, none⟩)]] u (WorkA u none (((stepG x a).1, (0 : Int), (stepG x a).2))) := fun u hk => by
    have hE := he.below hk.1
    by_cases hok : x.okB = true
    · rw [show (((stepG x a).1, (0 : Int), (stepG x a).2)) = (some (((stepVol x.toN a).1, (0 : Int), (stepVol x.toN a).2)).1, (((stepVol x.toN a).1, (0 : Int), (stepVol x.toN a).2)).2) from by unfold stepG; simp [hok]]
      exact workedOn_StepIn_yes a0 a1 a2 a3 x (.agg #[.int .i64 x.key, .slice A x.counts.length c, .slice B x.trusts.length d, .slice C x.cells.length e, .slice E x.slots.length sc, .int .i64 x.count]) (w.heap.size + 1) (((stepVol x.toN a).1, (0 : Int), (stepVol x.toN a).2)) u hx hi (HR.out.grow hk.1) hE (fun k e => by cases e) hok (fun u' b p cs hb hp1 hpb hbu hcp hv => cloStepIn_any a0 a1 a2 a3 x.toN cs b p (w.heap.size + 1) a u' (hE.below hb) (fun u9 h9 => hE.below (hb.trans (h9.mono (by omega)))) (VolG.inv hi hok).2 hv hcp hpb hbu (by have := hk.lt (x := (w.heap.size + 1, 2, #[.int .i64 a])) (by simp); simp only [] at this; omega) ((hk.below hb).at_ (by simp)))
    · rw [show (((stepG x a).1, (0 : Int), (stepG x a).2)) = (none, 0, 1) from by unfold stepG; simp [hok]]
      exact workedOn_StepIn_no a0 a1 a2 a3 x (.agg #[.int .i64 x.key, .slice A x.counts.length c, .slice B x.trusts.length d, .slice C x.cells.length e, .slice E x.slots.length sc, .int .i64 x.count]) (w.heap.size + 1) u hx hi (HR.out.grow hk.1) hE (fun k e => by cases e) (by simpa using hok)
  have HWC := Lib.hid WC
  clear WC hx hi he i1 i2 i3 i4 i5 i6 HR
  have qd : (((stepG x a).1, (0 : Int), (stepG x a).2)).1 = (stepG x a).1 ∧ (((stepG x a).1, (0 : Int), (stepG x a).2)).2.2 = (stepG x a).2 := ⟨rfl, rfl⟩
  generalize (((stepG x a).1, (0 : Int), (stepG x a).2)) = qq at HWC qd
  generalize (stepG x a) = ga at qd ⊢
  obtain ⟨o, qz⟩ := ga
  obtain ⟨o', z', q'⟩ := qq
  obtain ⟨rfl, rfl⟩ := qd
  go_enter Tryz.func16, Tryz.ntmps16
  go_upto_region 1 with fail
  have k0 := K0.out
  clear K0
  generalize World.alloc _ _ = w0 at k0 ⊢
  obtain ⟨kc0, kf0, kc1, kf1, kc2, kf2, -⟩ := k0.rd
  go_wp2_with fail
  refine (HWC.out _ k0).mono ?_; rintro e1 w1 ⟨cs, rfl, hv1, ht1, -⟩
  have k1 := k0.below ht1.none
  have hs1 : w.heap.size ≤ w0.heap.size := k0.1.size
  have hlt : w.heap.size + 1 + 1 < w0.heap.size := k0.lt (x := (w.heap.size + 1 + 1, 31, #[.int .i64 0, .slice none 0 0, .slice none 0 0, .slice none 0 0, .slice none 0 0, .int .i64 0])) (by simp)
  obtain ⟨k9, A9, n0, c9, B9, n1, d9, C9, n2, e9, E9, n3, f9, m9, rfl⟩ := hv1.lits
  clear k0 ht1 HWC kc0 kf0 kc1 kf1 kc2 kf2
  obtain ⟨kc0, kf0, kc1, kf1, kc2, kf2, -⟩ := k1.rd
  have K1 := Lib.hid k1
  have HV := Lib.hid hv1
  clear k1 hv1
  go_wp2_with fail
  obtain ⟨w9, e9', ⟨d0, d1, d2, d3, d4, d5⟩, hb9, hg9⟩ := vol_end (w := w) (x0 := .int .i64 k9) (x1 := .slice A9 n0 c9) (x2 := .slice B9 n1 d9) (x3 := .slice C9 n2 e9) (x4 := .slice E9 n3 f9) (x5 := .int .i64 m9) (K1.out.at_ (p := w.heap.size + 1 + 1) (t := 31) (cs := #[.int .i64 0, .slice none 0 0, .slice none 0 0, .slice none 0 0, .slice none 0 0, .int .i64 0]) (by simp)) K1.out.1 (by omega)
  rw [e9']
  exact bodyPost_ret (v := .tuple #[.agg #[.int .i64 k9, .slice A9 n0 c9, .slice B9 n1 d9, .slice C9 n2 e9, .slice E9 n3 f9, .int .i64 m9], .int .i64 q']) (by simp [results, Tryz.results16, go_sem, d0, d1, d2, d3, d4, d5]) rfl ⟨_, rfl, (HV.out.out hg9 hlt).mono hs1, hb9⟩
theorem ansStepIn (e0 e1 e2 e3 : Addr) : AnsStepIn (fun u => Errs u e0 e1 e2 e3) := fun x v w a hx hi h he => implStepIn_calls e0 e1 e2 e3 x v a w hx hi h he
set_option maxRecDepth 20000 in
set_option maxHeartbeats 8000000 in
theorem implCloseIn_calls (a0 a1 a2 a3 : Addr) (x : VolG) (v : Value) (a : Int) (w : World) (hx : x.Short) (hi : x.Int64) (hr : RdG w w.heap.size x v) (he : Errs w a0 a1 a2 a3)  :
    Calls Tryz.prog 18 #[v, .int .i64 a] w (Ans2 w (closeG x a)) := by
  obtain ⟨A, c, B, d, C, e, E, sc, rfl, i1, i2, i3, i4, i5, i6⟩ := hr
  have hmf : ∀ (fn : Fn) (first cap : Array Value) (w : World), (Instr.makeFunc fn first cap).run Tryz.prog w = .ok (.func fn first cap) w := fun _ _ _ _ => rfl
  have K0 := Lib.hid (show Kept w [(w.heap.size + 1 + 1, 31, #[.int .i64 0, .slice none 0 0, .slice none 0 0, .slice none 0 0, .slice none 0 0, .int .i64 0]), (w.heap.size + 1, 2, #[.int .i64 a]), (w.heap.size, 31, #[.int .i64 x.key, .slice A x.counts.length c, .slice B x.trusts.length d, .slice C x.cells.length e, .slice E x.slots.length sc, .int .i64 x.count])] _ from ((((Kept.refl w).put1 _ _ #[.int .i64 x.key, .slice A x.counts.length c, .slice B x.trusts.length d, .slice C x.cells.length e, .slice E x.slots.length sc, .int .i64 x.count] rfl).put1 _ _ #[.int .i64 a] (by simp)).put1 _ _ #[.int .i64 0, .slice none 0 0, .slice none 0 0, .slice none 0 0, .slice none 0 0, .int .i64 0] (by simp)))
  have HR := Lib.hid (show RdG w w.heap.size x (.agg #[.int .i64 x.key, .slice A x.counts.length c, .slice B x.trusts.length d, .slice C x.cells.length e, .slice E x.slots.length sc, .int .i64 x.count]) from ⟨A, c, B, d, C, e, E, sc, rfl, i1, i2, i3, i4, i5, i6⟩)
  have WC : ∀ (u : World), Kept w [(w.heap.size + 1 + 1, 31, #[.int .i64 0, .slice none 0 0, .slice none 0 0, .slice none 0 0, .slice none 0 0, .int .i64 0]), (w.heap.size + 1, 2, #[.int .i64 a]), (w.heap.size, 31, #[.int .i64 x.key, .slice A x.counts.length c, .slice B x.trusts.length d, .slice C x.cells.length e, .slice E x.slots.length sc, .int .i64 x.count])] u → Calls Tryz.prog 35 #[.agg #[.int .i64 x.key, .slice A x.counts.length c, .slice B x.trusts.length d, .slice C x.cells.length e, .slice E x.slots.length sc, .int .i64 x.count], .func (.func 47) #[] #[.pointer (some ⟨w.heap.size + 1, 0, none⟩)]] u (WorkA u none (((closeG x a).1, (0 : Int), (closeG x a).2))) := fun u hk => by
    have hE := he.below hk.1
    by_cases hok : x.okB = true
    · rw [show (((closeG x a).1, (0 : Int), (closeG x a).2)) = (some (((closeAny x.toN a).1, (0 : Int), (closeAny x.toN a).2)).1, (((closeAny x.toN a).1, (0 : Int), (closeAny x.toN a).2)).2) from by unfold closeG; simp [hok]]
      exact workedOn_CloseIn_yes a0 a1 a2 a3 x (.agg #[.int .i64 x.key, .slice A x.counts.length c, .slice B x.trusts.length d, .slice C x.cells.length e, .slice E x.slots.length sc, .int .i64 x.count]) (w.heap.size + 1) (((closeAny x.toN a).1, (0 : Int), (closeAny x.toN a).2)) u hx hi (HR.out.grow hk.1) hE (fun k e => by cases e) hok (fun u' b p cs hb hp1 hpb hbu hcp hv => cloCloseIn_any a0 a1 a2 a3 x.toN cs b p (w.heap.size + 1) a u' (hE.below hb) (fun u9 h9 => hE.below (hb.trans (h9.mono (by omega)))) (VolG.inv hi hok).2 hv hcp hpb hbu (by have := hk.lt (x := (w.heap.size + 1, 2, #[.int .i64 a])) (by simp); simp only [] at this; omega) ((hk.below hb).at_ (by simp)))
    · rw [show (((closeG x a).1, (0 : Int), (closeG x a).2)) = (none, 0, 1) from by unfold closeG; simp [hok]]
      exact workedOn_CloseIn_no a0 a1 a2 a3 x (.agg #[.int .i64 x.key, .slice A x.counts.length c, .slice B x.trusts.length d, .slice C x.cells.length e, .slice E x.slots.length sc, .int .i64 x.count]) (w.heap.size + 1) u hx hi (HR.out.grow hk.1) hE (fun k e => by cases e) (by simpa using hok)
  have HWC := Lib.hid WC
  clear WC hx hi he i1 i2 i3 i4 i5 i6 HR
  have qd : (((closeG x a).1, (0 : Int), (closeG x a).2)).1 = (closeG x a).1 ∧ (((closeG x a).1, (0 : Int), (closeG x a).2)).2.2 = (closeG x a).2 := ⟨rfl, rfl⟩
  generalize (((closeG x a).1, (0 : Int), (closeG x a).2)) = qq at HWC qd
  generalize (closeG x a) = ga at qd ⊢
  obtain ⟨o, qz⟩ := ga
  obtain ⟨o', z', q'⟩ := qq
  obtain ⟨rfl, rfl⟩ := qd
  go_enter Tryz.func18, Tryz.ntmps18
  go_upto_region 1 with fail
  have k0 := K0.out
  clear K0
  generalize World.alloc _ _ = w0 at k0 ⊢
  obtain ⟨kc0, kf0, kc1, kf1, kc2, kf2, -⟩ := k0.rd
  go_wp2_with fail
  refine (HWC.out _ k0).mono ?_; rintro e1 w1 ⟨cs, rfl, hv1, ht1, -⟩
  have k1 := k0.below ht1.none
  have hs1 : w.heap.size ≤ w0.heap.size := k0.1.size
  have hlt : w.heap.size + 1 + 1 < w0.heap.size := k0.lt (x := (w.heap.size + 1 + 1, 31, #[.int .i64 0, .slice none 0 0, .slice none 0 0, .slice none 0 0, .slice none 0 0, .int .i64 0])) (by simp)
  obtain ⟨k9, A9, n0, c9, B9, n1, d9, C9, n2, e9, E9, n3, f9, m9, rfl⟩ := hv1.lits
  clear k0 ht1 HWC kc0 kf0 kc1 kf1 kc2 kf2
  obtain ⟨kc0, kf0, kc1, kf1, kc2, kf2, -⟩ := k1.rd
  have K1 := Lib.hid k1
  have HV := Lib.hid hv1
  clear k1 hv1
  go_wp2_with fail
  obtain ⟨w9, e9', ⟨d0, d1, d2, d3, d4, d5⟩, hb9, hg9⟩ := vol_end (w := w) (x0 := .int .i64 k9) (x1 := .slice A9 n0 c9) (x2 := .slice B9 n1 d9) (x3 := .slice C9 n2 e9) (x4 := .slice E9 n3 f9) (x5 := .int .i64 m9) (K1.out.at_ (p := w.heap.size + 1 + 1) (t := 31) (cs := #[.int .i64 0, .slice none 0 0, .slice none 0 0, .slice none 0 0, .slice none 0 0, .int .i64 0]) (by simp)) K1.out.1 (by omega)
  rw [e9']
  exact bodyPost_ret (v := .tuple #[.agg #[.int .i64 k9, .slice A9 n0 c9, .slice B9 n1 d9, .slice C9 n2 e9, .slice E9 n3 f9, .int .i64 m9], .int .i64 q']) (by simp [results, Tryz.results18, go_sem, d0, d1, d2, d3, d4, d5]) rfl ⟨_, rfl, (HV.out.out hg9 hlt).mono hs1, hb9⟩
theorem ansCloseIn (e0 e1 e2 e3 : Addr) : AnsCloseIn (fun u => Errs u e0 e1 e2 e3) := fun x v w a hx hi h he => implCloseIn_calls e0 e1 e2 e3 x v a w hx hi h he
end Go.Proofs.YtgaecedhkbneaaaGreatDoor.Mx

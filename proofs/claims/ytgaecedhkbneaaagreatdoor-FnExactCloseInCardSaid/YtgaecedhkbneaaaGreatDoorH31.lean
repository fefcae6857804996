import Derived.Test.YtgaecedhkbneaaaGreatDoorH04
namespace Go.Proofs.YtgaecedhkbneaaaGreatDoor.Mx
open Go.RowKit
set_option linter.unusedVariables false
def stepsP (P : Program) (Qp : List PanicEntry → World → Prop) (r : Result Next) (K : Value → World → Prop) : Prop :=
  match r with
  | .ok (.value u) w' => K u w'
  | .ok .skip w' => K undef w'
  | .ok (.enter f args) w' => Calls P f args w' fun e w'' => (∃ v, e = .returned v ∧ K v w'') ∨ ∃ ch, e = .panicked ch ∧ Qp ch w''
  | _ => False
theorem stepsP_mono {P : Program} {Qp : List PanicEntry → World → Prop} {r : Result Next} {K K' : Value → World → Prop} (h : ∀ v w, K v w → K' v w) (hh : stepsP P Qp r K) : stepsP P Qp r K' := by
  unfold stepsP at *
  split
  · exact h _ _ hh
  · exact h _ _ hh
  · exact Calls.mono hh fun e w' hq => hq.imp (fun ⟨v, he, hk⟩ => ⟨v, he, h _ _ hk⟩) id
  · rename_i h1 h2 h3
    split at hh
    · exact absurd rfl (h1 _ _)
    · exact absurd rfl (h2 _)
    · exact absurd rfl (h3 _ _ _)
    · exact hh
def freeOkP (P : Program) (Qp : List PanicEntry → World → Prop) (C : (Nat → Bool) → (Nat → Value) → World → Prop) (Sh : Nat → Value → Prop) (fl0 : List Bool) (A : Act) (γ : Nat → Value) : Nat → List Bool → List Oper → Prop
  | _, [], _ => True
  | _, _ :: _, [] => True
  | k, false :: fl, _ :: l => freeOkP P Qp C Sh fl0 A γ (k + 1) fl l
  | k, true :: fl, o :: l => (∀ D w, D k = false → depsUp .any fl0 o D → C D γ w → stepsP P Qp ((execOp A.eval o).run P w) (fun v w' => Sh k v ∧ C (setD D k) (setG γ k v) w')) ∧ freeOkP P Qp C Sh fl0 A γ (k + 1) fl l
section
variable {P : Program} {Qp : List PanicEntry → World → Prop} {C : (Nat → Bool) → (Nat → Value) → World → Prop} {Sh : Nat → Value → Prop} {fl fl0 : List Bool} {l : List Oper} {γ : Nat → Value} {A : Act}
theorem freeOkP_at (k : Nat) : ∀ (fl : List Bool) (l : List Oper), freeOkP P Qp C Sh fl0 A γ k fl l → ∀ i o, l[i]? = some o → flagAt fl i = true →
    ∀ D w, D (k + i) = false → depsUp .any fl0 o D → C D γ w → stepsP P Qp ((execOp A.eval o).run P w) (fun v w' => Sh (k + i) v ∧ C (setD D (k + i)) (setG γ (k + i) v) w') := by
  intro fl
  induction fl generalizing k with
  | nil => intro l _ i o _ hf; cases hf
  | cons b fl ih =>
    intro l h i o hi hf
    cases l with
    | nil => cases hi
    | cons o' l =>
      cases i with
      | zero =>
        have : b = true := hf
        subst this
        simp only [List.getElem?_cons_zero, Option.some.injEq] at hi
        subst hi
        exact h.1
      | succ i =>
        have h' : freeOkP P Qp C Sh fl0 A γ (k + 1) fl l := by cases b; exact h; exact h.2
        rw [show k + (i + 1) = k + 1 + i by omega]
        exact ih (k + 1) l h' i o (by simpa using hi) hf
theorem freeP_any {Q : Exit → Act → World → Prop} {d0 : List Deferred} (hp9 : ∀ ch (a : Act) w, a.defers = d0 → Qp ch w → Q (.panic ch) a w) (AA : (Nat → Value) → Act) (hB : freeB .any fl l = true)
    (hloc : ∀ D γ γ' w, (∀ i, D i = true → γ i = γ' i) → C D γ w → C D γ' w)
    (hst : ∀ γ, OkG Sh fl γ → freeOkP P Qp C Sh fl (AA γ) γ 0 fl l)
    (hQ : ∀ γ, OkG Sh fl γ → ∀ D w', (∀ i, i < l.length → flagAt fl i = true → D i = true) → C D γ w' → Q .normal (AA γ) w') (fuel : Nat) :
    ∀ (up : Array Bool) (a : Act) (D : Nat → Bool) (γ : Nat → Value) (w : World), a.defers = d0 → up.size = l.length → OkG Sh fl γ →
      (∀ γ', OkG Sh fl γ' → (∀ i, D i = true → γ i = γ' i) → ∀ D', wpAnyQ P .any (hushL γ' 0 fl l).toArray (C D' γ') (fun a' => a' = AA γ') fuel up a) →
      (∀ i, D i = (flagAt fl i && up.getD i false)) → C D γ w → wpAny P .any l.toArray Q fuel up a w := by
  have fin : ∀ (up : Array Bool) (D : Nat → Bool) (γ : Nat → Value) (w : World), up.size = l.length → OkG Sh fl γ → (∀ i, D i = (flagAt fl i && up.getD i false)) → C D γ w →
      Region.ready .any l.toArray up = [] → Q .normal (AA γ) w := by
    intro up D γ w hs hγ hD hC h0
    refine hQ γ hγ D w (fun i hi hf => ?_) hC
    rw [hD i, hf, getD_same (by omega) false true, all_up' hB hs h0 i hi]
    rfl
  induction fuel with
  | zero =>
    intro up a D γ w hd9 hs hγ H hD hC
    have h := H γ hγ (fun _ _ => rfl) D
    have hr : Region.ready .any l.toArray up = [] := by rw [← hushL_ready (γ := γ) (fl := fl)]; exact h.1
    refine ⟨hr, ?_⟩
    rw [h.2]
    exact fin up D γ w hs hγ hD hC hr
  | succ f ih =>
    intro up a D γ w hd9 hs hγ H hD hC
    refine ⟨fun h0 => ?_, fun i hi => ?_⟩
    · rw [(H γ hγ (fun _ _ => rfl) D).1 (by rw [hushL_ready]; exact h0)]
      exact fin up D γ w hs hγ hD hC h0
    · obtain ⟨hun, o, ho, hwait⟩ := mem_ready.1 hi
      have hol : l[i]? = some o := by simpa using ho
      have hil : i < l.length := (List.getElem?_eq_some_iff.1 hol).1
      have hs' : (up.setIfInBounds i true).size = l.length := by simpa using hs
      have hDi : D i = false := by
        rw [hD i, getD_same (by omega) false true, hun]; simp
      have hget : ∀ γ' : Nat → Value, (hushL γ' 0 fl l).toArray[i]? = some (hushO (flagAt fl i) (γ' i) o) := fun γ' => by rw [hushA_get, ho]; rfl
      -- each takes the same step
      have hstep : ∀ γ', OkG Sh fl γ' → (∀ i, D i = true → γ i = γ' i) → ∀ D', ∃ v, YieldsIn P (hushL γ' 0 fl l).toArray (C D' γ') (hushO (flagAt fl i) (γ' i) o) v a ∧
          wpAnyQ P .any (hushL γ' 0 fl l).toArray (C D' γ') (fun a' => a' = AA γ') f (up.setIfInBounds i true) (a.put o.dst v) := by
        intro γ' h1 h2 D'
        obtain ⟨v, hy, hk⟩ := yieldsIn_of_qOp (hget γ') ((H γ' h1 h2 D').2 i (by rw [hushL_ready]; exact hi))
        rw [hushO_dst] at hk
        exact ⟨v, hy, hk⟩
      have hendx : ∀ γ' d, o.dst = some d → ∀ j oj, (hushL γ' 0 fl l).toArray[j]? = some oj → (up.setIfInBounds i true).getD j true = false → ∀ d', oj.dst = some d' → Operand.tmp d ≠ .tmp d' := by
        intro γ' d hd j oj hj hu d' hd' he
        injection he with he
        subst he
        rw [hushA_get] at hj
        obtain ⟨oj', hj', rfl⟩ := Option.map_eq_some_iff.1 hj
        rw [hushO_dst] at hd'
        have hji : j ≠ i := by
          rintro rfl
          have : (up.setIfInBounds j true).getD j true = true := by simp [show j < up.size by omega]
          rw [this] at hu; cases hu
        exact (freeB_at hB hol).2.1 j oj' d (by simpa using hj') hji hd hd'
      cases hf : flagAt fl i with
      | false =>
        have hp : plainOp o.op = true := (freeB_at hB hol).2.2.1 hf
        have hsame : ∀ v, hushO (flagAt fl i) v o = o := fun v => by rw [hf]; rfl
        obtain ⟨v, hy, hk⟩ := hstep γ hγ (fun _ _ => rfl) D
        rw [hsame] at hy
        have hall : ∀ γ', OkG Sh fl γ' → (∀ i, D i = true → γ i = γ' i) → ∀ D', wpAnyQ P .any (hushL γ' 0 fl l).toArray (C D' γ') (fun a' => a' = AA γ') f (up.setIfInBounds i true) (a.put o.dst v) := by
          intro γ' h1 h2 D'
          obtain ⟨v1, hy1, hk1⟩ := hstep γ' h1 h2 D
          obtain ⟨v2, _, hk2⟩ := hstep γ' h1 h2 D'
          rw [hsame] at hy1
          have e1 : v = v1 := YieldsIn.same hp ((hushL_yielded _).trans (hushL_yielded _).symm) hC (hloc D γ γ' w h2 hC) hy hy1
          subst e1
          suffices e : a.put o.dst v = a.put o.dst v2 by rw [e]; exact hk2
          cases hd : o.dst with
          | none => rfl
          | some d =>
            rw [hd] at hk1 hk2
            exact eval_put_self a d v v2 ((wpAnyQ_end _ f _ _ (hendx γ' d hd) hk1).trans (wpAnyQ_end _ f _ _ (hendx γ' d hd) hk2).symm)
        have hq : qOp P l.toArray (C D γ) i (fun a' => a' = a.put o.dst v) a := by
          refine YieldsIn.qOp ho ?_ rfl
          rcases hy with ⟨hw, hv⟩ | ⟨hw, hv⟩
          · left; rw [hushL_yielded] at hw; exact ⟨hw, hv⟩
          · right; rw [hushL_yielded] at hw; exact ⟨hw, hv⟩
        refine wpOp_of_qOp hC (fun a' w' hw' ha' => ?_) hq
        subst ha'
        refine ih _ _ D γ w' (by cases o.dst <;> exact hd9) hs' hγ hall (fun j => ?_) hw'
        rw [hD j]
        by_cases hij : i = j
        · subst hij; rw [hf]; simp
        · rw [getD_set_ne false hij]
      | true =>
        obtain ⟨hg, hrd⟩ := (freeB_at hB hol).2.2.2.1 hf
        have hev : ∀ z ∈ o.op.operands.toList, a.eval z = (AA γ).eval z := by
          intro z hz
          refine wpAnyQ_end z (f + 1) up a (fun j oj hj hu d' hd' he => ?_) (H γ hγ (fun _ _ => rfl) D)
          subst he
          rw [hushA_get] at hj
          obtain ⟨oj', hj', rfl⟩ := Option.map_eq_some_iff.1 hj
          rw [hushO_dst] at hd'
          obtain ⟨e, he, hb, hon⟩ := hrd d' hz j oj' (by simpa using hj') hd'
          have h3 := hwait e he hb
          rw [hon] at h3
          have hjlt : j < l.length := by have := (Array.getElem?_eq_some_iff.1 hj').1; simpa using this
          rw [getD_same (by omega) false true, hu] at h3
          cases h3
        have hsel : ∀ cs b, o.op ≠ .select cs b := (freeB_at hB hol).2.2.2.2
        have hex : execOp a.eval o = execOp (AA γ).eval o := execOp_congr o hsel (fun x hx => hev x (by simpa using hx))
        have hstp := freeOkP_at 0 fl l (hst γ hγ) i o hol hf D w (by rw [Nat.zero_add]; exact hDi) (fun e2 he2 hb2 hf2 => by
            rw [hD, hf2]; exact hwait e2 (by simpa using he2) hb2) hC
        rw [Nat.zero_add, ← hex] at hstp
        have hwant : Region.wanted o (yielded l.toArray a.tmps) = true := by unfold Region.wanted; rw [hg]
        unfold wpOp
        simp only [ho, hwant, if_true]
        left
        have hgo : ∀ v w', Sh i v ∧ C (setD D i) (setG γ i v) w' → wpAny P .any l.toArray Q f (up.setIfInBounds i true) (a.put o.dst v) w' := by
          intro v w' ⟨hv, hC'⟩
          refine ih _ _ (setD D i) (setG γ i v) w' (by cases o.dst <;> exact hd9) hs' (fun j hj => ?_) (fun γ' h1 h2 D' => ?_) (fun j => ?_) hC'
          · unfold setG
            by_cases hji : j = i
            · subst hji; rw [if_pos rfl]; exact hv
            · rw [if_neg hji]; exact hγ j hj
          · have h2' : ∀ j, D j = true → γ j = γ' j := by
              intro j hj
              have hji : j ≠ i := by rintro rfl; rw [hDi] at hj; cases hj
              have := h2 j (by unfold setD; rw [hj]; simp)
              unfold setG at this
              rwa [if_neg hji] at this
            have hvi : v = γ' i := by
              have := h2 i (by simp [setD])
              unfold setG at this
              rwa [if_pos rfl] at this
            obtain ⟨u1, hy1, hk1⟩ := hstep γ' h1 h2' D
            obtain ⟨u2, _, hk2⟩ := hstep γ' h1 h2' D'
            rw [hf] at hy1
            have hu : γ' i = u1 := by
              rcases hy1 with ⟨_, q⟩ | ⟨g, _⟩
              · have q' := q w (hloc D γ γ' w h2' hC)
                unfold Oper.quietAt at q'
                have hrun : (execOp a.eval (hushO true (γ' i) o)).run P w = .ok (.value (γ' i)) w := by unfold execOp hushO; rfl
                rw [hrun] at q'
                exact q'.2
              · exfalso
                have hgn : (hushO true (γ' i) o).guard = none := hg
                unfold Region.wanted at g; rw [hgn] at g; cases g
            rw [hvi, hu]
            suffices e : a.put o.dst u1 = a.put o.dst u2 by rw [e]; exact hk2
            cases hd : o.dst with
            | none => rfl
            | some d =>
              rw [hd] at hk1 hk2
              exact eval_put_self a d u1 u2 ((wpAnyQ_end _ f _ _ (hendx γ' d hd) hk1).trans (wpAnyQ_end _ f _ _ (hendx γ' d hd) hk2).symm)
          · unfold setD
            by_cases hij : i = j
            · subst hij; simp [hf, show i < up.size by omega]
            · rw [getD_set_ne false hij, hD j]
              simp [Ne.symm hij]
        have hfin := stepsP_mono hgo hstp
        unfold Oper.wp
        generalize (execOp a.eval o).run P w = r at *
        cases r with
        | halt x w' => simp only [stepsP] at hfin
        | ok n w' =>
          cases n <;> simp only [stepsP] at hfin
          case value u => exact hfin
          case skip => exact hfin
          case enter g args => exact hfin.mono fun e w'' hq9 => hq9.elim (fun ⟨v, he, hk⟩ => by subst he; exact hk) (fun ⟨ch, he, hk⟩ => by subst he; exact hp9 _ _ _ hd9 hk)
theorem wp_region_freeP {id : Nat} {Q : Exit → Act → World → Prop} {a : Act} {w : World} {l : List Oper} (fl : List Bool) (Sh : Nat → Value → Prop) (Qp : List PanicEntry → World → Prop) (C : (Nat → Bool) → (Nat → Value) → World → Prop) (hp9 : ∀ ch (a' : Act) w, a'.defers = a.defers → Qp ch w → Q (.panic ch) a' w)
    (hm : P.follows .mixedOrders = true) (hS : freeB .any fl l = true) (hB : ∀ γ, Region.lexB .any (hushL γ 0 fl l).toArray = true)
    (hloc : ∀ D γ γ' w, (∀ i, D i = true → γ i = γ' i) → C D γ w → C D γ' w) (hinh : ∀ i, ∃ v, Sh i v) (hC : ∀ γ, C (fun _ => false) γ w.drew)
    (H : ∀ γ, OkG Sh fl γ → ∃ A : Act, (∀ D, wpQuiet P (hushL γ 0 fl l).toArray (C D γ) (fun a' => a' = A) (hushL γ 0 fl l) a) ∧ freeOkP P Qp C Sh fl A γ 0 fl l ∧
      (∀ D w', (∀ i, i < l.length → flagAt fl i = true → D i = true) → C D γ w' → Q .normal A w')) : (Code.region id l.toArray true).wp P Q a w := by
  classical
  refine wp_region_any hm ?_
  obtain ⟨γ0, h0⟩ : ∃ γ0 : Nat → Value, OkG Sh fl γ0 := ⟨fun i => Classical.choose (hinh i), fun i _ => Classical.choose_spec (hinh i)⟩
  let AA : (Nat → Value) → Act := fun γ => if h : OkG Sh fl γ then Classical.choose (H γ h) else a
  have hAA : ∀ γ (h : OkG Sh fl γ), AA γ = Classical.choose (H γ h) := fun γ h => dif_pos h
  have hA : ∀ γ (h : OkG Sh fl γ), (∀ D, wpQuiet P (hushL γ 0 fl l).toArray (C D γ) (fun a' => a' = AA γ) (hushL γ 0 fl l) a) ∧ freeOkP P Qp C Sh fl (AA γ) γ 0 fl l ∧
      (∀ D w', (∀ i, i < l.length → flagAt fl i = true → D i = true) → C D γ w' → Q .normal (AA γ) w') := fun γ h => by rw [hAA γ h]; exact Classical.choose_spec (H γ h)
  refine freeP_any hp9 AA hS hloc (fun γ h => (hA γ h).2.1) (fun γ h => (hA γ h).2.2) _ _ _ (fun _ => false) γ0 _ rfl (by simp) h0 (fun γ' h1 _ D' => ?_) (fun i => ?_) (hC γ0)
  · have hlex := hB γ'
    simp only [Region.lexB, Bool.and_eq_true] at hlex
    have := wpAnyQ_lex (C := C D' γ') (md := .any) hlex.1 (hushL γ' 0 fl l) 0 (Array.replicate l.toArray.size false) a (by simp) (by simpa [hushL_length] using hlex.2) ((hA γ' h1).1 D')
    simpa [hushL_length] using this
  · have : (Array.replicate l.toArray.size false).getD i false = false := by
      rcases Nat.lt_or_ge i l.length with h' | h'
      · simp [h']
      · simp [h']
    rw [this]; simp
end
end Go.Proofs.YtgaecedhkbneaaaGreatDoor.Mx

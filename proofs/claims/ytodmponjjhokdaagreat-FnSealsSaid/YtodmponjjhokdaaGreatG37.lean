import Derived.Test.YtodmponjjhokdaaGreatG01
namespace Go.Proofs.YtodmponjjhokdaaGreat.Mx
open Go.RowKit
set_option linter.unusedVariables false
def freeK (md : Region.Mode) (fl fn : List Bool) (l : List Oper) : Bool :=
 (List.range l.length).all fun i => match l[i]? with
  | none => true
  | some o => (match o.op with | .select _ _ => false | _ => true) && o.after.all (fun e => !Region.binds md e || decide (e.on < i)) &&
    (List.range l.length).all (fun j => j == i || match l[j]? with | some oj => o.dst.isNone || o.dst != oj.dst | none => true) &&
    (bif flagAt fl i || flagAt fn i then (o.guard.isNone || flagAt fn i) && o.op.operands.toList.all fun x => match x with
     | .tmp t => (List.range l.length).all fun j => match l[j]? with | some oj => oj.dst != some t || o.after.any (fun e => Region.binds md e && e.on == j) | none => true
     | _ => true
    else plainOp o.op)
def splitK (fl fn fk : List Bool) (n : Nat) : Bool := (List.range n).all fun i => (flagAt fk i == (flagAt fl i || flagAt fn i)) && !(flagAt fl i && flagAt fn i)
theorem splitK_at {fl fn fk : List Bool} {n i : Nat} (h : splitK fl fn fk n = true) (hi : i < n) : flagAt fk i = (flagAt fl i || flagAt fn i) ∧ ¬ (flagAt fl i = true ∧ flagAt fn i = true) := by
 have h1 := List.all_eq_true.1 h i (List.mem_range.2 hi)
 simp only [Bool.and_eq_true, beq_iff_eq] at h1
 refine ⟨h1.1, fun h2 => ?_⟩
 rw [h2.1, h2.2] at h1
 cases h1.2
def gam (fn : List Bool) (κ γ : Nat → Value) : Nat → Value := fun i => bif flagAt fn i then κ i else γ i
def knownOk (P : Program) (C : (Nat → Bool) → (Nat → Value) → World → Prop) (fl0 : List Bool) (κ : Nat → Value) (A : Act) (γ : Nat → Value) : Nat → List Bool → List Oper → Prop
 | _, [], _ => True
 | _, _ :: _, [] => True
 | k, false :: fn, _ :: l => knownOk P C fl0 κ A γ (k + 1) fn l
 | k, true :: fn, o :: l => (∀ D w, depsUp .any fl0 o D → C D γ w → stepsTo P ((execOp A.eval o).run P w) (fun v w' => v = κ k ∧ C D γ w')) ∧ knownOk P C fl0 κ A γ (k + 1) fn l
section
variable {P : Program} {C : (Nat → Bool) → (Nat → Value) → World → Prop} {Sh : Nat → Value → Prop} {fl fn fk fl0 : List Bool} {l : List Oper} {κ γ : Nat → Value} {A : Act}
theorem knownOk_at (k : Nat) : ∀ (fn : List Bool) (l : List Oper), knownOk P C fl0 κ A γ k fn l → ∀ i o, l[i]? = some o → flagAt fn i = true →
    ∀ D w, depsUp .any fl0 o D → C D γ w → stepsTo P ((execOp A.eval o).run P w) (fun v w' => v = κ (k + i) ∧ C D γ w') := by
 intro fn
 induction fn generalizing k with
 | nil => intro l _ i o _ hf; cases hf
 | cons b fn ih =>
   intro l h i o hi hf
   cases l with
   | nil => cases hi
   | cons o' l =>
     cases i with
     | zero =>
       have : b = true := hf
       subst this
       simp only [List.getElem?_cons_zero, Option.some.injEq] at hi
       subst hi
       exact h.1
     | succ i =>
       have h' : knownOk P C fl0 κ A γ (k + 1) fn l := by cases b; exact h; exact h.2
       rw [show k + (i + 1) = k + 1 + i by omega]
       exact ih (k + 1) l h' i o (by simpa using hi) hf
theorem freeK_at {md : Region.Mode} (h : freeK md fl fn l = true) {i : Nat} {o : Oper} (hi : l[i]? = some o) :
    (∀ e ∈ o.after, Region.binds md e = true → e.on < i) ∧ (∀ j oj d, l[j]? = some oj → j ≠ i → o.dst = some d → oj.dst ≠ some d) ∧
    (flagAt fl i = false → flagAt fn i = false → plainOp o.op = true) ∧
    ((flagAt fl i || flagAt fn i) = true → (flagAt fn i = false → o.guard = none) ∧ ∀ t, .tmp t ∈ o.op.operands.toList → ∀ j oj, l[j]? = some oj → oj.dst = some t → ∃ e ∈ o.after, Region.binds md e = true ∧ e.on = j) ∧
    (∀ cs b, o.op ≠ .select cs b) := by
 unfold freeK at h
 rw [List.all_eq_true] at h
 have hlt : i < l.length := (List.getElem?_eq_some_iff.1 hi).1
 have h1 := h i (List.mem_range.2 hlt)
 simp only [hi, Bool.and_eq_true] at h1
 obtain ⟨⟨⟨hns, ha⟩, hd⟩, hs⟩ := h1
 refine ⟨fun e he hb => ?_, fun j oj d hj hne hod hoj => ?_, fun hf hk => ?_, fun hf => ?_, fun cs b he => by rw [he] at hns; cases hns⟩
 ·have := Array.all_eq_true_iff_forall_mem.1 ha e he
  simpa [hb] using this
 ·rw [List.all_eq_true] at hd
  have := hd j (List.mem_range.2 (List.getElem?_eq_some_iff.1 hj).1)
  simp [hj, hne, hod, hoj] at this
 ·rw [hf, hk] at hs; exact hs
 ·rw [hf] at hs
  simp only [cond_true, Bool.and_eq_true] at hs
  refine ⟨fun hk => by have := hs.1; rw [hk] at this; simpa using this, fun t ht j oj hj hd2 => ?_⟩
  have h3 := List.all_eq_true.1 hs.2 _ ht
  simp only [List.all_eq_true] at h3
  have h4 := h3 j (List.mem_range.2 (List.getElem?_eq_some_iff.1 hj).1)
  simp only [hj, hd2, bne_self_eq_false, Bool.false_or] at h4
  obtain ⟨e, he, hb⟩ := Array.any_eq_true'.1 h4
  simp only [Bool.and_eq_true, beq_iff_eq] at hb
  exact ⟨e, he, hb.1, hb.2⟩
theorem all_upK {md : Region.Mode} (h : freeK md fl fn l = true) {up : Array Bool} (hs : up.size = l.length) (h0 : Region.ready md l.toArray up = []) : ∀ i, i < l.length → up.getD i true = true := by
 intro i
 induction i using Nat.strongRecOn with
 | _ i ih =>
   intro hi
   cases hu : up.getD i true with
   | true => rfl
   | false =>
     exfalso
     obtain ⟨o, ho⟩ : ∃ o, l[i]? = some o := ⟨_, List.getElem?_eq_getElem hi⟩
     have : i ∈ Region.ready md l.toArray up := by
      refine mem_ready.2 ⟨hu, o, by simpa using ho, fun e he hb => ?_⟩
      have hlt := (freeK_at h ho).1 e he hb
      rw [getD_same (by omega) false true]
      exact ih _ hlt (by omega)
     rw [h0] at this
     cases this
theorem hushO_wanted (b : Bool) (v : Value) (o : Oper) (ys : Nat → Option Bool) : Region.wanted (hushO b v o) ys = Region.wanted o ys := by
 unfold Region.wanted hushO
 cases b <;> rfl
theorem free_anyK {Q : Exit → Act → World → Prop} (AA : (Nat → Value) → Act) (hB : freeK .any fl fn l = true) (hX : splitK fl fn fk l.length = true)
    (hloc : ∀ D γ γ' w, (∀ i, D i = true → γ i = γ' i) → C D γ w → C D γ' w)
    (hst : ∀ γ, OkG Sh fl γ → freeOk P C Sh fl (AA γ) γ 0 fl l) (hkn : ∀ γ, OkG Sh fl γ → knownOk P C fl κ (AA γ) γ 0 fn l)
    (hQ : ∀ γ, OkG Sh fl γ → ∀ D w', (∀ i, i < l.length → flagAt fl i = true → D i = true) → C D γ w' → Q .normal (AA γ) w') (fuel : Nat) :
    ∀ (up : Array Bool) (a : Act) (D : Nat → Bool) (γ : Nat → Value) (w : World), up.size = l.length → OkG Sh fl γ →
      (∀ γ', OkG Sh fl γ' → (∀ i, D i = true → γ i = γ' i) → ∀ D', wpAnyQ P .any (hushL (gam fn κ γ') 0 fk l).toArray (C D' γ') (fun a' => a' = AA γ') fuel up a) →
      (∀ i, D i = (flagAt fl i && up.getD i false)) → C D γ w → wpAny P .any l.toArray Q fuel up a w := by
 have fin : ∀ (up : Array Bool) (D : Nat → Bool) (γ : Nat → Value) (w : World), up.size = l.length → OkG Sh fl γ → (∀ i, D i = (flagAt fl i && up.getD i false)) → C D γ w →
     Region.ready .any l.toArray up = [] → Q .normal (AA γ) w := by
  intro up D γ w hs hγ hD hC h0
  refine hQ γ hγ D w (fun i hi hf => ?_) hC
  rw [hD i, hf, getD_same (by omega) false true, all_upK hB hs h0 i hi]
  rfl
 induction fuel with
 | zero =>
   intro up a D γ w hs hγ H hD hC
   have h := H γ hγ (fun _ _ => rfl) D
   have hr : Region.ready .any l.toArray up = [] := by rw [← hushL_ready (γ := gam fn κ γ) (fl := fk)]; exact h.1
   refine ⟨hr, ?_⟩
   rw [h.2]
   exact fin up D γ w hs hγ hD hC hr
 | succ f ih =>
   intro up a D γ w hs hγ H hD hC
   refine ⟨fun h0 => ?_, fun i hi => ?_⟩
   ·rw [(H γ hγ (fun _ _ => rfl) D).1 (by rw [hushL_ready]; exact h0)]
    exact fin up D γ w hs hγ hD hC h0
   ·obtain ⟨hun, o, ho, hwait⟩ := mem_ready.1 hi
    have hol : l[i]? = some o := by simpa using ho
    have hil : i < l.length := (List.getElem?_eq_some_iff.1 hol).1
    have hs' : (up.setIfInBounds i true).size = l.length := by simpa using hs
    have hDi : D i = false := by
     rw [hD i, getD_same (by omega) false true, hun]; simp
    have hget : ∀ γ' : Nat → Value, (hushL (gam fn κ γ') 0 fk l).toArray[i]? = some (hushO (flagAt fk i) (gam fn κ γ' i) o) := fun γ' => by rw [hushA_get, ho]; rfl
    -- each takes the same step
    have hstep : ∀ γ', OkG Sh fl γ' → (∀ i, D i = true → γ i = γ' i) → ∀ D', ∃ v, YieldsIn P (hushL (gam fn κ γ') 0 fk l).toArray (C D' γ') (hushO (flagAt fk i) (gam fn κ γ' i) o) v a ∧
        wpAnyQ P .any (hushL (gam fn κ γ') 0 fk l).toArray (C D' γ') (fun a' => a' = AA γ') f (up.setIfInBounds i true) (a.put o.dst v) := by
     intro γ' h1 h2 D'
     obtain ⟨v, hy, hk⟩ := yieldsIn_of_qOp (hget γ') ((H γ' h1 h2 D').2 i (by rw [hushL_ready]; exact hi))
     rw [hushO_dst] at hk
     exact ⟨v, hy, hk⟩
    have hendx : ∀ γ' d, o.dst = some d → ∀ j oj, (hushL (gam fn κ γ') 0 fk l).toArray[j]? = some oj → (up.setIfInBounds i true).getD j true = false → ∀ d', oj.dst = some d' → Operand.tmp d ≠ .tmp d' := by
     intro γ' d hd j oj hj hu d' hd' he
     injection he with he
     subst he
     rw [hushA_get] at hj
     obtain ⟨oj', hj', rfl⟩ := Option.map_eq_some_iff.1 hj
     rw [hushO_dst] at hd'
     have hji : j ≠ i := by
      rintro rfl
      have : (up.setIfInBounds j true).getD j true = true := by simp [show j < up.size by omega]
      rw [this] at hu; cases hu
     exact (freeK_at hB hol).2.1 j oj' d (by simpa using hj') hji hd hd'
    cases hf : flagAt fl i with
    | false =>
      cases hn : flagAt fn i with
      | false =>
        have hp : plainOp o.op = true := (freeK_at hB hol).2.2.1 hf hn
        have hfk : flagAt fk i = false := by rw [(splitK_at hX hil).1, hf, hn]; rfl
        have hsame : ∀ v, hushO (flagAt fk i) v o = o := fun v => by rw [hfk]; rfl
        obtain ⟨v, hy, hk⟩ := hstep γ hγ (fun _ _ => rfl) D
        rw [hsame] at hy
        have hall : ∀ γ', OkG Sh fl γ' → (∀ i, D i = true → γ i = γ' i) → ∀ D', wpAnyQ P .any (hushL (gam fn κ γ') 0 fk l).toArray (C D' γ') (fun a' => a' = AA γ') f (up.setIfInBounds i true) (a.put o.dst v) := by
         intro γ' h1 h2 D'
         obtain ⟨v1, hy1, hk1⟩ := hstep γ' h1 h2 D
         obtain ⟨v2, _, hk2⟩ := hstep γ' h1 h2 D'
         rw [hsame] at hy1
         have e1 : v = v1 := YieldsIn.same hp ((hushL_yielded _).trans (hushL_yielded _).symm) hC (hloc D γ γ' w h2 hC) hy hy1
         subst e1
         suffices e : a.put o.dst v = a.put o.dst v2 by rw [e]; exact hk2
         cases hd : o.dst with
         | none => rfl
         | some d =>
           rw [hd] at hk1 hk2
           exact eval_put_self a d v v2 ((wpAnyQ_end _ f _ _ (hendx γ' d hd) hk1).trans (wpAnyQ_end _ f _ _ (hendx γ' d hd) hk2).symm)
        have hq : qOp P l.toArray (C D γ) i (fun a' => a' = a.put o.dst v) a := by
         refine YieldsIn.qOp ho ?_ rfl
         rcases hy with ⟨hw, hv⟩ | ⟨hw, hv⟩
         ·left; rw [hushL_yielded] at hw; exact ⟨hw, hv⟩
         ·right; rw [hushL_yielded] at hw; exact ⟨hw, hv⟩
        refine wpOp_of_qOp hC (fun a' w' hw' ha' => ?_) hq
        subst ha'
        refine ih _ _ D γ w' hs' hγ hall (fun j => ?_) hw'
        rw [hD j]
        by_cases hij : i = j
        ·subst hij; rw [hf]; simp
        ·rw [getD_set_ne false hij]
      | true =>
        have hfk : flagAt fk i = true := by rw [(splitK_at hX hil).1, hf, hn]; rfl
        have hsame : ∀ γ', hushO (flagAt fk i) (gam fn κ γ' i) o = hushO true (κ i) o := fun γ' => by rw [hfk]; unfold gam; rw [hn]; rfl
        have hp : plainOp (hushO true (κ i) o).op = true := rfl
        obtain ⟨v, hy, hk⟩ := hstep γ hγ (fun _ _ => rfl) D
        rw [hsame] at hy
        have hall : ∀ γ', OkG Sh fl γ' → (∀ i, D i = true → γ i = γ' i) → ∀ D', wpAnyQ P .any (hushL (gam fn κ γ') 0 fk l).toArray (C D' γ') (fun a' => a' = AA γ') f (up.setIfInBounds i true) (a.put o.dst v) := by
         intro γ' h1 h2 D'
         obtain ⟨v1, hy1, hk1⟩ := hstep γ' h1 h2 D
         obtain ⟨v2, _, hk2⟩ := hstep γ' h1 h2 D'
         rw [hsame] at hy1
         have e1 : v = v1 := YieldsIn.same hp ((hushL_yielded _).trans (hushL_yielded _).symm) hC (hloc D γ γ' w h2 hC) hy hy1
         subst e1
         suffices e : a.put o.dst v = a.put o.dst v2 by rw [e]; exact hk2
         cases hd : o.dst with
         | none => rfl
         | some d =>
           rw [hd] at hk1 hk2
           exact eval_put_self a d v v2 ((wpAnyQ_end _ f _ _ (hendx γ' d hd) hk1).trans (wpAnyQ_end _ f _ _ (hendx γ' d hd) hk2).symm)
        have hD' : ∀ j, D j = (flagAt fl j && (up.setIfInBounds i true).getD j false) := by
         intro j
         rw [hD j]
         by_cases hij : i = j
         ·subst hij; rw [hf]; simp
         ·rw [getD_set_ne false hij]
        rcases hy with ⟨hw, hv⟩ | ⟨hw, hv⟩
        ·rw [hushL_yielded, hushO_wanted] at hw
         have hvk : v = κ i := by
          have q' := hv w hC
          unfold Oper.quietAt at q'
          have hrun : (execOp a.eval (hushO true (κ i) o)).run P w = .ok (.value (κ i)) w := by unfold execOp hushO; rfl
          rw [hrun] at q'
          exact q'.2.symm
         subst hvk
         obtain ⟨-, hrd⟩ := (freeK_at hB hol).2.2.2.1 (by rw [hn]; simp)
         have hev : ∀ z ∈ o.op.operands.toList, a.eval z = (AA γ).eval z := by
          intro z hz
          refine wpAnyQ_end z (f + 1) up a (fun j oj hj hu d' hd' he => ?_) (H γ hγ (fun _ _ => rfl) D)
          subst he
          rw [hushA_get] at hj
          obtain ⟨oj', hj', rfl⟩ := Option.map_eq_some_iff.1 hj
          rw [hushO_dst] at hd'
          obtain ⟨e, he, hb, hon⟩ := hrd d' hz j oj' (by simpa using hj') hd'
          have h3 := hwait e he hb
          rw [hon] at h3
          have hjlt : j < l.length := by have := (Array.getElem?_eq_some_iff.1 hj').1; simpa using this
          rw [getD_same (by omega) false true, hu] at h3
          cases h3
         have hsel : ∀ cs b, o.op ≠ .select cs b := (freeK_at hB hol).2.2.2.2
         have hex : execOp a.eval o = execOp (AA γ).eval o := execOp_congr o hsel (fun x hx => hev x (by simpa using hx))
         have hstp := knownOk_at 0 fn l (hkn γ hγ) i o hol hn D w (fun e2 he2 hb2 hf2 => by
             rw [hD, hf2]; exact hwait e2 (by simpa using he2) hb2) hC
         rw [Nat.zero_add, ← hex] at hstp
         unfold wpOp
         simp only [ho, hw, if_true]
         left
         have hgo : ∀ v w', v = κ i ∧ C D γ w' → wpAny P .any l.toArray Q f (up.setIfInBounds i true) (a.put o.dst v) w' := by
          rintro v w' ⟨rfl, hC'⟩
          exact ih _ _ D γ w' hs' hγ hall hD' hC'
         have hfin := stepsTo_mono hgo hstp
         unfold Oper.wp
         generalize (execOp a.eval o).run P w = r at *
         cases r with
         | halt x w' => simp only [stepsTo] at hfin
         | ok n w' =>
           cases n <;> simp only [stepsTo] at hfin
           case value u => exact hfin
           case skip => exact hfin
           case enter g args => exact hfin.mono fun e w'' ⟨v, he, hk⟩ => by subst he; exact hk
        ·rw [hushL_yielded, hushO_wanted] at hw
         have hq : qOp P l.toArray (C D γ) i (fun a' => a' = a.put o.dst v) a := YieldsIn.qOp ho (.inr ⟨hw, hv⟩) rfl
         refine wpOp_of_qOp hC (fun a' w' hw' ha' => ?_) hq
         subst ha'
         exact ih _ _ D γ w' hs' hγ hall hD' hw'
    | true =>
      have hn : flagAt fn i = false := by cases h : flagAt fn i; rfl; exact absurd ⟨hf, h⟩ (splitK_at hX hil).2
      have hfk : flagAt fk i = true := by rw [(splitK_at hX hil).1, hf]; rfl
      have hgam : ∀ γ', gam fn κ γ' i = γ' i := fun γ' => by unfold gam; rw [hn]; rfl
      obtain ⟨hg0, hrd⟩ := (freeK_at hB hol).2.2.2.1 (by rw [hf]; rfl)
      have hg := hg0 hn
      have hev : ∀ z ∈ o.op.operands.toList, a.eval z = (AA γ).eval z := by
       intro z hz
       refine wpAnyQ_end z (f + 1) up a (fun j oj hj hu d' hd' he => ?_) (H γ hγ (fun _ _ => rfl) D)
       subst he
       rw [hushA_get] at hj
       obtain ⟨oj', hj', rfl⟩ := Option.map_eq_some_iff.1 hj
       rw [hushO_dst] at hd'
       obtain ⟨e, he, hb, hon⟩ := hrd d' hz j oj' (by simpa using hj') hd'
       have h3 := hwait e he hb
       rw [hon] at h3
       have hjlt : j < l.length := by have := (Array.getElem?_eq_some_iff.1 hj').1; simpa using this
       rw [getD_same (by omega) false true, hu] at h3
       cases h3
      have hsel : ∀ cs b, o.op ≠ .select cs b := (freeK_at hB hol).2.2.2.2
      have hex : execOp a.eval o = execOp (AA γ).eval o := execOp_congr o hsel (fun x hx => hev x (by simpa using hx))
      have hstp := freeOk_at 0 fl l (hst γ hγ) i o hol hf D w (by rw [Nat.zero_add]; exact hDi) (fun e2 he2 hb2 hf2 => by
          rw [hD, hf2]; exact hwait e2 (by simpa using he2) hb2) hC
      rw [Nat.zero_add, ← hex] at hstp
      have hwant : Region.wanted o (yielded l.toArray a.tmps) = true := by unfold Region.wanted; rw [hg]
      unfold wpOp
      simp only [ho, hwant, if_true]
      left
      have hgo : ∀ v w', Sh i v ∧ C (setD D i) (setG γ i v) w' → wpAny P .any l.toArray Q f (up.setIfInBounds i true) (a.put o.dst v) w' := by
       intro v w' ⟨hv, hC'⟩
       refine ih _ _ (setD D i) (setG γ i v) w' hs' (fun j hj => ?_) (fun γ' h1 h2 D' => ?_) (fun j => ?_) hC'
       ·unfold setG
        by_cases hji : j = i
        ·subst hji; rw [if_pos rfl]; exact hv
        ·rw [if_neg hji]; exact hγ j hj
       ·have h2' : ∀ j, D j = true → γ j = γ' j := by
          intro j hj
          have hji : j ≠ i := by rintro rfl; rw [hDi] at hj; cases hj
          have := h2 j (by unfold setD; rw [hj]; simp)
          unfold setG at this
          rwa [if_neg hji] at this
        have hvi : v = γ' i := by
         have := h2 i (by simp [setD])
         unfold setG at this
         rwa [if_pos rfl] at this
        obtain ⟨u1, hy1, hk1⟩ := hstep γ' h1 h2' D
        obtain ⟨u2, _, hk2⟩ := hstep γ' h1 h2' D'
        rw [hfk, hgam] at hy1
        have hu : γ' i = u1 := by
         rcases hy1 with ⟨_, q⟩ | ⟨g, _⟩
         ·have q' := q w (hloc D γ γ' w h2' hC)
          unfold Oper.quietAt at q'
          have hrun : (execOp a.eval (hushO true (γ' i) o)).run P w = .ok (.value (γ' i)) w := by unfold execOp hushO; rfl
          rw [hrun] at q'
          exact q'.2
         ·exfalso
          have hgn : (hushO true (γ' i) o).guard = none := hg
          unfold Region.wanted at g; rw [hgn] at g; cases g
        rw [hvi, hu]
        suffices e : a.put o.dst u1 = a.put o.dst u2 by rw [e]; exact hk2
        cases hd : o.dst with
        | none => rfl
        | some d =>
          rw [hd] at hk1 hk2
          exact eval_put_self a d u1 u2 ((wpAnyQ_end _ f _ _ (hendx γ' d hd) hk1).trans (wpAnyQ_end _ f _ _ (hendx γ' d hd) hk2).symm)
       ·unfold setD
        by_cases hij : i = j
        ·subst hij; simp [hf, show i < up.size by omega]
        ·rw [getD_set_ne false hij, hD j]
         simp [Ne.symm hij]
      have hfin := stepsTo_mono hgo hstp
      unfold Oper.wp
      generalize (execOp a.eval o).run P w = r at *
      cases r with
      | halt x w' => simp only [stepsTo] at hfin
      | ok n w' =>
        cases n <;> simp only [stepsTo] at hfin
        case value u => exact hfin
        case skip => exact hfin
        case enter g args => exact hfin.mono fun e w'' ⟨v, he, hk⟩ => by subst he; exact hk
theorem wp_region_known {id : Nat} {Q : Exit → Act → World → Prop} {a : Act} {w : World} {l : List Oper} (fl fn fk : List Bool) (κ : Nat → Value) (Sh : Nat → Value → Prop) (C : (Nat → Bool) → (Nat → Value) → World → Prop)
    (hm : P.follows .mixedOrders = true) (hS : freeK .any fl fn l = true) (hX : splitK fl fn fk l.length = true) (hB : ∀ γ, Region.lexB .any (hushL (gam fn κ γ) 0 fk l).toArray = true)
    (hloc : ∀ D γ γ' w, (∀ i, D i = true → γ i = γ' i) → C D γ w → C D γ' w) (hinh : ∀ i, ∃ v, Sh i v) (hC : ∀ γ, C (fun _ => false) γ w.drew)
    (H : ∀ γ, OkG Sh fl γ → ∃ A : Act, (∀ D, wpQuiet P (hushL (gam fn κ γ) 0 fk l).toArray (C D γ) (fun a' => a' = A) (hushL (gam fn κ γ) 0 fk l) a) ∧ freeOk P C Sh fl A γ 0 fl l ∧ knownOk P C fl κ A γ 0 fn l ∧
     (∀ D w', (∀ i, i < l.length → flagAt fl i = true → D i = true) → C D γ w' → Q .normal A w')) : (Code.region id l.toArray true).wp P Q a w := by
 classical
 refine wp_region_any hm ?_
 obtain ⟨γ0, h0⟩ : ∃ γ0 : Nat → Value, OkG Sh fl γ0 := ⟨fun i => Classical.choose (hinh i), fun i _ => Classical.choose_spec (hinh i)⟩
 let AA : (Nat → Value) → Act := fun γ => if h : OkG Sh fl γ then Classical.choose (H γ h) else a
 have hAA : ∀ γ (h : OkG Sh fl γ), AA γ = Classical.choose (H γ h) := fun γ h => dif_pos h
 have hA : ∀ γ (h : OkG Sh fl γ), (∀ D, wpQuiet P (hushL (gam fn κ γ) 0 fk l).toArray (C D γ) (fun a' => a' = AA γ) (hushL (gam fn κ γ) 0 fk l) a) ∧ freeOk P C Sh fl (AA γ) γ 0 fl l ∧ knownOk P C fl κ (AA γ) γ 0 fn l ∧
     (∀ D w', (∀ i, i < l.length → flagAt fl i = true → D i = true) → C D γ w' → Q .normal (AA γ) w') := fun γ h => by rw [hAA γ h]; exact Classical.choose_spec (H γ h)
 refine free_anyK AA hS hX hloc (fun γ h => (hA γ h).2.1) (fun γ h => (hA γ h).2.2.1) (fun γ h => (hA γ h).2.2.2) _ _ _ (fun _ => false) γ0 _ (by simp) h0 (fun γ' h1 _ D' => ?_) (fun i => ?_) (hC γ0)
 ·have hlex := hB γ'
  simp only [Region.lexB, Bool.and_eq_true] at hlex
  have := wpAnyQ_lex (C := C D' γ') (md := .any) hlex.1 (hushL (gam fn κ γ') 0 fk l) 0 (Array.replicate l.toArray.size false) a (by simp) (by simpa [hushL_length] using hlex.2) ((hA γ' h1).1 D')
  simpa [hushL_length] using this
 ·have : (Array.replicate l.toArray.size false).getD i false = false := by
    rcases Nat.lt_or_ge i l.length with h' | h'
    ·simp [h']
    ·simp [h']
  rw [this]; simp
end
end Go.Proofs.YtodmponjjhokdaaGreat.Mx

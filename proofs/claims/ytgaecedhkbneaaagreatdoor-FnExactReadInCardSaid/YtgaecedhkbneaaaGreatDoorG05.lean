import Derived.Test.YtgaecedhkbneaaaGreatDoorG04
import Derived.Test.YtgaecedhkbneaaaGreatDoorG03
import Derived.Deep.WholeRow
import Derived.Deep.MidRow
namespace Go.Proofs.YtgaecedhkbneaaaGreatDoor.Mx
open Go.RowKit
set_option linter.unusedVariables false
def hushL (γ : Nat → Value) : Nat → List Bool → List Oper → List Oper
  | _, [], l => l
  | _, _ :: _, [] => []
  | k, b :: fl, o :: l => (bif b then { o with op := .assign (.const (γ k)) } else o) :: hushL γ (k + 1) fl l
def plainOp : Op → Bool
  | .move _ | .assign _ | .pick _ _ _ | .build _ _ | .load _ _ | .binOp _ _ _ _ _ | .unOp _ _ _ | .convert _ _ _ | .makeInterface _ _ | .fieldAddr _ _ _ | .field _ _ _ | .indexAddr _ _ _ | .index _ _ _ | .extract _ _ | .makeFunc _ _ _ | .lookup _ _ _ _ | .slice _ _ _ _ _ | .store _ _ _ => true
  | _ => false
def flagAt (fl : List Bool) (i : Nat) : Bool := fl.getD i false
def freeB (md : Region.Mode) (fl : List Bool) (l : List Oper) : Bool :=
  (List.range l.length).all fun i => match l[i]? with
    | none => true
    | some o => (match o.op with | .select _ _ => false | _ => true) && o.after.all (fun e => !Region.binds md e || decide (e.on < i)) &&
      (List.range l.length).all (fun j => j == i || match l[j]? with | some oj => o.dst.isNone || o.dst != oj.dst | none => true) &&
      (bif flagAt fl i then o.guard.isNone && o.op.operands.toList.all fun x => match x with
        | .tmp t => (List.range l.length).all fun j => match l[j]? with | some oj => oj.dst != some t || o.after.any (fun e => Region.binds md e && e.on == j) | none => true
        | _ => true
      else plainOp o.op)
def stepsTo (P : Program) (r : Result Next) (K : Value → World → Prop) : Prop :=
  match r with
  | .ok (.value u) w' => K u w'
  | .ok .skip w' => K undef w'
  | .ok (.enter f args) w' => Calls P f args w' fun e w'' => ∃ v, e = .returned v ∧ K v w''
  | _ => False
theorem stepsTo_mono {P : Program} {r : Result Next} {K K' : Value → World → Prop} (h : ∀ v w, K v w → K' v w) (hh : stepsTo P r K) : stepsTo P r K' := by
  unfold stepsTo at *
  split
  · exact h _ _ hh
  · exact h _ _ hh
  · exact Calls.mono hh fun e w' ⟨v, he, hk⟩ => ⟨v, he, h _ _ hk⟩
  · rename_i h1 h2 h3
    split at hh
    · exact absurd rfl (h1 _ _)
    · exact absurd rfl (h2 _)
    · exact absurd rfl (h3 _ _ _)
    · exact hh
def setD (D : Nat → Bool) (i : Nat) : Nat → Bool := fun k => k == i || D k
def setG (γ : Nat → Value) (i : Nat) (v : Value) : Nat → Value := fun k => if k = i then v else γ k
def depsUp (md : Region.Mode) (fl : List Bool) (o : Oper) (D : Nat → Bool) : Prop := ∀ e ∈ o.after.toList, Region.binds md e = true → flagAt fl e.on = true → D e.on = true
def freeOk (P : Program) (C : (Nat → Bool) → (Nat → Value) → World → Prop) (Sh : Nat → Value → Prop) (fl0 : List Bool) (A : Act) (γ : Nat → Value) : Nat → List Bool → List Oper → Prop
  | _, [], _ => True
  | _, _ :: _, [] => True
  | k, false :: fl, _ :: l => freeOk P C Sh fl0 A γ (k + 1) fl l
  | k, true :: fl, o :: l => (∀ D w, D k = false → depsUp .any fl0 o D → C D γ w → stepsTo P ((execOp A.eval o).run P w) (fun v w' => Sh k v ∧ C (setD D k) (setG γ k v) w')) ∧ freeOk P C Sh fl0 A γ (k + 1) fl l
section
variable {P : Program} {C : (Nat → Bool) → (Nat → Value) → World → Prop} {Sh : Nat → Value → Prop} {fl fl0 : List Bool} {l : List Oper} {γ : Nat → Value} {A : Act}
def hushO (b : Bool) (v : Value) (o : Oper) : Oper := bif b then { o with op := .assign (.const v) } else o
theorem hushO_dst (b : Bool) (v : Value) (o : Oper) : (hushO b v o).dst = o.dst := by cases b <;> rfl
theorem hushO_after (b : Bool) (v : Value) (o : Oper) : (hushO b v o).after = o.after := by cases b <;> rfl
theorem hushL_get (γ : Nat → Value) : ∀ (k : Nat) (fl : List Bool) (l : List Oper) (i : Nat), (hushL γ k fl l)[i]? = (l[i]?).map (hushO (flagAt fl i) (γ (k + i)))
  | k, [], l, i => by
    rw [show hushL γ k [] l = l by cases l <;> rfl]
    have : flagAt [] i = false := rfl
    rw [this]
    cases l[i]? <;> rfl
  | k, b :: fl, [], i => by simp [hushL]
  | k, b :: fl, o :: l, i => by
    cases i with
    | zero => simp [hushL, flagAt, hushO]
    | succ i =>
      rw [hushL, List.getElem?_cons_succ, List.getElem?_cons_succ, hushL_get γ (k + 1) fl l i, show k + 1 + i = k + (i + 1) by omega]
      rfl
theorem hushL_length (γ : Nat → Value) : ∀ (k : Nat) (fl : List Bool) (l : List Oper), (hushL γ k fl l).length = l.length
  | k, [], l => by rw [show hushL γ k [] l = l by cases l <;> rfl]
  | k, b :: fl, [] => rfl
  | k, b :: fl, o :: l => by rw [hushL, List.length_cons, List.length_cons, hushL_length γ (k + 1) fl l]
theorem hushA_get (γ : Nat → Value) (fl : List Bool) (l : List Oper) (i : Nat) : (hushL γ 0 fl l).toArray[i]? = (l.toArray[i]?).map (hushO (flagAt fl i) (γ i)) := by
  have := hushL_get γ 0 fl l i
  rw [Nat.zero_add] at this
  simpa using this
theorem hushL_ready (md : Region.Mode) (up : Array Bool) : Region.ready md (hushL γ 0 fl l).toArray up = Region.ready md l.toArray up := by
  unfold Region.ready
  simp only [List.size_toArray, hushL_length]
  congr 1
  funext i
  rw [hushA_get]
  cases l.toArray[i]? with
  | none => rfl
  | some o => simp only [Option.map_some, Option.getD_some, hushO_after]
theorem hushL_yielded (ts : Array Value) : yielded (hushL γ 0 fl l).toArray ts = yielded l.toArray ts := by
  funext j
  unfold yielded
  rw [hushA_get]
  cases l.toArray[j]? with
  | none => rfl
  | some o => simp only [Option.map_some, Option.bind_some, hushO_dst]
theorem freeB_at {md : Region.Mode} (h : freeB md fl l = true) {i : Nat} {o : Oper} (hi : l[i]? = some o) :
    (∀ e ∈ o.after, Region.binds md e = true → e.on < i) ∧ (∀ j oj d, l[j]? = some oj → j ≠ i → o.dst = some d → oj.dst ≠ some d) ∧
    (flagAt fl i = false → plainOp o.op = true) ∧
    (flagAt fl i = true → o.guard = none ∧ ∀ t, .tmp t ∈ o.op.operands.toList → ∀ j oj, l[j]? = some oj → oj.dst = some t → ∃ e ∈ o.after, Region.binds md e = true ∧ e.on = j) ∧
    (∀ cs b, o.op ≠ .select cs b) := by
  unfold freeB at h
  rw [List.all_eq_true] at h
  have hlt : i < l.length := (List.getElem?_eq_some_iff.1 hi).1
  have h1 := h i (List.mem_range.2 hlt)
  simp only [hi, Bool.and_eq_true] at h1
  obtain ⟨⟨⟨hns, ha⟩, hd⟩, hs⟩ := h1
  refine ⟨fun e he hb => ?_, fun j oj d hj hne hod hoj => ?_, fun hf => ?_, fun hf => ?_, fun cs b he => by rw [he] at hns; cases hns⟩
  · have := Array.all_eq_true_iff_forall_mem.1 ha e he
    simpa [hb] using this
  · rw [List.all_eq_true] at hd
    have := hd j (List.mem_range.2 (List.getElem?_eq_some_iff.1 hj).1)
    simp [hj, hne, hod, hoj] at this
  · rw [hf] at hs; exact hs
  · rw [hf] at hs
    simp only [cond_true, Bool.and_eq_true] at hs
    refine ⟨by simpa using hs.1, fun t ht j oj hj hd2 => ?_⟩
    have h3 := List.all_eq_true.1 hs.2 _ ht
    simp only [List.all_eq_true] at h3
    have h4 := h3 j (List.mem_range.2 (List.getElem?_eq_some_iff.1 hj).1)
    simp only [hj, hd2, bne_self_eq_false, Bool.false_or] at h4
    obtain ⟨e, he, hb⟩ := Array.any_eq_true'.1 h4
    simp only [Bool.and_eq_true, beq_iff_eq] at hb
    exact ⟨e, he, hb.1, hb.2⟩
theorem all_up' {md : Region.Mode} (h : freeB md fl l = true) {up : Array Bool} (hs : up.size = l.length) (h0 : Region.ready md l.toArray up = []) : ∀ i, i < l.length → up.getD i true = true := by
  intro i
  induction i using Nat.strongRecOn with
  | _ i ih =>
    intro hi
    cases hu : up.getD i true with
    | true => rfl
    | false =>
      exfalso
      obtain ⟨o, ho⟩ : ∃ o, l[i]? = some o := ⟨_, List.getElem?_eq_getElem hi⟩
      have : i ∈ Region.ready md l.toArray up := by
        refine mem_ready.2 ⟨hu, o, by simpa using ho, fun e he hb => ?_⟩
        have hlt := (freeB_at h ho).1 e he hb
        rw [getD_same (by omega) false true]
        exact ih _ hlt (by omega)
      rw [h0] at this
      cases this
theorem seq_no_enter {s : Sem Value} {w w' : World} {f : FuncId} {args : Array Value} : ((do pure (Next.value (← s))) : Sem Next).run P w ≠ .ok (.enter f args) w' := by
  simp only [Sem.run_bind]
  cases s.run P w with
  | ok x w1 => simp [Result.andThen]
  | halt x w1 => simp [Result.andThen]
theorem seqU_no_enter {s : Sem Unit} {w w' : World} {f : FuncId} {args : Array Value} : ((do s; pure Next.skip) : Sem Next).run P w ≠ .ok (.enter f args) w' := by
  simp only [Sem.run_bind]
  cases s.run P w with
  | ok x w1 => simp [Result.andThen]
  | halt x w1 => simp [Result.andThen]
theorem plain_no_enter {ρ : Operand → Value} {o : Oper} {w w' : World} {f : FuncId} {args : Array Value} (h : plainOp o.op = true) : (execOp ρ o).run P w ≠ .ok (.enter f args) w' := by
  unfold execOp
  generalize o.op = op at *
  cases op
  all_goals first
    | (exfalso; simp only [plainOp] at h; cases h; done)
    | exact seq_no_enter
    | exact seqU_no_enter
    | (simp; done)
    | (rename_i c x y; simp only [Sem.run_bind]; cases (asBool (ρ c)).run P w <;> simp [Result.andThen])
theorem plain_same {C1 C2 : World → Prop} {o : Oper} {a : Act} {v1 v2 : Value} {w : World} (h : plainOp o.op = true) (h1 : o.quietAt P a C1 w v1) (h2 : o.quietAt P a C2 w v2) : v1 = v2 := by
  unfold Oper.quietAt at h1 h2
  have hne := fun w' f args => plain_no_enter (P := P) (ρ := a.eval) (o := o) (w := w) (w' := w') (f := f) (args := args) h
  generalize (execOp a.eval o).run P w = r at *
  cases r with
  | halt x w' => simp only [Oper.quietUpon] at h1
  | ok n w' =>
    cases n <;> simp only [Oper.quietUpon] at h1 h2
    case value u => exact h1.2.symm.trans h2.2
    case skip => exact h1.2.trans h2.2.symm
    case enter f args => exact absurd rfl (hne w' f args)
theorem YieldsIn.same {ops1 ops2 : Array Oper} {C1 C2 : World → Prop} {o : Oper} {a : Act} {v1 v2 : Value} {w : World} (hp : plainOp o.op = true) (hy : yielded ops1 a.tmps = yielded ops2 a.tmps) (w1 : C1 w) (w2 : C2 w)
    (h1 : YieldsIn P ops1 C1 o v1 a) (h2 : YieldsIn P ops2 C2 o v2 a) : v1 = v2 := by
  rcases h1 with ⟨g1, q1⟩ | ⟨g1, e1⟩ <;> rcases h2 with ⟨g2, q2⟩ | ⟨g2, e2⟩
  · exact plain_same hp (q1 w w1) (q2 w w2)
  · rw [hy, g2] at g1; cases g1
  · rw [hy, g2] at g1; cases g1
  · rw [e1, e2]
def OkG (Sh : Nat → Value → Prop) (fl : List Bool) (γ : Nat → Value) : Prop := ∀ i, flagAt fl i = true → Sh i (γ i)
theorem freeOk_at (k : Nat) : ∀ (fl : List Bool) (l : List Oper), freeOk P C Sh fl0 A γ k fl l → ∀ i o, l[i]? = some o → flagAt fl i = true →
    ∀ D w, D (k + i) = false → depsUp .any fl0 o D → C D γ w → stepsTo P ((execOp A.eval o).run P w) (fun v w' => Sh (k + i) v ∧ C (setD D (k + i)) (setG γ (k + i) v) w') := by
  intro fl
  induction fl generalizing k with
  | nil => intro l _ i o _ hf; cases hf
  | cons b fl ih =>
    intro l h i o hi hf
    cases l with
    | nil => cases hi
    | cons o' l =>
      cases i with
      | zero =>
        have : b = true := hf
        subst this
        simp only [List.getElem?_cons_zero, Option.some.injEq] at hi
        subst hi
        exact h.1
      | succ i =>
        have h' : freeOk P C Sh fl0 A γ (k + 1) fl l := by cases b; exact h; exact h.2
        rw [show k + (i + 1) = k + 1 + i by omega]
        exact ih (k + 1) l h' i o (by simpa using hi) hf
theorem free_any {Q : Exit → Act → World → Prop} (AA : (Nat → Value) → Act) (hB : freeB .any fl l = true)
    (hloc : ∀ D γ γ' w, (∀ i, D i = true → γ i = γ' i) → C D γ w → C D γ' w)
    (hst : ∀ γ, OkG Sh fl γ → freeOk P C Sh fl (AA γ) γ 0 fl l)
    (hQ : ∀ γ, OkG Sh fl γ → ∀ D w', (∀ i, i < l.length → flagAt fl i = true → D i = true) → C D γ w' → Q .normal (AA γ) w') (fuel : Nat) :
    ∀ (up : Array Bool) (a : Act) (D : Nat → Bool) (γ : Nat → Value) (w : World), up.size = l.length → OkG Sh fl γ →
      (∀ γ', OkG Sh fl γ' → (∀ i, D i = true → γ i = γ' i) → ∀ D', wpAnyQ P .any (hushL γ' 0 fl l).toArray (C D' γ') (fun a' => a' = AA γ') fuel up a) →
      (∀ i, D i = (flagAt fl i && up.getD i false)) → C D γ w → wpAny P .any l.toArray Q fuel up a w := by
  have fin : ∀ (up : Array Bool) (D : Nat → Bool) (γ : Nat → Value) (w : World), up.size = l.length → OkG Sh fl γ → (∀ i, D i = (flagAt fl i && up.getD i false)) → C D γ w →
      Region.ready .any l.toArray up = [] → Q .normal (AA γ) w := by
    intro up D γ w hs hγ hD hC h0
    refine hQ γ hγ D w (fun i hi hf => ?_) hC
    rw [hD i, hf, getD_same (by omega) false true, all_up' hB hs h0 i hi]
    rfl
  induction fuel with
  | zero =>
    intro up a D γ w hs hγ H hD hC
    have h := H γ hγ (fun _ _ => rfl) D
    have hr : Region.ready .any l.toArray up = [] := by rw [← hushL_ready (γ := γ) (fl := fl)]; exact h.1
    refine ⟨hr, ?_⟩
    rw [h.2]
    exact fin up D γ w hs hγ hD hC hr
  | succ f ih =>
    intro up a D γ w hs hγ H hD hC
    refine ⟨fun h0 => ?_, fun i hi => ?_⟩
    · rw [(H γ hγ (fun _ _ => rfl) D).1 (by rw [hushL_ready]; exact h0)]
      exact fin up D γ w hs hγ hD hC h0
    · obtain ⟨hun, o, ho, hwait⟩ := mem_ready.1 hi
      have hol : l[i]? = some o := by simpa using ho
      have hil : i < l.length := (List.getElem?_eq_some_iff.1 hol).1
      have hs' : (up.setIfInBounds i true).size = l.length := by simpa using hs
      have hDi : D i = false := by
        rw [hD i, getD_same (by omega) false true, hun]; simp
      have hget : ∀ γ' : Nat → Value, (hushL γ' 0 fl l).toArray[i]? = some (hushO (flagAt fl i) (γ' i) o) := fun γ' => by rw [hushA_get, ho]; rfl
      -- each takes the same step
      have hstep : ∀ γ', OkG Sh fl γ' → (∀ i, D i = true → γ i = γ' i) → ∀ D', ∃ v, YieldsIn P (hushL γ' 0 fl l).toArray (C D' γ') (hushO (flagAt fl i) (γ' i) o) v a ∧
          wpAnyQ P .any (hushL γ' 0 fl l).toArray (C D' γ') (fun a' => a' = AA γ') f (up.setIfInBounds i true) (a.put o.dst v) := by
        intro γ' h1 h2 D'
        obtain ⟨v, hy, hk⟩ := yieldsIn_of_qOp (hget γ') ((H γ' h1 h2 D').2 i (by rw [hushL_ready]; exact hi))
        rw [hushO_dst] at hk
        exact ⟨v, hy, hk⟩
      have hendx : ∀ γ' d, o.dst = some d → ∀ j oj, (hushL γ' 0 fl l).toArray[j]? = some oj → (up.setIfInBounds i true).getD j true = false → ∀ d', oj.dst = some d' → Operand.tmp d ≠ .tmp d' := by
        intro γ' d hd j oj hj hu d' hd' he
        injection he with he
        subst he
        rw [hushA_get] at hj
        obtain ⟨oj', hj', rfl⟩ := Option.map_eq_some_iff.1 hj
        rw [hushO_dst] at hd'
        have hji : j ≠ i := by
          rintro rfl
          have : (up.setIfInBounds j true).getD j true = true := by simp [show j < up.size by omega]
          rw [this] at hu; cases hu
        exact (freeB_at hB hol).2.1 j oj' d (by simpa using hj') hji hd hd'
      cases hf : flagAt fl i with
      | false =>
        have hp : plainOp o.op = true := (freeB_at hB hol).2.2.1 hf
        have hsame : ∀ v, hushO (flagAt fl i) v o = o := fun v => by rw [hf]; rfl
        obtain ⟨v, hy, hk⟩ := hstep γ hγ (fun _ _ => rfl) D
        rw [hsame] at hy
        have hall : ∀ γ', OkG Sh fl γ' → (∀ i, D i = true → γ i = γ' i) → ∀ D', wpAnyQ P .any (hushL γ' 0 fl l).toArray (C D' γ') (fun a' => a' = AA γ') f (up.setIfInBounds i true) (a.put o.dst v) := by
          intro γ' h1 h2 D'
          obtain ⟨v1, hy1, hk1⟩ := hstep γ' h1 h2 D
          obtain ⟨v2, _, hk2⟩ := hstep γ' h1 h2 D'
          rw [hsame] at hy1
          have e1 : v = v1 := YieldsIn.same hp ((hushL_yielded _).trans (hushL_yielded _).symm) hC (hloc D γ γ' w h2 hC) hy hy1
          subst e1
          suffices e : a.put o.dst v = a.put o.dst v2 by rw [e]; exact hk2
          cases hd : o.dst with
          | none => rfl
          | some d =>
            rw [hd] at hk1 hk2
            exact eval_put_self a d v v2 ((wpAnyQ_end _ f _ _ (hendx γ' d hd) hk1).trans (wpAnyQ_end _ f _ _ (hendx γ' d hd) hk2).symm)
        have hq : qOp P l.toArray (C D γ) i (fun a' => a' = a.put o.dst v) a := by
          refine YieldsIn.qOp ho ?_ rfl
          rcases hy with ⟨hw, hv⟩ | ⟨hw, hv⟩
          · left; rw [hushL_yielded] at hw; exact ⟨hw, hv⟩
          · right; rw [hushL_yielded] at hw; exact ⟨hw, hv⟩
        refine wpOp_of_qOp hC (fun a' w' hw' ha' => ?_) hq
        subst ha'
        refine ih _ _ D γ w' hs' hγ hall (fun j => ?_) hw'
        rw [hD j]
        by_cases hij : i = j
        · subst hij; rw [hf]; simp
        · rw [getD_set_ne false hij]
      | true =>
        obtain ⟨hg, hrd⟩ := (freeB_at hB hol).2.2.2.1 hf
        have hev : ∀ z ∈ o.op.operands.toList, a.eval z = (AA γ).eval z := by
          intro z hz
          refine wpAnyQ_end z (f + 1) up a (fun j oj hj hu d' hd' he => ?_) (H γ hγ (fun _ _ => rfl) D)
          subst he
          rw [hushA_get] at hj
          obtain ⟨oj', hj', rfl⟩ := Option.map_eq_some_iff.1 hj
          rw [hushO_dst] at hd'
          obtain ⟨e, he, hb, hon⟩ := hrd d' hz j oj' (by simpa using hj') hd'
          have h3 := hwait e he hb
          rw [hon] at h3
          have hjlt : j < l.length := by have := (Array.getElem?_eq_some_iff.1 hj').1; simpa using this
          rw [getD_same (by omega) false true, hu] at h3
          cases h3
        have hsel : ∀ cs b, o.op ≠ .select cs b := (freeB_at hB hol).2.2.2.2
        have hex : execOp a.eval o = execOp (AA γ).eval o := execOp_congr o hsel (fun x hx => hev x (by simpa using hx))
        have hstp := freeOk_at 0 fl l (hst γ hγ) i o hol hf D w (by rw [Nat.zero_add]; exact hDi) (fun e2 he2 hb2 hf2 => by
            rw [hD, hf2]; exact hwait e2 (by simpa using he2) hb2) hC
        rw [Nat.zero_add, ← hex] at hstp
        have hwant : Region.wanted o (yielded l.toArray a.tmps) = true := by unfold Region.wanted; rw [hg]
        unfold wpOp
        simp only [ho, hwant, if_true]
        left
        have hgo : ∀ v w', Sh i v ∧ C (setD D i) (setG γ i v) w' → wpAny P .any l.toArray Q f (up.setIfInBounds i true) (a.put o.dst v) w' := by
          intro v w' ⟨hv, hC'⟩
          refine ih _ _ (setD D i) (setG γ i v) w' hs' (fun j hj => ?_) (fun γ' h1 h2 D' => ?_) (fun j => ?_) hC'
          · unfold setG
            by_cases hji : j = i
            · subst hji; rw [if_pos rfl]; exact hv
            · rw [if_neg hji]; exact hγ j hj
          · have h2' : ∀ j, D j = true → γ j = γ' j := by
              intro j hj
              have hji : j ≠ i := by rintro rfl; rw [hDi] at hj; cases hj
              have := h2 j (by unfold setD; rw [hj]; simp)
              unfold setG at this
              rwa [if_neg hji] at this
            have hvi : v = γ' i := by
              have := h2 i (by simp [setD])
              unfold setG at this
              rwa [if_pos rfl] at this
            obtain ⟨u1, hy1, hk1⟩ := hstep γ' h1 h2' D
            obtain ⟨u2, _, hk2⟩ := hstep γ' h1 h2' D'
            rw [hf] at hy1
            have hu : γ' i = u1 := by
              rcases hy1 with ⟨_, q⟩ | ⟨g, _⟩
              · have q' := q w (hloc D γ γ' w h2' hC)
                unfold Oper.quietAt at q'
                have hrun : (execOp a.eval (hushO true (γ' i) o)).run P w = .ok (.value (γ' i)) w := by unfold execOp hushO; rfl
                rw [hrun] at q'
                exact q'.2
              · exfalso
                have hgn : (hushO true (γ' i) o).guard = none := hg
                unfold Region.wanted at g; rw [hgn] at g; cases g
            rw [hvi, hu]
            suffices e : a.put o.dst u1 = a.put o.dst u2 by rw [e]; exact hk2
            cases hd : o.dst with
            | none => rfl
            | some d =>
              rw [hd] at hk1 hk2
              exact eval_put_self a d u1 u2 ((wpAnyQ_end _ f _ _ (hendx γ' d hd) hk1).trans (wpAnyQ_end _ f _ _ (hendx γ' d hd) hk2).symm)
          · unfold setD
            by_cases hij : i = j
            · subst hij; simp [hf, show i < up.size by omega]
            · rw [getD_set_ne false hij, hD j]
              simp [Ne.symm hij]
        have hfin := stepsTo_mono hgo hstp
        unfold Oper.wp
        generalize (execOp a.eval o).run P w = r at *
        cases r with
        | halt x w' => simp only [stepsTo] at hfin
        | ok n w' =>
          cases n <;> simp only [stepsTo] at hfin
          case value u => exact hfin
          case skip => exact hfin
          case enter g args => exact hfin.mono fun e w'' ⟨v, he, hk⟩ => by subst he; exact hk
theorem wp_region_free {id : Nat} {Q : Exit → Act → World → Prop} {a : Act} {w : World} {l : List Oper} (fl : List Bool) (Sh : Nat → Value → Prop) (C : (Nat → Bool) → (Nat → Value) → World → Prop)
    (hm : P.follows .mixedOrders = true) (hS : freeB .any fl l = true) (hB : ∀ γ, Region.lexB .any (hushL γ 0 fl l).toArray = true)
    (hloc : ∀ D γ γ' w, (∀ i, D i = true → γ i = γ' i) → C D γ w → C D γ' w) (hinh : ∀ i, ∃ v, Sh i v) (hC : ∀ γ, C (fun _ => false) γ w.drew)
    (H : ∀ γ, OkG Sh fl γ → ∃ A : Act, (∀ D, wpQuiet P (hushL γ 0 fl l).toArray (C D γ) (fun a' => a' = A) (hushL γ 0 fl l) a) ∧ freeOk P C Sh fl A γ 0 fl l ∧
      (∀ D w', (∀ i, i < l.length → flagAt fl i = true → D i = true) → C D γ w' → Q .normal A w')) : (Code.region id l.toArray true).wp P Q a w := by
  classical
  refine wp_region_any hm ?_
  obtain ⟨γ0, h0⟩ : ∃ γ0 : Nat → Value, OkG Sh fl γ0 := ⟨fun i => Classical.choose (hinh i), fun i _ => Classical.choose_spec (hinh i)⟩
  let AA : (Nat → Value) → Act := fun γ => if h : OkG Sh fl γ then Classical.choose (H γ h) else a
  have hAA : ∀ γ (h : OkG Sh fl γ), AA γ = Classical.choose (H γ h) := fun γ h => dif_pos h
  have hA : ∀ γ (h : OkG Sh fl γ), (∀ D, wpQuiet P (hushL γ 0 fl l).toArray (C D γ) (fun a' => a' = AA γ) (hushL γ 0 fl l) a) ∧ freeOk P C Sh fl (AA γ) γ 0 fl l ∧
      (∀ D w', (∀ i, i < l.length → flagAt fl i = true → D i = true) → C D γ w' → Q .normal (AA γ) w') := fun γ h => by rw [hAA γ h]; exact Classical.choose_spec (H γ h)
  refine free_any AA hS hloc (fun γ h => (hA γ h).2.1) (fun γ h => (hA γ h).2.2) _ _ _ (fun _ => false) γ0 _ (by simp) h0 (fun γ' h1 _ D' => ?_) (fun i => ?_) (hC γ0)
  · have hlex := hB γ'
    simp only [Region.lexB, Bool.and_eq_true] at hlex
    have := wpAnyQ_lex (C := C D' γ') (md := .any) hlex.1 (hushL γ' 0 fl l) 0 (Array.replicate l.toArray.size false) a (by simp) (by simpa [hushL_length] using hlex.2) ((hA γ' h1).1 D')
    simpa [hushL_length] using this
  · have : (Array.replicate l.toArray.size false).getD i false = false := by
      rcases Nat.lt_or_ge i l.length with h' | h'
      · simp [h']
      · simp [h']
    rw [this]; simp
end
theorem Kept.put1 {b w : World} {L : List Box} (h : Kept b L w) (g : Nat) (t : TypeId) (cs : Array Value) (hg : w.heap.size = g) : Kept b ((g, t, cs) :: L) (w.alloc (.cells cs t)) := by
  subst hg; exact h.new t cs
def Rd (w : World) : List Box → Prop
  | [] => True
  | x :: L => (∀ i, w.cell? ⟨x.1, i, none⟩ = x.2.2[i]?) ∧ (∀ i, w.frozen? ⟨x.1, i, none⟩ = false) ∧ Rd w L
theorem Rd.of : ∀ {L : List Box} {w : World}, (∀ x ∈ L, CellsAt w x.1 x.2.1 x.2.2) → Rd w L
  | [], _, _ => trivial
  | x :: L, w, h => ⟨fun i => (h x (List.mem_cons_self ..)).cell i, fun i => (h x (List.mem_cons_self ..)).frozen i, Rd.of fun y hy => h y (List.mem_cons_of_mem _ hy)⟩
theorem Kept.rd {b w : World} {L : List Box} (h : Kept b L w) : Rd w L := Rd.of fun x hx => (h.2 x hx).2
def putBox (L : List Box) (k : Nat) (cs : Array Value) : List Box := L.modify k fun x => (x.1, x.2.1, cs)
def Apart (L : List Box) : Prop := (L.map (·.1)).Nodup
theorem Kept.put {b w w' : World} {L : List Box} {k p : Nat} {t : TypeId} {cs cs' : Array Value} (h : Kept b L w) (hk : L[k]? = some (p, t, cs)) (ha : Apart L) (hg : w.grownBy w' (some p)) (hc : CellsAt w' p t cs') : Kept b (putBox L k cs') w' := by
  have hm : (p, t, cs) ∈ L := List.mem_of_getElem? hk
  have hp : b.heap.size ≤ p := (h.2 _ hm).1
  refine ⟨bgb h.1 hg h.1.size hp, fun x hx => ?_⟩
  unfold putBox at hx
  obtain ⟨j, hj⟩ := List.mem_iff_getElem?.1 hx
  rw [List.getElem?_modify] at hj
  by_cases hkj : k = j
  · subst hkj
    rw [hk] at hj
    simp only [if_true, Option.map_eq_map, Option.map_some, Option.some.injEq] at hj
    subst hj
    exact ⟨hp, hc⟩
  · simp only [hkj, if_false, Option.map_eq_map, Option.map_id_fun', id_eq] at hj
    have hxm := List.mem_of_getElem? hj
    refine ⟨(h.2 x hxm).1, (h.2 x hxm).2.grown hg ?_⟩
    intro e
    injection e with e
    unfold Apart at ha
    have h1 : (L.map (·.1))[j]? = some x.1 := by rw [List.getElem?_map, hj]; rfl
    have h2 : (L.map (·.1))[k]? = some p := by rw [List.getElem?_map, hk]; rfl
    rw [← e] at h2
    have hjl : j < (L.map (·.1)).length := (List.getElem?_eq_some_iff.1 h1).1
    exact hkj ((List.getElem?_inj hjl ha).1 (h1.trans h2.symm)).symm
theorem store_whole {P : Program} {w : World} {p : Nat} {t : TypeId} {cs cs' : Array Value} (hc : CellsAt w p t cs) (hi : (P.info? t).map (·.size) = some cs'.size) (hs : cs.size = cs'.size) (h1 : cs'.all (·.oneCell') = true) :
    ∃ w', (Instr.storeAt t (.pointer (some ⟨p, 0, none⟩)) (.agg cs')).run P w = .ok () w' ∧ CellsAt w' p t cs' ∧ w.grownBy w' (some p) := by
  refine ⟨w.setRow p cs', ?_, setRow_heap w p cs cs' t (0, 0) hc, ⟨rfl, rfl, rfl, Nat.le_of_eq (setRow_size w p cs').symm, fun k _ hk => setRow_other w p k cs' (fun e => hk (by rw [e]))⟩⟩
  simp only [Instr.storeAt, Instr.sureAddr, Sem.run_bind, Sem.run_pure, Result.andThen_ok]
  exact run_storeVar_row _ _ t t cs cs' hc hi hs h1
def entersB (P : Program) (f : FuncId) : Bool := match P.funcs[f]? with | some fn => !(fn.name == "runtime.NumGoroutine") && fn.body.isSome | none => false
theorem enter_run {P : Program} {f : FuncId} {args : Array Value} {w : World} (h : entersB P f = true) : (callFunc f args).run P w = .ok (.enter f args) w := by
  unfold entersB at h
  split at h
  · rename_i fn hf
    simp only [Bool.and_eq_true, Bool.not_eq_true'] at h
    have hb : ¬ fn.body = none := fun e => by rw [e] at h; exact absurd h.2 (by simp)
    have hn : ¬ fn.name = "runtime.NumGoroutine" := by simpa using h.1
    simp [callFunc, go_sem, hf]
    rw [if_neg hn, if_neg hb]
  · cases h
theorem steps_call {P : Program} {ρ : Operand → Value} {o : Oper} {c : Call} {f : FuncId} {args : Array Value} {w : World} {K : Value → World → Prop} (h : Calls P f args w fun e w' => ∃ v, e = .returned v ∧ K v w')
    (hop : o.op = .call c) (hcal : c.callee = .value (.func f)) (hf : ρ (.func f) = .func (.func f) #[] #[]) (hargs : c.args.toList.map ρ = args.toList) (he : entersB P f = true) : stepsTo P ((execOp ρ o).run P w) K := by
  have e : (execOp ρ o).run P w = .ok (.enter f args) w := by
    have ha : c.args.map ρ = args := by
      apply Array.toList_inj.1
      rw [Array.toList_map]; exact hargs
    unfold execOp
    rw [hop]
    simp only [resolve, hcal, hf, Deferred.ofValue, Sem.run_bind, Sem.run_pure, Result.andThen_ok, invoke, ha]
    simpa using enter_run (w := w) (args := args) he
  rw [e]
  exact h
theorem steps_store {P : Program} {ρ : Operand → Value} {o : Oper} {t : TypeId} {x y : Operand} {w : World} {K : Value → World → Prop} {p : Nat} {cs cs' : Array Value}
    (hc : CellsAt w p t cs) (hop : o.op = .store t x y) (hx : ρ x = .pointer (some ⟨p, 0, none⟩)) (hy : ρ y = .agg cs') (hi : (P.info? t).map (·.size) = some cs'.size) (hs : cs.size = cs'.size) (h1 : cs'.all (·.oneCell') = true)
    (h : ∀ w', CellsAt w' p t cs' → w.grownBy w' (some p) → K undef w') : stepsTo P ((execOp ρ o).run P w) K := by
  obtain ⟨w', e, hc', hg⟩ := store_whole hc hi hs h1
  have e2 : (execOp ρ o).run P w = .ok .skip w' := by
    unfold execOp
    rw [hop]
    simp only [hx, hy, Sem.run_bind, e, Result.andThen_ok, Sem.run_pure]
  rw [e2]
  exact h w' hc' hg
def ShV (vs : List (Nat × Value)) : Nat → Value → Prop := fun i v => v = (vs.lookup i).getD undef
theorem ShV.inh (vs : List (Nat × Value)) (i : Nat) : ∃ v, ShV vs i v := ⟨_, rfl⟩
abbrev Res := Nat × Nat × TypeId × Array Value
def ResC (b : World) (L : List Box) (RS : List Res) (D : Nat → Bool) (u : World) : Prop :=
  Kept b L u ∧ ∀ x ∈ RS, b.heap.size ≤ x.2.1 ∧ (∀ y ∈ L, y.1 ≠ x.2.1) ∧ ∃ z, CellsAt u x.2.1 x.2.2.1 z ∧ z.size = x.2.2.2.size ∧ (D x.1 = true → z = x.2.2.2)
namespace ResC
variable {b u v : World} {L : List Box} {RS : List Res} {D : Nat → Bool} {k p : Nat} {t : TypeId} {V : Array Value}
theorem start (h : Kept b L u) (hr : ∀ x ∈ RS, b.heap.size ≤ x.2.1 ∧ (∀ y ∈ L, y.1 ≠ x.2.1) ∧ ∃ z, CellsAt u x.2.1 x.2.2.1 z ∧ z.size = x.2.2.2.size) : ResC b L RS (fun _ => false) u.drew :=
  ⟨h.drew, fun x hx => by obtain ⟨h1, h2, z, h3, h4⟩ := hr x hx; exact ⟨h1, h2, z, h3.drew, h4, fun e => by cases e⟩⟩
theorem below (h : ResC b L RS D u) (hb : Below u.heap.size u v) (k : Nat) (hk : ∀ x ∈ RS, x.1 ≠ k) : ResC b L RS (setD D k) v :=
  ⟨h.1.below hb, fun x hx => by
    obtain ⟨h1, h2, z, h3, h4, h5⟩ := h.2 x hx
    refine ⟨h1, h2, z, h3.below hb h3.lt, h4, fun e => h5 ?_⟩
    unfold setD at e
    simpa [hk x hx] using e⟩
theorem at_ (h : ResC b L RS D u) (hm : (k, p, t, V) ∈ RS) : ∃ z, CellsAt u p t z ∧ z.size = V.size := by
  obtain ⟨_, _, z, h3, h4, _⟩ := h.2 _ hm
  exact ⟨z, h3, h4⟩
theorem stored (h : ResC b L RS D u) (hm : (k, p, t, V) ∈ RS) (hd : ∀ x ∈ RS, x = (k, p, t, V) ∨ (x.1 ≠ k ∧ x.2.1 ≠ p)) (hg : u.grownBy v (some p)) (hc : CellsAt v p t V) : ResC b L RS (setD D k) v := by
  obtain ⟨m1, m2, _⟩ := h.2 _ hm
  refine ⟨h.1.grown hg m1 m2, fun x hx => ?_⟩
  obtain ⟨h1, h2, z, h3, h4, h5⟩ := h.2 x hx
  rcases hd x hx with rfl | ⟨n1, n2⟩
  · exact ⟨h1, h2, V, hc, rfl, fun _ => rfl⟩
  · refine ⟨h1, h2, z, h3.grown hg (by intro e; injection e with e; exact n2 e), h4, fun e => h5 ?_⟩
    unfold setD at e
    simpa [n1] using e
theorem done (h : ResC b L RS D u) (hD : ∀ x ∈ RS, D x.1 = true) : Kept b (RS.map (fun x => (x.2.1, x.2.2.1, x.2.2.2)) ++ L) u := by
  refine ⟨h.1.1, fun y hy => ?_⟩
  rcases List.mem_append.1 hy with hy | hy
  · obtain ⟨x, hx, rfl⟩ := List.mem_map.1 hy
    obtain ⟨h1, _, z, h3, _, h5⟩ := h.2 x hx
    rw [h5 (hD x hx)] at h3
    exact ⟨h1, h3⟩
  · exact h.1.2 y hy
end ResC
theorem steps_alloc {P : Program} {ρ : Operand → Value} {o : Oper} {t : TypeId} {w : World} {K : Value → World → Prop} {cs : Array Value} (hop : o.op = .alloc t) (hz : (P.info? t).map (·.zero) = some (some (.agg cs)))
    (h : K (.pointer (some ⟨w.heap.size, 0, none⟩)) (w.alloc (.cells cs t))) : stepsTo P ((execOp ρ o).run P w) K := by
  obtain ⟨i, hi, hzi⟩ := Option.map_eq_some_iff.1 hz
  have e : (execOp ρ o).run P w = .ok (.value (.pointer (some ⟨w.heap.size, 0, none⟩))) (w.alloc (.cells cs t)) := by
    unfold execOp
    rw [hop]
    simp [Instr.alloc, zeroValue, typeInfo, hi, hzi, newVar, newRow, newObj, Value.cells, go_sem]
    rfl
  rw [e]
  exact h
abbrev Made := Nat × Nat × TypeId × Array Value
def MadeC (b : World) (n0 : Nat) (L : List Box) (RS : List Res) (NS : List Made) (D : Nat → Bool) (γ : Nat → Value) (u : World) : Prop :=
  ResC b L RS D u ∧ b.heap.size ≤ n0 ∧ n0 ≤ u.heap.size ∧ (∀ x ∈ L, x.1 < n0) ∧ (∀ x ∈ RS, x.2.1 < n0) ∧
  (∀ x ∈ NS, D x.1 = true → ∃ g, γ x.1 = .pointer (some ⟨g, 0, none⟩) ∧ n0 ≤ g ∧ ∃ z, CellsAt u g x.2.2.1 z ∧ z.size = x.2.2.2.size ∧ (D x.2.1 = true → z = x.2.2.2)) ∧
  (∀ x ∈ NS, ∀ y ∈ NS, x.1 ≠ y.1 → D x.1 = true → D y.1 = true → γ x.1 ≠ γ y.1) ∧ (∀ x ∈ NS, D x.2.1 = true → D x.1 = true)
def ShM (vs : List (Nat × Value)) (ks : List Nat) : Nat → Value → Prop := fun i v => bif ks.contains i then ∃ g : Nat, v = .pointer (some ⟨g, 0, none⟩) else v = (vs.lookup i).getD undef
theorem ShM.inh (vs : List (Nat × Value)) (ks : List Nat) (i : Nat) : ∃ v, ShM vs ks i v := by
  unfold ShM
  cases ks.contains i
  · exact ⟨_, rfl⟩
  · exact ⟨_, 0, rfl⟩
namespace MadeC
variable {b u v : World} {n0 : Nat} {L : List Box} {RS : List Res} {NS : List Made} {D : Nat → Bool} {γ γ' : Nat → Value} {k p j : Nat} {t : TypeId} {V : Array Value}
theorem loc (ha : ∀ i, D i = true → γ i = γ' i) (h : MadeC b n0 L RS NS D γ u) : MadeC b n0 L RS NS D γ' u := by
  obtain ⟨h1, h2, h3, h4, h5, h6, h7, h8⟩ := h
  refine ⟨h1, h2, h3, h4, h5, fun x hx hd => ?_, fun x hx y hy hne hdx hdy => ?_, h8⟩
  · rw [← ha _ hd]; exact h6 x hx hd
  · rw [← ha _ hdx, ← ha _ hdy]; exact h7 x hx y hy hne hdx hdy
theorem start (h : ResC b L RS (fun _ => false) u) (hb : b.heap.size ≤ n0) (hn : n0 ≤ u.heap.size) (hL : ∀ x ∈ L, x.1 < n0) (hR : ∀ x ∈ RS, x.2.1 < n0) : MadeC b n0 L RS NS (fun _ => false) γ u :=
  ⟨h, hb, hn, hL, hR, fun _ _ e => (by cases e), fun _ _ _ _ _ e => (by cases e), fun _ _ e => (by cases e)⟩
theorem below (h : MadeC b n0 L RS NS D γ u) (hb : Below u.heap.size u v) (k : Nat) (w : Value) (hk : (∀ x ∈ RS, x.1 ≠ k) ∧ ∀ x ∈ NS, x.1 ≠ k ∧ x.2.1 ≠ k) : MadeC b n0 L RS NS (setD D k) (setG γ k w) v := by
  obtain ⟨h1, h2, h3, h4, h5, h6, h7, h8⟩ := h
  refine ⟨h1.below hb k hk.1, h2, Nat.le_trans h3 hb.size, h4, h5, fun x hx hd => ?_, fun x hx y hy hne hdx hdy => ?_, fun x hx hd => ?_⟩
  · have hn := hk.2 x hx
    have hd' : D x.1 = true := by unfold setD at hd; simpa [hn.1] using hd
    obtain ⟨g, e1, e2, z, e3, e4, e5⟩ := h6 x hx hd'
    refine ⟨g, by unfold setG; rw [if_neg hn.1]; exact e1, e2, z, e3.below hb e3.lt, e4, fun e => e5 ?_⟩
    unfold setD at e; simpa [hn.2] using e
  · have hnx := (hk.2 x hx).1
    have hny := (hk.2 y hy).1
    unfold setG setD at *
    rw [if_neg hnx, if_neg hny]
    exact h7 x hx y hy hne (by simpa [hnx] using hdx) (by simpa [hny] using hdy)
  · have hn := hk.2 x hx
    unfold setD at *
    rw [h8 x hx (by simpa [hn.2] using hd)]; simp
theorem made (h : MadeC b n0 L RS NS D γ u) (hm : (k, j, t, V) ∈ NS) (hR : ∀ x ∈ RS, x.1 ≠ k) (hN : ∀ x ∈ NS, x = (k, j, t, V) ∨ (x.1 ≠ k ∧ x.2.1 ≠ k)) (hk : D k = false) (hjk : j ≠ k) {z : Array Value} (hz : z.size = V.size) :
    MadeC b n0 L RS NS (setD D k) (setG γ k (.pointer (some ⟨u.heap.size, 0, none⟩))) (u.alloc (.cells z t)) := by
  obtain ⟨h1, h2, h3, h4, h5, h6, h7, h8⟩ := h
  have hb : Below u.heap.size u (u.alloc (.cells z t)) := (Below.refl _ _).alloc (Nat.le_refl _) _
  refine ⟨h1.below hb k hR, h2, Nat.le_trans h3 hb.size, h4, h5, fun x hx hd => ?_, fun x hx y hy hne hdx hdy => ?_, fun x hx hd => ?_⟩
  · rcases hN x hx with rfl | hn
    · refine ⟨_, by unfold setG; rw [if_pos rfl], h3, z, CellsAt.new u t z, hz, fun e => ?_⟩
      unfold setD at e
      have := h8 _ hm (by simpa [hjk] using e)
      rw [hk] at this; cases this
    · have hd' : D x.1 = true := by unfold setD at hd; simpa [hn.1] using hd
      obtain ⟨g, e1, e2, z', e3, e4, e5⟩ := h6 x hx hd'
      refine ⟨g, by unfold setG; rw [if_neg hn.1]; exact e1, e2, z', e3.below hb e3.lt, e4, fun e => e5 ?_⟩
      unfold setD at e; simpa [hn.2] using e
  · have old : ∀ x ∈ NS, x.1 ≠ k → setD D k x.1 = true → setG γ k (.pointer (some ⟨u.heap.size, 0, none⟩)) x.1 = γ x.1 ∧ γ x.1 ≠ .pointer (some ⟨u.heap.size, 0, none⟩) := by
      intro x hx hne hd
      unfold setD at hd
      obtain ⟨g, e1, _, z', e3, _⟩ := h6 x hx (by simpa [hne] using hd)
      refine ⟨by unfold setG; rw [if_neg hne], fun e => ?_⟩
      rw [e1] at e
      have hlt := e3.lt
      simp only [Value.pointer.injEq, Option.some.injEq, Addr.mk.injEq, and_true] at e
      omega
    by_cases hxk : x.1 = k
    · have hyk : y.1 ≠ k := fun e => hne (hxk.trans e.symm)
      obtain ⟨a1, a2⟩ := old y hy hyk hdy
      rw [a1]
      unfold setG
      rw [if_pos hxk]
      exact fun e => a2 e.symm
    · obtain ⟨a1, a2⟩ := old x hx hxk hdx
      by_cases hyk : y.1 = k
      · rw [a1]
        unfold setG
        rw [if_pos hyk]
        exact a2
      · obtain ⟨b1, _⟩ := old y hy hyk hdy
        rw [a1, b1]
        unfold setD at hdx hdy
        exact h7 x hx y hy hne (by simpa [hxk] using hdx) (by simpa [hyk] using hdy)
  · rcases hN x hx with rfl | hn
    · simp [setD]
    · unfold setD at *
      rw [h8 x hx (by simpa [hn.2] using hd)]; simp
theorem box (h : MadeC b n0 L RS NS D γ u) (hm : (k, j, t, V) ∈ NS) (hk : D k = true) : ∃ g, γ k = .pointer (some ⟨g, 0, none⟩) ∧ ∃ z, CellsAt u g t z ∧ z.size = V.size := by
  obtain ⟨g, e1, _, z, e3, e4, _⟩ := h.2.2.2.2.2.1 _ hm hk
  exact ⟨g, e1, z, e3, e4⟩
theorem filled (h : MadeC b n0 L RS NS D γ u) (hm : (k, j, t, V) ∈ NS) (hk : D k = true) (hR : ∀ x ∈ RS, x.1 ≠ j) (hN : ∀ x ∈ NS, x = (k, j, t, V) ∨ (x.1 ≠ k ∧ x.1 ≠ j ∧ x.2.1 ≠ j)) (hkj : k ≠ j) (he : γ k = .pointer (some ⟨p, 0, none⟩)) (hg : u.grownBy v (some p)) (hc : CellsAt v p t V) (w : Value) :
    MadeC b n0 L RS NS (setD D j) (setG γ j w) v := by
  obtain ⟨h1, h2, h3, h4, h5, h6, h7, h8⟩ := h
  obtain ⟨g0, e0, hp, _⟩ := h6 _ hm hk
  have hgp : g0 = p := by rw [e0] at he; simpa using he
  subst hgp
  refine ⟨?_, h2, Nat.le_trans h3 hg.size, h4, h5, fun x hx hd => ?_, fun x hx y hy hne hdx hdy => ?_, fun x hx hd => ?_⟩
  · refine ⟨h1.1.grown hg (by omega) (fun y hy => by have := h4 y hy; omega), fun x hx => ?_⟩
    obtain ⟨a1, a2, z, a3, a4, a5⟩ := h1.2 x hx
    refine ⟨a1, a2, z, a3.grown hg (by intro e; injection e with e; have := h5 x hx; omega), a4, fun e => a5 ?_⟩
    unfold setD at e
    simpa [hR x hx] using e
  · rcases hN x hx with rfl | hn
    · refine ⟨g0, by unfold setG; rw [if_neg hkj]; exact e0, hp, V, hc, rfl, fun _ => rfl⟩
    · have hd' : D x.1 = true := by unfold setD at hd; simpa [hn.2.1] using hd
      obtain ⟨g, e1, e2, z, e3, e4, e5⟩ := h6 x hx hd'
      have hgg : g ≠ g0 := by
        rintro rfl
        exact h7 x hx _ hm hn.1 hd' hk (e1.trans e0.symm)
      refine ⟨g, by unfold setG; rw [if_neg hn.2.1]; exact e1, e2, z, e3.grown hg (by intro e; injection e with e; exact hgg e), e4, fun e => e5 ?_⟩
      unfold setD at e; simpa [hn.2.2] using e
  · have nj : ∀ x ∈ NS, x.1 ≠ j := fun x hx => by rcases hN x hx with rfl | hn; exact hkj; exact hn.2.1
    have hnx := nj x hx
    have hny := nj y hy
    unfold setG setD at *
    rw [if_neg hnx, if_neg hny]
    exact h7 x hx y hy hne (by simpa [hnx] using hdx) (by simpa [hny] using hdy)
  · rcases hN x hx with rfl | hn
    · unfold setD; rw [hk]; simp
    · unfold setD at *
      rw [h8 x hx (by simpa [hn.2.2] using hd)]; simp
theorem doneM (h : MadeC b n0 L RS NS D γ u) (hm : (k, j, t, V) ∈ NS) (hk : D k = true) (hj : D j = true) : ∃ g, γ k = .pointer (some ⟨g, 0, none⟩) ∧ n0 ≤ g ∧ CellsAt u g t V := by
  obtain ⟨g, e1, e2, z, e3, _, e5⟩ := h.2.2.2.2.2.1 _ hm hk
  rw [e5 hj] at e3
  exact ⟨g, e1, e2, e3⟩
end MadeC
theorem Kept.more {b w : World} {L : List Box} {g : Nat} {t : TypeId} {cs : Array Value} (h : Kept b L w) (hg : b.heap.size ≤ g) (hc : CellsAt w g t cs) : Kept b ((g, t, cs) :: L) w :=
  ⟨h.1, fun x hx => by rcases List.mem_cons.1 hx with rfl | hx; exact ⟨hg, hc⟩; exact h.2 x hx⟩
end Go.Proofs.YtgaecedhkbneaaaGreatDoor.Mx

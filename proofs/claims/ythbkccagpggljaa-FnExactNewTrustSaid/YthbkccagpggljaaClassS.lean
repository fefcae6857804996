/- A REGION THAT DRAWS ITS ORDER AND STORES (results, fields): its other operations are quiet in a class of worlds whatever has been stored so far; one walk in the order of the text, the stores passed over; each store is shown on its own, at the slots as they stand at the end. No program in sight. -/
import Derived.Test.YthbkccagpggljaaClass
namespace Go.Proofs.Ythbkccagpggljaa.Mx
open Go.RowKit
set_option linter.unusedVariables false

/-- A store is passed over in the walk. -/
def hushOp (o : Oper) : Oper := match o.op with | .store _ _ _ => { o with op := .assign (.const undef) } | _ => o
def isStore (o : Oper) : Bool := match o.op with | .store _ _ _ => true | _ => false
/-- What is asked of the text: each operation waits for earlier ones alone; no slot is written twice; a store has no slot and no guard, and waits for what it reads. -/
def storesB (md : Region.Mode) (l : List Oper) : Bool :=
  (List.range l.length).all fun i => match l[i]? with
    | none => true
    | some o => o.after.all (fun e => !Region.binds md e || decide (e.on < i)) &&
      (List.range l.length).all (fun j => j == i || match l[j]? with | some oj => o.dst.isNone || o.dst != oj.dst | none => true) &&
      (!isStore o || (o.dst.isNone && o.guard.isNone && o.op.operands.toList.all fun x => match x with
        | .tmp t => (List.range l.length).all fun j => match l[j]? with | some oj => oj.dst != some t || o.after.any (fun e => Region.binds md e && e.on == j) | none => true
        | _ => true))
/-- Each store, at the slots as they stand in the end: it leaves a world of the class in which it has been done. -/
def storesOk (P : Program) (C : (Nat → Bool) → World → Prop) (A : Act) (l : List Oper) : Prop :=
  ∀ i o t x y, l[i]? = some o → o.op = .store t x y → ∀ D w, C D w → ∃ w', (Instr.storeAt t (A.eval x) (A.eval y)).run P w = .ok () w' ∧ C (fun k => k == i || D k) w'

section
variable {P : Program} {C : (Nat → Bool) → World → Prop} {l : List Oper} {A : Act}

theorem hush_dst (o : Oper) : (hushOp o).dst = o.dst := by unfold hushOp; split <;> rfl
theorem hush_after (o : Oper) : (hushOp o).after = o.after := by unfold hushOp; split <;> rfl
theorem hush_guard (o : Oper) : (hushOp o).guard = o.guard := by unfold hushOp; split <;> rfl
theorem hush_get (l : List Oper) (i : Nat) : (l.map hushOp).toArray[i]? = (l.toArray[i]?).map hushOp := by simp
theorem hush_ready (md : Region.Mode) (l : List Oper) (up : Array Bool) : Region.ready md (l.map hushOp).toArray up = Region.ready md l.toArray up := by
  unfold Region.ready
  simp only [List.size_toArray, List.length_map]
  congr 1
  funext i
  rw [hush_get]
  cases l.toArray[i]? with
  | none => rfl
  | some o => simp only [Option.map_some, Option.getD_some, hush_after]
theorem hush_yielded (l : List Oper) (ts : Array Value) : yielded (l.map hushOp).toArray ts = yielded l.toArray ts := by
  funext j
  unfold yielded
  rw [hush_get]
  cases l.toArray[j]? with
  | none => rfl
  | some o => simp only [Option.map_some, Option.bind_some, hush_dst]
theorem hush_wanted (o : Oper) (f : Nat → Option Bool) : Region.wanted (hushOp o) f = Region.wanted o f := by
  unfold hushOp; split <;> rfl

/-- What no operation to come writes reads as in the end. -/
theorem wpAnyQ_end {C' : World → Prop} {ops : Array Oper} {md : Region.Mode} (x : Operand) (fuel : Nat) : ∀ (up : Array Bool) (a : Act),
    (∀ j oj, ops[j]? = some oj → up.getD j true = false → ∀ d, oj.dst = some d → x ≠ .tmp d) → wpAnyQ P md ops C' (fun a' => a' = A) fuel up a → a.eval x = A.eval x := by
  induction fuel with
  | zero => intro up a _ h; rw [h.2]
  | succ f ih =>
    intro up a hx h
    by_cases h0 : Region.ready md ops up = []
    · rw [h.1 h0]
    · obtain ⟨i, hi⟩ := List.exists_mem_of_ne_nil _ h0
      have hq := h.2 i hi
      obtain ⟨hun, oi, hoi, _⟩ := mem_ready.1 hi
      have hx' : ∀ j oj, ops[j]? = some oj → (up.setIfInBounds i true).getD j true = false → ∀ d, oj.dst = some d → x ≠ .tmp d := by
        intro j oj hj hu
        refine hx j oj hj ?_
        by_cases hij : i = j
        · subst hij; exact hun
        · rwa [getD_set_ne true hij] at hu
      obtain ⟨v, _, hk⟩ := yieldsIn_of_qOp hoi hq
      rw [← ih _ _ hx' hk]
      exact (Act.eval_put fun d hd => hx i oi hoi hun d hd).symm
theorem storesB_at {md : Region.Mode} (h : storesB md l = true) {i : Nat} {o : Oper} (hi : l[i]? = some o) :
    (∀ e ∈ o.after, Region.binds md e = true → e.on < i) ∧ (∀ j oj d, l[j]? = some oj → j ≠ i → o.dst = some d → oj.dst ≠ some d) ∧
    (isStore o = true → o.dst = none ∧ o.guard = none ∧ ∀ t, .tmp t ∈ o.op.operands.toList → ∀ j oj, l[j]? = some oj → oj.dst = some t → ∃ e ∈ o.after, Region.binds md e = true ∧ e.on = j) := by
  unfold storesB at h
  rw [List.all_eq_true] at h
  have hlt : i < l.length := (List.getElem?_eq_some_iff.1 hi).1
  have h1 := h i (List.mem_range.2 hlt)
  simp only [hi, Bool.and_eq_true, Bool.or_eq_true] at h1
  obtain ⟨⟨ha, hd⟩, hs⟩ := h1
  refine ⟨fun e he hb => ?_, fun j oj d hj hne hod hoj => ?_, fun his => ?_⟩
  · have := Array.all_eq_true_iff_forall_mem.1 ha e he
    simpa [hb] using this
  · rw [List.all_eq_true] at hd
    have := hd j (List.mem_range.2 (List.getElem?_eq_some_iff.1 hj).1)
    simp [hj, hne, hod, hoj] at this
  · rcases hs with hs | ⟨⟨hs1, hs2⟩, hs3⟩
    · rw [his] at hs; cases hs
    · refine ⟨by simpa using hs1, by simpa using hs2, fun t ht j oj hj hd => ?_⟩
      rw [List.all_eq_true] at hs3
      have h3 := hs3 _ ht
      simp only [List.all_eq_true] at h3
      have h4 := h3 j (List.mem_range.2 (List.getElem?_eq_some_iff.1 hj).1)
      simp only [hj, hd, bne_self_eq_false, Bool.false_or] at h4
      obtain ⟨e, he, hb⟩ := Array.any_eq_true'.1 h4
      simp only [Bool.and_eq_true, beq_iff_eq] at hb
      exact ⟨e, he, hb.1, hb.2⟩

theorem getD_same {up : Array Bool} {i : Nat} (h : i < up.size) (b c : Bool) : up.getD i b = up.getD i c := by simp [h]

/-- Where nothing is ready, all has come up. -/
theorem all_up {md : Region.Mode} (h : storesB md l = true) {up : Array Bool} (hs : up.size = l.length) (h0 : Region.ready md l.toArray up = []) : ∀ i, i < l.length → up.getD i true = true := by
  intro i
  induction i using Nat.strongRecOn with
  | _ i ih =>
    intro hi
    cases hu : up.getD i true with
    | true => rfl
    | false =>
      exfalso
      obtain ⟨o, ho⟩ : ∃ o, l[i]? = some o := ⟨_, List.getElem?_eq_getElem hi⟩
      have : i ∈ Region.ready md l.toArray up := by
        refine mem_ready.2 ⟨hu, o, by simpa using ho, fun e he hb => ?_⟩
        have hlt := (storesB_at h ho).1 e he hb
        rw [getD_same (by omega) false true]
        exact ih _ hlt (by omega)
      rw [h0] at this
      cases this

theorem eval_put_self (a : Act) (d : Nat) (u v : Value) (h : (a.put (some d) u).eval (.tmp d) = (a.put (some d) v).eval (.tmp d)) : a.put (some d) u = a.put (some d) v := by
  unfold Act.put Act.eval at *
  simp only [Array.getD_eq_getD_getElem?] at h
  by_cases hd : d < a.tmps.size
  · simp [hd] at h; rw [h]
  · simp only [Act.mk.injEq, and_true]
    rw [Array.setIfInBounds_eq_of_size_le (by omega), Array.setIfInBounds_eq_of_size_le (by omega)]

theorem stores_any {md : Region.Mode} {Q : Exit → Act → World → Prop} (hB : storesB md l = true) (hst : storesOk P C A l)
    (hQ : ∀ D w, (∀ i o, l[i]? = some o → isStore o = true → D i = true) → C D w → Q .normal A w) (fuel : Nat) :
    ∀ (up : Array Bool) (a : Act) (D : Nat → Bool) (w : World), up.size = l.length → (∀ D', wpAnyQ P md (l.map hushOp).toArray (C D') (fun a' => a' = A) fuel up a) →
      (∀ i o, l[i]? = some o → isStore o = true → up.getD i false = true → D i = true) → C D w → wpAny P md l.toArray Q fuel up a w := by
  have fin : ∀ (up : Array Bool) (D : Nat → Bool) (w : World), up.size = l.length → (∀ i o, l[i]? = some o → isStore o = true → up.getD i false = true → D i = true) → C D w →
      Region.ready md l.toArray up = [] → Q .normal A w := by
    intro up D w hs hD hC h0
    refine hQ D w (fun i o hi ho => hD i o hi ho ?_) hC
    have hlt : i < l.length := (List.getElem?_eq_some_iff.1 hi).1
    rw [getD_same (by omega) false true]
    exact all_up hB hs h0 i hlt
  induction fuel with
  | zero =>
    intro up a D w hs H hD hC
    have h := H D
    have hr : Region.ready md l.toArray up = [] := by rw [← hush_ready]; exact h.1
    refine ⟨hr, ?_⟩
    rw [h.2]
    exact fin up D w hs hD hC hr
  | succ f ih =>
    intro up a D w hs H hD hC
    refine ⟨fun h0 => ?_, fun i hi => ?_⟩
    · rw [(H D).1 (by rw [hush_ready]; exact h0)]
      exact fin up D w hs hD hC h0
    · have hi' : i ∈ Region.ready md (l.map hushOp).toArray up := by rw [hush_ready]; exact hi
      obtain ⟨hun, o, ho, _⟩ := mem_ready.1 hi
      have hol : l[i]? = some o := by simpa using ho
      have hoh : (l.map hushOp).toArray[i]? = some (hushOp o) := by rw [hush_get, ho]; rfl
      have hs' : (up.setIfInBounds i true).size = l.length := by simpa using hs
      -- each class takes the same step
      have hstep : ∀ D', ∃ v, YieldsIn P (l.map hushOp).toArray (C D') (hushOp o) v a ∧ wpAnyQ P md (l.map hushOp).toArray (C D') (fun a' => a' = A) f (up.setIfInBounds i true) (a.put o.dst v) := by
        intro D'
        obtain ⟨v, hy, hk⟩ := yieldsIn_of_qOp hoh ((H D').2 i hi')
        rw [hush_dst] at hk
        exact ⟨v, hy, hk⟩
      obtain ⟨v, hy, hk⟩ := hstep D
      have hall : ∀ D', wpAnyQ P md (l.map hushOp).toArray (C D') (fun a' => a' = A) f (up.setIfInBounds i true) (a.put o.dst v) := by
        intro D'
        obtain ⟨v', _, hk'⟩ := hstep D'
        suffices e : a.put o.dst v = a.put o.dst v' by rw [e]; exact hk'
        cases hd : o.dst with
        | none => rfl
        | some d =>
          rw [hd] at hk hk'
          have hx : ∀ j oj, (l.map hushOp).toArray[j]? = some oj → (up.setIfInBounds i true).getD j true = false → ∀ d', oj.dst = some d' → Operand.tmp d ≠ .tmp d' := by
            intro j oj hj hu d' hd' he
            injection he with he
            subst he
            rw [hush_get] at hj
            obtain ⟨oj', hj', rfl⟩ := Option.map_eq_some_iff.1 hj
            rw [hush_dst] at hd'
            have hji : j ≠ i := by
              rintro rfl
              have : (up.setIfInBounds j true).getD j true = true := by
                rcases Nat.lt_or_ge j up.size with h' | h'
                · simp [h']
                · simp
              rw [this] at hu; cases hu
            exact (storesB_at hB hol).2.1 j oj' d (by simpa using hj') hji hd hd'
          exact eval_put_self a d v v' ((wpAnyQ_end _ f _ _ hx hk).trans (wpAnyQ_end _ f _ _ hx hk').symm)
      have hD' : ∀ D'' : Nat → Bool, (∀ k, D k = true → D'' k = true) → (isStore o = true → D'' i = true) → ∀ j oj, l[j]? = some oj → isStore oj = true → (up.setIfInBounds i true).getD j false = true → D'' j = true := by
        intro D'' hm hself j oj hj hjs hu
        by_cases hij : i = j
        · subst hij
          rw [hol] at hj; injection hj with hj; subst hj
          exact hself hjs
        · rw [getD_set_ne false hij] at hu
          exact hm j (hD j oj hj hjs hu)
      cases his : isStore o with
      | false =>
        have hsame : hushOp o = o := by
          unfold hushOp
          split
          · rename_i heq; unfold isStore at his; rw [heq] at his; cases his
          · rfl
        have hq : qOp P l.toArray (C D) i (fun a' => a' = a.put o.dst v) a := by
          refine YieldsIn.qOp ho ?_ rfl
          rw [hsame] at hy
          rcases hy with ⟨hw, hv⟩ | ⟨hw, hv⟩
          · left; rw [hush_yielded] at hw; exact ⟨hw, hv⟩
          · right; rw [hush_yielded] at hw; exact ⟨hw, hv⟩
        refine wpOp_of_qOp hC (fun a' w' hw' ha' => ?_) hq
        subst ha'
        exact ih _ _ D w' hs' hall (hD' D (fun k h => h) (fun h => by rw [his] at h; cases h)) hw'
      | true =>
        obtain ⟨hd, hg, hrd⟩ := (storesB_at hB hol).2.2 his
        obtain ⟨t, x, y, hop⟩ : ∃ t x y, o.op = .store t x y := by
          unfold isStore at his
          split at his
          · rename_i t x y heq; exact ⟨t, x, y, heq⟩
          · cases his
        have hev : ∀ z ∈ o.op.operands.toList, a.eval z = A.eval z := by
          intro z hz
          refine wpAnyQ_end z (f + 1) up a (fun j oj hj hu d' hd' he => ?_) (H D)
          subst he
          rw [hush_get] at hj
          obtain ⟨oj', hj', rfl⟩ := Option.map_eq_some_iff.1 hj
          rw [hush_dst] at hd'
          obtain ⟨e, he, hb, hon⟩ := hrd d' hz j oj' (by simpa using hj') hd'
          obtain ⟨_, o2, ho2, hall2⟩ := mem_ready.1 hi
          rw [ho] at ho2; injection ho2 with ho2; subst ho2
          have h3 := hall2 e he hb
          rw [hon] at h3
          have hjlt : j < l.length := by have := (Array.getElem?_eq_some_iff.1 hj').1; simpa using this
          rw [getD_same (by omega) false true, hu] at h3
          cases h3
        have hx : a.eval x = A.eval x := hev x (by rw [hop]; simp [Op.operands])
        have hy2 : a.eval y = A.eval y := hev y (by rw [hop]; simp [Op.operands])
        obtain ⟨w', hrun, hC'⟩ := hst i o t x y hol hop D w hC
        have hex : ∃ n, (execOp a.eval o).run P w = .ok n w' ∧ (n = .skip ∨ n = .value undef) := by
          unfold execOp
          rw [hop]
          simp only [hx, hy2, Sem.run_bind, hrun, Result.andThen_ok, Sem.run_pure]
          first | exact ⟨_, rfl, .inl rfl⟩ | exact ⟨_, rfl, .inr rfl⟩
        have hwant : Region.wanted o (yielded l.toArray a.tmps) = true := by unfold Region.wanted; rw [hg]
        unfold wpOp
        simp only [ho, hwant, if_true]
        left
        obtain ⟨n, hn, hn2⟩ := hex
        unfold Oper.wp
        rw [hn]
        have hgo : wpAny P md l.toArray Q f (up.setIfInBounds i true) (a.put o.dst undef) w' := by
          have e : a.put o.dst undef = a.put o.dst v := by rw [hd]; rfl
          rw [e]
          refine ih _ _ (fun k => k == i || D k) w' hs' hall (hD' _ (fun k h => by simp [h]) (fun _ => by simp)) hC'
        rcases hn2 with rfl | rfl
        · exact hgo
        · exact hgo

/-- A REGION WITH STORES: A is how the slots stand in the end. -/
theorem wp_region_stores {id : Nat} {Q : Exit → Act → World → Prop} {a : Act} {w : World} {l : List Oper} (C : (Nat → Bool) → World → Prop) (A : Act) (hm : P.follows .mixedOrders = true) (hB : Region.lexB .any (l.map hushOp).toArray = true) (hS : storesB .any l = true)
    (hC : C (fun _ => false) w.drew)
    (h : ∀ D, wpQuiet P (l.map hushOp).toArray (C D) (fun a' => a' = A) (l.map hushOp) a)
    (hst : storesOk P C A l)
    (hQ : ∀ D w', (∀ i o, l[i]? = some o → isStore o = true → D i = true) → C D w' → Q .normal A w') : (Code.region id l.toArray true).wp P Q a w := by
  refine wp_region_any hm ?_
  have hlex := hB
  simp only [Region.lexB, Bool.and_eq_true] at hlex
  have H : ∀ D, wpAnyQ P .any (l.map hushOp).toArray (C D) (fun a' => a' = A) l.toArray.size (Array.replicate l.toArray.size false) a := by
    intro D
    have := wpAnyQ_lex (C := C D) (md := .any) hlex.1 (l.map hushOp) 0 (Array.replicate l.toArray.size false) a (by simp) (by simpa using hlex.2) (h D)
    simpa using this
  exact stores_any hS hst hQ _ _ _ (fun _ => false) _ (by simp) H (fun i o _ _ hu => by
    exfalso
    rcases Nat.lt_or_ge i l.length with h' | h'
    · simp [h'] at hu
    · simp [h'] at hu) hC
end
end Go.Proofs.Ythbkccagpggljaa.Mx

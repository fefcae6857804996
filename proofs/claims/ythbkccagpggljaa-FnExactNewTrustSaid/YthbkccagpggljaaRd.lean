/- BOXES KEPT, READ AS RULES: one rule a box. A whole struct loaded, stored. No function in sight. -/
import Derived.Test.YthbkccagpggljaaKept
import Derived.Test.YthbkccagpggljaaFree
import Derived.Deep.WholeRow
import Derived.Deep.MidRow
namespace Go.Proofs.Ythbkccagpggljaa.Mx
open Go.RowKit
set_option linter.unusedVariables false

theorem Kept.put1 {b w : World} {L : List Box} (h : Kept b L w) (g : Nat) (t : TypeId) (cs : Array Value) (hg : w.heap.size = g) : Kept b ((g, t, cs) :: L) (w.alloc (.cells cs t)) := by
  subst hg; exact h.new t cs
/-- Each box of the list reads so, and may be written. -/
def Rd (w : World) : List Box → Prop
  | [] => True
  | x :: L => (∀ i, w.cell? ⟨x.1, i, none⟩ = x.2.2[i]?) ∧ (∀ i, w.frozen? ⟨x.1, i, none⟩ = false) ∧ Rd w L
theorem Rd.of : ∀ {L : List Box} {w : World}, (∀ x ∈ L, CellsAt w x.1 x.2.1 x.2.2) → Rd w L
  | [], _, _ => trivial
  | x :: L, w, h => ⟨fun i => (h x (List.mem_cons_self ..)).cell i, fun i => (h x (List.mem_cons_self ..)).frozen i, Rd.of fun y hy => h y (List.mem_cons_of_mem _ hy)⟩
theorem Kept.rd {b w : World} {L : List Box} (h : Kept b L w) : Rd w L := Rd.of fun x hx => (h.2 x hx).2

/-- The box at place k is written anew. -/
def putBox (L : List Box) (k : Nat) (cs : Array Value) : List Box := L.modify k fun x => (x.1, x.2.1, cs)
/-- No two boxes have one block. -/
def Apart (L : List Box) : Prop := (L.map (·.1)).Nodup
theorem Kept.put {b w w' : World} {L : List Box} {k p : Nat} {t : TypeId} {cs cs' : Array Value} (h : Kept b L w) (hk : L[k]? = some (p, t, cs)) (ha : Apart L) (hg : w.grownBy w' (some p)) (hc : CellsAt w' p t cs') : Kept b (putBox L k cs') w' := by
  have hm : (p, t, cs) ∈ L := List.mem_of_getElem? hk
  have hp : b.heap.size ≤ p := (h.2 _ hm).1
  refine ⟨bgb h.1 hg h.1.size hp, fun x hx => ?_⟩
  unfold putBox at hx
  obtain ⟨j, hj⟩ := List.mem_iff_getElem?.1 hx
  rw [List.getElem?_modify] at hj
  by_cases hkj : k = j
  · subst hkj
    rw [hk] at hj
    simp only [if_true, Option.map_eq_map, Option.map_some, Option.some.injEq] at hj
    subst hj
    exact ⟨hp, hc⟩
  · simp only [hkj, if_false, Option.map_eq_map, Option.map_id_fun', id_eq] at hj
    have hxm := List.mem_of_getElem? hj
    refine ⟨(h.2 x hxm).1, (h.2 x hxm).2.grown hg ?_⟩
    intro e
    injection e with e
    unfold Apart at ha
    have h1 : (L.map (·.1))[j]? = some x.1 := by rw [List.getElem?_map, hj]; rfl
    have h2 : (L.map (·.1))[k]? = some p := by rw [List.getElem?_map, hk]; rfl
    rw [← e] at h2
    have hjl : j < (L.map (·.1)).length := (List.getElem?_eq_some_iff.1 h1).1
    exact hkj ((List.getElem?_inj hjl ha).1 (h1.trans h2.symm)).symm

/-- A whole struct is stored. -/
theorem store_whole {P : Program} {w : World} {p : Nat} {t : TypeId} {cs cs' : Array Value} (hc : CellsAt w p t cs) (hi : (P.info? t).map (·.size) = some cs'.size) (hs : cs.size = cs'.size) (h1 : cs'.all (·.oneCell') = true) :
    ∃ w', (Instr.storeAt t (.pointer (some ⟨p, 0, none⟩)) (.agg cs')).run P w = .ok () w' ∧ CellsAt w' p t cs' ∧ w.grownBy w' (some p) := by
  refine ⟨w.setRow p cs', ?_, setRow_heap w p cs cs' t (0, 0) hc, ⟨rfl, rfl, rfl, Nat.le_of_eq (setRow_size w p cs').symm, fun k _ hk => setRow_other w p k cs' (fun e => hk (by rw [e]))⟩⟩
  simp only [Instr.storeAt, Instr.sureAddr, Sem.run_bind, Sem.run_pure, Result.andThen_ok]
  exact run_storeVar_row _ _ t t cs cs' hc hi hs h1
theorem load_whole {P : Program} {w : World} {p : Nat} {t : TypeId} {d : TypeDesc} {cs : Array Value} (hc : CellsAt w p t cs) (hu : P.underlying t = some d) (hd : (match d with | .struct _ | .array _ _ => true | _ => false) = true) (hi : (P.info? t).map (·.size) = some cs.size) :
    (Instr.loadAt t (.pointer (some ⟨p, 0, none⟩))).run P w = .ok (.agg cs) w := by
  simp only [Instr.loadAt, Instr.sureAddr, Sem.run_bind, Sem.run_pure, Result.andThen_ok]
  exact run_loadVar_row _ _ t t cs (0, 0) d hc hu hd hi

/-- The function has a body. -/
def entersB (P : Program) (f : FuncId) : Bool := match P.funcs[f]? with | some fn => !(fn.name == "runtime.NumGoroutine") && fn.body.isSome | none => false
theorem enter_run {P : Program} {f : FuncId} {args : Array Value} {w : World} (h : entersB P f = true) : (callFunc f args).run P w = .ok (.enter f args) w := by
  unfold entersB at h
  split at h
  · rename_i fn hf
    simp only [Bool.and_eq_true, Bool.not_eq_true'] at h
    have hb : ¬ fn.body = none := fun e => by rw [e] at h; exact absurd h.2 (by simp)
    have hn : ¬ fn.name = "runtime.NumGoroutine" := by simpa using h.1
    simp [callFunc, go_sem, hf]
    rw [if_neg hn, if_neg hb]
  · cases h
/-- A free operation that calls. -/
theorem steps_call {P : Program} {ρ : Operand → Value} {o : Oper} {c : Call} {f : FuncId} {args : Array Value} {w : World} {K : Value → World → Prop} (h : Calls P f args w fun e w' => ∃ v, e = .returned v ∧ K v w')
    (hop : o.op = .call c) (hcal : c.callee = .value (.func f)) (hf : ρ (.func f) = .func (.func f) #[] #[]) (hargs : c.args.toList.map ρ = args.toList) (he : entersB P f = true) : stepsTo P ((execOp ρ o).run P w) K := by
  have e : (execOp ρ o).run P w = .ok (.enter f args) w := by
    have ha : c.args.map ρ = args := by
      apply Array.toList_inj.1
      rw [Array.toList_map]; exact hargs
    unfold execOp
    rw [hop]
    simp only [resolve, hcal, hf, Deferred.ofValue, Sem.run_bind, Sem.run_pure, Result.andThen_ok, invoke, ha]
    simpa using enter_run (w := w) (args := args) he
  rw [e]
  exact h
/-- .. that stores a whole struct. -/
theorem steps_store {P : Program} {ρ : Operand → Value} {o : Oper} {t : TypeId} {x y : Operand} {w : World} {K : Value → World → Prop} {p : Nat} {cs cs' : Array Value}
    (hc : CellsAt w p t cs) (hop : o.op = .store t x y) (hx : ρ x = .pointer (some ⟨p, 0, none⟩)) (hy : ρ y = .agg cs') (hi : (P.info? t).map (·.size) = some cs'.size) (hs : cs.size = cs'.size) (h1 : cs'.all (·.oneCell') = true)
    (h : ∀ w', CellsAt w' p t cs' → w.grownBy w' (some p) → K undef w') : stepsTo P ((execOp ρ o).run P w) K := by
  obtain ⟨w', e, hc', hg⟩ := store_whole hc hi hs h1
  have e2 : (execOp ρ o).run P w = .ok .skip w' := by
    unfold execOp
    rw [hop]
    simp only [hx, hy, Sem.run_bind, e, Result.andThen_ok, Sem.run_pure]
  rw [e2]
  exact h w' hc' hg
/-- .. that loads a whole struct. -/
theorem steps_load {P : Program} {ρ : Operand → Value} {o : Oper} {t : TypeId} {x : Operand} {w : World} {K : Value → World → Prop} {p : Nat} {d : TypeDesc} {cs : Array Value}
    (hc : CellsAt w p t cs) (hop : o.op = .load t x) (hx : ρ x = .pointer (some ⟨p, 0, none⟩)) (hu : P.underlying t = some d) (hd : (match d with | .struct _ | .array _ _ => true | _ => false) = true) (hi : (P.info? t).map (·.size) = some cs.size)
    (h : K (.agg cs) w) : stepsTo P ((execOp ρ o).run P w) K := by
  have e2 : (execOp ρ o).run P w = .ok (.value (.agg cs)) w := by
    unfold execOp
    rw [hop]
    simp only [hx, Sem.run_bind, load_whole hc hu hd hi, Result.andThen_ok, Sem.run_pure]
  rw [e2]
  exact h

/-- Free operations of whose values each is known. -/
def ShV (vs : List (Nat × Value)) : Nat → Value → Prop := fun i v => v = (vs.lookup i).getD undef
theorem ShV.inh (vs : List (Nat × Value)) (i : Nat) : ∃ v, ShV vs i v := ⟨_, rfl⟩
/-- Boxes that results are stored in: the store's place in the region, the block, its type, what it holds once stored. -/
abbrev Res := Nat × Nat × TypeId × Array Value
/-- The boxes of L are kept; the results' boxes hold something, and what was stored where it was. -/
def ResC (b : World) (L : List Box) (RS : List Res) (D : Nat → Bool) (u : World) : Prop :=
  Kept b L u ∧ ∀ x ∈ RS, b.heap.size ≤ x.2.1 ∧ (∀ y ∈ L, y.1 ≠ x.2.1) ∧ ∃ z, CellsAt u x.2.1 x.2.2.1 z ∧ z.size = x.2.2.2.size ∧ (D x.1 = true → z = x.2.2.2)
namespace ResC
variable {b u v : World} {L : List Box} {RS : List Res} {D : Nat → Bool} {k p : Nat} {t : TypeId} {V : Array Value}
theorem start (h : Kept b L u) (hr : ∀ x ∈ RS, b.heap.size ≤ x.2.1 ∧ (∀ y ∈ L, y.1 ≠ x.2.1) ∧ ∃ z, CellsAt u x.2.1 x.2.2.1 z ∧ z.size = x.2.2.2.size) : ResC b L RS (fun _ => false) u.drew :=
  ⟨h.drew, fun x hx => by obtain ⟨h1, h2, z, h3, h4⟩ := hr x hx; exact ⟨h1, h2, z, h3.drew, h4, fun e => by cases e⟩⟩
theorem below (h : ResC b L RS D u) (hb : Below u.heap.size u v) (k : Nat) (hk : ∀ x ∈ RS, x.1 ≠ k) : ResC b L RS (setD D k) v :=
  ⟨h.1.below hb, fun x hx => by
    obtain ⟨h1, h2, z, h3, h4, h5⟩ := h.2 x hx
    refine ⟨h1, h2, z, h3.below hb h3.lt, h4, fun e => h5 ?_⟩
    unfold setD at e
    simpa [hk x hx] using e⟩
theorem same (h : ResC b L RS D u) (k : Nat) (hk : ∀ x ∈ RS, x.1 ≠ k) : ResC b L RS (setD D k) u := h.below (Below.refl _ _) k hk
theorem at_ (h : ResC b L RS D u) (hm : (k, p, t, V) ∈ RS) : ∃ z, CellsAt u p t z ∧ z.size = V.size := by
  obtain ⟨_, _, z, h3, h4, _⟩ := h.2 _ hm
  exact ⟨z, h3, h4⟩
theorem stored (h : ResC b L RS D u) (hm : (k, p, t, V) ∈ RS) (hd : ∀ x ∈ RS, x = (k, p, t, V) ∨ (x.1 ≠ k ∧ x.2.1 ≠ p)) (hg : u.grownBy v (some p)) (hc : CellsAt v p t V) : ResC b L RS (setD D k) v := by
  obtain ⟨m1, m2, _⟩ := h.2 _ hm
  refine ⟨h.1.grown hg m1 m2, fun x hx => ?_⟩
  obtain ⟨h1, h2, z, h3, h4, h5⟩ := h.2 x hx
  rcases hd x hx with rfl | ⟨n1, n2⟩
  · exact ⟨h1, h2, V, hc, rfl, fun _ => rfl⟩
  · refine ⟨h1, h2, z, h3.grown hg (by intro e; injection e with e; exact n2 e), h4, fun e => h5 ?_⟩
    unfold setD at e
    simpa [n1] using e
theorem done (h : ResC b L RS D u) (hD : ∀ x ∈ RS, D x.1 = true) : Kept b (RS.map (fun x => (x.2.1, x.2.2.1, x.2.2.2)) ++ L) u := by
  refine ⟨h.1.1, fun y hy => ?_⟩
  rcases List.mem_append.1 hy with hy | hy
  · obtain ⟨x, hx, rfl⟩ := List.mem_map.1 hy
    obtain ⟨h1, _, z, h3, _, h5⟩ := h.2 x hx
    rw [h5 (hD x hx)] at h3
    exact ⟨h1, h3⟩
  · exact h.1.2 y hy
end ResC

/-- A free operation that makes a struct. -/
theorem steps_alloc {P : Program} {ρ : Operand → Value} {o : Oper} {t : TypeId} {w : World} {K : Value → World → Prop} {cs : Array Value} (hop : o.op = .alloc t) (hz : (P.info? t).map (·.zero) = some (some (.agg cs)))
    (h : K (.pointer (some ⟨w.heap.size, 0, none⟩)) (w.alloc (.cells cs t))) : stepsTo P ((execOp ρ o).run P w) K := by
  obtain ⟨i, hi, hzi⟩ := Option.map_eq_some_iff.1 hz
  have e : (execOp ρ o).run P w = .ok (.value (.pointer (some ⟨w.heap.size, 0, none⟩))) (w.alloc (.cells cs t)) := by
    unfold execOp
    rw [hop]
    simp [Instr.alloc, zeroValue, typeInfo, hi, hzi, newVar, newRow, newObj, Value.cells, go_sem]
    rfl
  rw [e]
  exact h

/-- Boxes that the region makes: the place of the making, of the store, the type, what is stored. -/
abbrev Made := Nat × Nat × TypeId × Array Value
/-- .. and the boxes that the region makes hold something, and what was stored where it was. -/
def MadeC (b : World) (n0 : Nat) (L : List Box) (RS : List Res) (NS : List Made) (D : Nat → Bool) (γ : Nat → Value) (u : World) : Prop :=
  ResC b L RS D u ∧ b.heap.size ≤ n0 ∧ n0 ≤ u.heap.size ∧ (∀ x ∈ L, x.1 < n0) ∧ (∀ x ∈ RS, x.2.1 < n0) ∧
  (∀ x ∈ NS, D x.1 = true → ∃ g, γ x.1 = .pointer (some ⟨g, 0, none⟩) ∧ n0 ≤ g ∧ ∃ z, CellsAt u g x.2.2.1 z ∧ z.size = x.2.2.2.size ∧ (D x.2.1 = true → z = x.2.2.2)) ∧
  (∀ x ∈ NS, ∀ y ∈ NS, x.1 ≠ y.1 → D x.1 = true → D y.1 = true → γ x.1 ≠ γ y.1) ∧ (∀ x ∈ NS, D x.2.1 = true → D x.1 = true)
/-- What a place's value is like: of NS a pointer. -/
def ShM (vs : List (Nat × Value)) (ks : List Nat) : Nat → Value → Prop := fun i v => bif ks.contains i then ∃ g : Nat, v = .pointer (some ⟨g, 0, none⟩) else v = (vs.lookup i).getD undef
theorem ShM.inh (vs : List (Nat × Value)) (ks : List Nat) (i : Nat) : ∃ v, ShM vs ks i v := by
  unfold ShM
  cases ks.contains i
  · exact ⟨_, rfl⟩
  · exact ⟨_, 0, rfl⟩
namespace MadeC
variable {b u v : World} {n0 : Nat} {L : List Box} {RS : List Res} {NS : List Made} {D : Nat → Bool} {γ γ' : Nat → Value} {k p j : Nat} {t : TypeId} {V : Array Value}
theorem loc (ha : ∀ i, D i = true → γ i = γ' i) (h : MadeC b n0 L RS NS D γ u) : MadeC b n0 L RS NS D γ' u := by
  obtain ⟨h1, h2, h3, h4, h5, h6, h7, h8⟩ := h
  refine ⟨h1, h2, h3, h4, h5, fun x hx hd => ?_, fun x hx y hy hne hdx hdy => ?_, h8⟩
  · rw [← ha _ hd]; exact h6 x hx hd
  · rw [← ha _ hdx, ← ha _ hdy]; exact h7 x hx y hy hne hdx hdy
theorem start (h : ResC b L RS (fun _ => false) u) (hb : b.heap.size ≤ n0) (hn : n0 ≤ u.heap.size) (hL : ∀ x ∈ L, x.1 < n0) (hR : ∀ x ∈ RS, x.2.1 < n0) : MadeC b n0 L RS NS (fun _ => false) γ u :=
  ⟨h, hb, hn, hL, hR, fun _ _ e => (by cases e), fun _ _ _ _ _ e => (by cases e), fun _ _ e => (by cases e)⟩
/-- An operation that makes none of these, and stores in none. -/
theorem below (h : MadeC b n0 L RS NS D γ u) (hb : Below u.heap.size u v) (k : Nat) (w : Value) (hk : (∀ x ∈ RS, x.1 ≠ k) ∧ ∀ x ∈ NS, x.1 ≠ k ∧ x.2.1 ≠ k) : MadeC b n0 L RS NS (setD D k) (setG γ k w) v := by
  obtain ⟨h1, h2, h3, h4, h5, h6, h7, h8⟩ := h
  refine ⟨h1.below hb k hk.1, h2, Nat.le_trans h3 hb.size, h4, h5, fun x hx hd => ?_, fun x hx y hy hne hdx hdy => ?_, fun x hx hd => ?_⟩
  · have hn := hk.2 x hx
    have hd' : D x.1 = true := by unfold setD at hd; simpa [hn.1] using hd
    obtain ⟨g, e1, e2, z, e3, e4, e5⟩ := h6 x hx hd'
    refine ⟨g, by unfold setG; rw [if_neg hn.1]; exact e1, e2, z, e3.below hb e3.lt, e4, fun e => e5 ?_⟩
    unfold setD at e; simpa [hn.2] using e
  · have hnx := (hk.2 x hx).1
    have hny := (hk.2 y hy).1
    unfold setG setD at *
    rw [if_neg hnx, if_neg hny]
    exact h7 x hx y hy hne (by simpa [hnx] using hdx) (by simpa [hny] using hdy)
  · have hn := hk.2 x hx
    unfold setD at *
    rw [h8 x hx (by simpa [hn.2] using hd)]; simp
/-- A store into a result's box. -/
theorem stored (h : MadeC b n0 L RS NS D γ u) (hm : (k, p, t, V) ∈ RS) (hd : ∀ x ∈ RS, x = (k, p, t, V) ∨ (x.1 ≠ k ∧ x.2.1 ≠ p)) (hN : ∀ x ∈ NS, x.1 ≠ k ∧ x.2.1 ≠ k) (hg : u.grownBy v (some p)) (hc : CellsAt v p t V) (w : Value) :
    MadeC b n0 L RS NS (setD D k) (setG γ k w) v := by
  obtain ⟨h1, h2, h3, h4, h5, h6, h7, h8⟩ := h
  have hp := h5 _ hm
  simp only at hp
  refine ⟨h1.stored hm hd hg hc, h2, Nat.le_trans h3 hg.size, h4, h5, fun x hx hd => ?_, fun x hx y hy hne hdx hdy => ?_, fun x hx hd => ?_⟩
  · have hn := hN x hx
    have hd' : D x.1 = true := by unfold setD at hd; simpa [hn.1] using hd
    obtain ⟨g, e1, e2, z, e3, e4, e5⟩ := h6 x hx hd'
    refine ⟨g, by unfold setG; rw [if_neg hn.1]; exact e1, e2, z, e3.grown hg (by intro e; injection e with e; omega), e4, fun e => e5 ?_⟩
    unfold setD at e; simpa [hn.2] using e
  · have hnx := (hN x hx).1
    have hny := (hN y hy).1
    unfold setG setD at *
    rw [if_neg hnx, if_neg hny]
    exact h7 x hx y hy hne (by simpa [hnx] using hdx) (by simpa [hny] using hdy)
  · have hn := hN x hx
    unfold setD at *
    rw [h8 x hx (by simpa [hn.2] using hd)]; simp
/-- The making of a box. -/
theorem made (h : MadeC b n0 L RS NS D γ u) (hm : (k, j, t, V) ∈ NS) (hR : ∀ x ∈ RS, x.1 ≠ k) (hN : ∀ x ∈ NS, x = (k, j, t, V) ∨ (x.1 ≠ k ∧ x.2.1 ≠ k)) (hk : D k = false) (hjk : j ≠ k) {z : Array Value} (hz : z.size = V.size) :
    MadeC b n0 L RS NS (setD D k) (setG γ k (.pointer (some ⟨u.heap.size, 0, none⟩))) (u.alloc (.cells z t)) := by
  obtain ⟨h1, h2, h3, h4, h5, h6, h7, h8⟩ := h
  have hb : Below u.heap.size u (u.alloc (.cells z t)) := (Below.refl _ _).alloc (Nat.le_refl _) _
  refine ⟨h1.below hb k hR, h2, Nat.le_trans h3 hb.size, h4, h5, fun x hx hd => ?_, fun x hx y hy hne hdx hdy => ?_, fun x hx hd => ?_⟩
  · rcases hN x hx with rfl | hn
    · refine ⟨_, by unfold setG; rw [if_pos rfl], h3, z, CellsAt.new u t z, hz, fun e => ?_⟩
      unfold setD at e
      have := h8 _ hm (by simpa [hjk] using e)
      rw [hk] at this; cases this
    · have hd' : D x.1 = true := by unfold setD at hd; simpa [hn.1] using hd
      obtain ⟨g, e1, e2, z', e3, e4, e5⟩ := h6 x hx hd'
      refine ⟨g, by unfold setG; rw [if_neg hn.1]; exact e1, e2, z', e3.below hb e3.lt, e4, fun e => e5 ?_⟩
      unfold setD at e; simpa [hn.2] using e
  · have old : ∀ x ∈ NS, x.1 ≠ k → setD D k x.1 = true → setG γ k (.pointer (some ⟨u.heap.size, 0, none⟩)) x.1 = γ x.1 ∧ γ x.1 ≠ .pointer (some ⟨u.heap.size, 0, none⟩) := by
      intro x hx hne hd
      unfold setD at hd
      obtain ⟨g, e1, _, z', e3, _⟩ := h6 x hx (by simpa [hne] using hd)
      refine ⟨by unfold setG; rw [if_neg hne], fun e => ?_⟩
      rw [e1] at e
      have hlt := e3.lt
      simp only [Value.pointer.injEq, Option.some.injEq, Addr.mk.injEq, and_true] at e
      omega
    by_cases hxk : x.1 = k
    · have hyk : y.1 ≠ k := fun e => hne (hxk.trans e.symm)
      obtain ⟨a1, a2⟩ := old y hy hyk hdy
      rw [a1]
      unfold setG
      rw [if_pos hxk]
      exact fun e => a2 e.symm
    · obtain ⟨a1, a2⟩ := old x hx hxk hdx
      by_cases hyk : y.1 = k
      · rw [a1]
        unfold setG
        rw [if_pos hyk]
        exact a2
      · obtain ⟨b1, _⟩ := old y hy hyk hdy
        rw [a1, b1]
        unfold setD at hdx hdy
        exact h7 x hx y hy hne (by simpa [hxk] using hdx) (by simpa [hyk] using hdy)
  · rcases hN x hx with rfl | hn
    · simp [setD]
    · unfold setD at *
      rw [h8 x hx (by simpa [hn.2] using hd)]; simp
/-- Where a box has been made. -/
theorem box (h : MadeC b n0 L RS NS D γ u) (hm : (k, j, t, V) ∈ NS) (hk : D k = true) : ∃ g, γ k = .pointer (some ⟨g, 0, none⟩) ∧ ∃ z, CellsAt u g t z ∧ z.size = V.size := by
  obtain ⟨g, e1, _, z, e3, e4, _⟩ := h.2.2.2.2.2.1 _ hm hk
  exact ⟨g, e1, z, e3, e4⟩
/-- A store into a box that was made. -/
theorem filled (h : MadeC b n0 L RS NS D γ u) (hm : (k, j, t, V) ∈ NS) (hk : D k = true) (hR : ∀ x ∈ RS, x.1 ≠ j) (hN : ∀ x ∈ NS, x = (k, j, t, V) ∨ (x.1 ≠ k ∧ x.1 ≠ j ∧ x.2.1 ≠ j)) (hkj : k ≠ j) (he : γ k = .pointer (some ⟨p, 0, none⟩)) (hg : u.grownBy v (some p)) (hc : CellsAt v p t V) (w : Value) :
    MadeC b n0 L RS NS (setD D j) (setG γ j w) v := by
  obtain ⟨h1, h2, h3, h4, h5, h6, h7, h8⟩ := h
  obtain ⟨g0, e0, hp, _⟩ := h6 _ hm hk
  have hgp : g0 = p := by rw [e0] at he; simpa using he
  subst hgp
  refine ⟨?_, h2, Nat.le_trans h3 hg.size, h4, h5, fun x hx hd => ?_, fun x hx y hy hne hdx hdy => ?_, fun x hx hd => ?_⟩
  · refine ⟨h1.1.grown hg (by omega) (fun y hy => by have := h4 y hy; omega), fun x hx => ?_⟩
    obtain ⟨a1, a2, z, a3, a4, a5⟩ := h1.2 x hx
    refine ⟨a1, a2, z, a3.grown hg (by intro e; injection e with e; have := h5 x hx; omega), a4, fun e => a5 ?_⟩
    unfold setD at e
    simpa [hR x hx] using e
  · rcases hN x hx with rfl | hn
    · refine ⟨g0, by unfold setG; rw [if_neg hkj]; exact e0, hp, V, hc, rfl, fun _ => rfl⟩
    · have hd' : D x.1 = true := by unfold setD at hd; simpa [hn.2.1] using hd
      obtain ⟨g, e1, e2, z, e3, e4, e5⟩ := h6 x hx hd'
      have hgg : g ≠ g0 := by
        rintro rfl
        exact h7 x hx _ hm hn.1 hd' hk (e1.trans e0.symm)
      refine ⟨g, by unfold setG; rw [if_neg hn.2.1]; exact e1, e2, z, e3.grown hg (by intro e; injection e with e; exact hgg e), e4, fun e => e5 ?_⟩
      unfold setD at e; simpa [hn.2.2] using e
  · have nj : ∀ x ∈ NS, x.1 ≠ j := fun x hx => by rcases hN x hx with rfl | hn; exact hkj; exact hn.2.1
    have hnx := nj x hx
    have hny := nj y hy
    unfold setG setD at *
    rw [if_neg hnx, if_neg hny]
    exact h7 x hx y hy hne (by simpa [hnx] using hdx) (by simpa [hny] using hdy)
  · rcases hN x hx with rfl | hn
    · unfold setD; rw [hk]; simp
    · unfold setD at *
      rw [h8 x hx (by simpa [hn.2.2] using hd)]; simp
/-- In the end. -/
theorem done (h : MadeC b n0 L RS NS D γ u) (hR : ∀ x ∈ RS, D x.1 = true) : Kept b (RS.map (fun x => (x.2.1, x.2.2.1, x.2.2.2)) ++ L) u := h.1.done hR
theorem doneM (h : MadeC b n0 L RS NS D γ u) (hm : (k, j, t, V) ∈ NS) (hk : D k = true) (hj : D j = true) : ∃ g, γ k = .pointer (some ⟨g, 0, none⟩) ∧ n0 ≤ g ∧ CellsAt u g t V := by
  obtain ⟨g, e1, e2, z, e3, _, e5⟩ := h.2.2.2.2.2.1 _ hm hk
  rw [e5 hj] at e3
  exact ⟨g, e1, e2, e3⟩
end MadeC
theorem Kept.more {b w : World} {L : List Box} {g : Nat} {t : TypeId} {cs : Array Value} (h : Kept b L w) (hg : b.heap.size ≤ g) (hc : CellsAt w g t cs) : Kept b ((g, t, cs) :: L) w :=
  ⟨h.1, fun x hx => by rcases List.mem_cons.1 hx with rfl | hx; exact ⟨hg, hc⟩; exact h.2 x hx⟩
end Go.Proofs.Ythbkccagpggljaa.Mx

import Derived.Test.YtgaecedhkbneaaaGreatDoorG31
import Derived.Test.YtgaecedhkbneaaaGreatDoorG18
import Derived.Test.YtgaecedhkbneaaaGreatDoorG30
namespace Go.Proofs.YtgaecedhkbneaaaGreatDoor.Mx
open Go.ChangeShapes Go.WideShapes Go.ChangeAt Go.RowKit
set_option linter.unusedVariables false
def putT (T : Array Value) (o : Nat) (V : List Value) : Array Value := T.mapIdx fun i x => if o ≤ i then (V[i - o]?).getD x else x
theorem putT_get {T : Array Value} {o : Nat} {V : List Value} (h : o + V.length ≤ T.size) (k : Nat) (hk : k < V.length) : (putT T o V)[o + k]? = V[k]? := by
  unfold putT
  rw [Array.getElem?_mapIdx, Array.getElem?_eq_getElem (show o + k < T.size by omega)]
  simp [List.getElem?_eq_getElem hk]
theorem putT_set {T : Array Value} {o : Nat} {V : List Value} (h : o + V.length ≤ T.size) (k : Nat) (hk : k < V.length) (v : Value) : (putT T o V).setIfInBounds (o + k) v = putT T o (V.set k v) := by
  apply Array.ext_getElem?
  intro i
  unfold putT
  rw [Array.getElem?_setIfInBounds, Array.getElem?_mapIdx, Array.getElem?_mapIdx]
  by_cases e : o + k = i
  · subst e
    rw [if_pos rfl, Array.getElem?_eq_getElem (show o + k < T.size by omega)]
    simp [hk]
    omega
  · rw [if_neg e]
    rcases Nat.lt_or_ge i T.size with hi | hi
    · rw [Array.getElem?_eq_getElem hi]
      simp only [Option.map_some]
      congr 1
      by_cases h2 : o ≤ i
      · rw [if_pos h2, if_pos h2, List.getElem?_set_ne (by omega)]
      · rw [if_neg h2, if_neg h2]
    · rw [Array.getElem?_eq_none hi]; rfl
theorem putT_8 {u : World} {p o : Nat} {t : TypeId} {T : Array Value} {a0 a1 a2 a3 a4 a5 a6 a7 : Value} (hT : o + 8 ≤ T.size) (h : CellsAt u p t (putT T o [a0, a1, a2, a3, a4, a5, a6, a7])) :
    u.cell? ⟨p, o, none⟩ = some a0 ∧ u.cell? ⟨p, o + 1, none⟩ = some a1 ∧ u.cell? ⟨p, o + 2, none⟩ = some a2 ∧ u.cell? ⟨p, o + 3, none⟩ = some a3 ∧ u.cell? ⟨p, o + 4, none⟩ = some a4 ∧ u.cell? ⟨p, o + 5, none⟩ = some a5 ∧ u.cell? ⟨p, o + 6, none⟩ = some a6 ∧ u.cell? ⟨p, o + 7, none⟩ = some a7 ∧ ∀ i, u.frozen? ⟨p, i, none⟩ = false := by
  have g := fun k hk => (h.cell (o + k)).trans (putT_get (V := [a0, a1, a2, a3, a4, a5, a6, a7]) hT k hk)
  exact ⟨g 0 (by simp), g 1 (by simp), g 2 (by simp), g 3 (by simp), g 4 (by simp), g 5 (by simp), g 6 (by simp), g 7 (by simp), h.frozen⟩
theorem CellsAt.put8 {u : World} {p o : Nat} {t : TypeId} {T : Array Value} {V : List Value} (h : CellsAt u p t (putT T o V)) (hT : o + 8 ≤ T.size) (hV : V.length = 8) (k : Nat) (hk : k < 8) (v : Value) : CellsAt (u.setCell ⟨p, o + k, none⟩ v) p t (putT T o (V.set k v)) := by
  have h1 := h.set_ (o + k) v
  rwa [putT_set (by omega) k (by omega)] at h1
theorem steps_storeO {P : Program} {ρ : Operand → Value} {o : Oper} {t : TypeId} {x y : Operand} {w : World} {K : Value → World → Prop} {p k : Nat} {a b a' b' : Value} (h0 : w.cell? ⟨p, k, none⟩ = some a) (h1 : w.cell? ⟨p, k + 1, none⟩ = some b) (hf : ∀ i, w.frozen? ⟨p, i, none⟩ = false)
    (hop : o.op = .store t x y) (hx : ρ x = .pointer (some ⟨p, k, none⟩)) (hy : ρ y = .agg #[a', b']) (hi : (P.info? t).map (·.size) = some 2) (h2 : (#[a', b'] : Array Value).all (·.oneCell') = true)
    (h : K undef ((w.setCell ⟨p, k, none⟩ a').setCell ⟨p, k + 1, none⟩ b')) : stepsTo P ((execOp ρ o).run P w) K := by
  have ht : w.there p k 2 := fun j hj => by
    match j, hj with
    | 0, _ => exact ⟨by rw [Nat.add_zero, h0]; rfl, hf _⟩
    | 1, _ => exact ⟨by rw [h1]; rfl, hf _⟩
  have e2 : (execOp ρ o).run P w = .ok .skip ((w.setCell ⟨p, k, none⟩ a').setCell ⟨p, k + 1, none⟩ b') := by
    unfold execOp
    rw [hop]
    simp only [hx, hy, Instr.storeAt, Instr.sureAddr, Sem.run_bind, Sem.run_pure, Result.andThen_ok, run_storeVar_mid w p k t #[a', b'] ht hi h2]
    rfl
  rw [e2]
  exact h
theorem rowT_new {b : World} {g : Nat} {t : TypeId} {cs : Array Value} (h : CellsAt b g t cs) (cs' : Array Value) : CellsAt (b.setRow g cs') g t cs' := setRow_heap b g cs cs' t (0, 0) h
theorem rowT_else {b : World} {g g' : Nat} {t : TypeId} {D : Array Value} (h : CellsAt b g' t D) (hn : g' ≠ g) (cs' : Array Value) : CellsAt (b.setRow g cs') g' t D := (setRow_other b g g' cs' hn).trans h
theorem Kept.turn {b u u' : World} {L : List Box} {g : Nat} {t : TypeId} {cs cs' : Array Value} (h : Kept b L u) (hb : CellsAt b g t cs) (hg : u.grownBy u' (some g)) (hc : CellsAt u' g t cs') : Kept (b.setRow g cs') L u' := by
  have hlt := hb.lt
  refine ⟨⟨hg.os.trans h.1.os, hg.tape.trans h.1.tape, hg.output.trans h.1.output, by simpa using Nat.le_trans h.1.size hg.size, fun k hk => ?_⟩, fun x hx => ⟨by simpa using (h.2 x hx).1, (h.2 x hx).2.grown hg (by intro e; injection e with e; have := (h.2 x hx).1; omega)⟩⟩
  rw [setRow_size] at hk
  by_cases e : k = g
  · subst e
    exact (show u'.heap[k]? = _ from hc).trans (rowT_new hb cs').symm
  · rw [setRow_other b g k cs' e]
    exact (hg.block k (Nat.lt_of_lt_of_le hk h.1.size) (by intro e2; injection e2 with e2; exact e e2)).trans (h.1.block k hk)
theorem tru8O_put {w1 : World} {r o : Nat} {t : TypeId} {T : Array Value} {x0 x1 x2 x3 x4 x5 x6 x7 y0 y1 y2 y3 y4 y5 y6 y7 : Value} (hT : o + 8 ≤ T.size) (hk : CellsAt w1 r t (putT T o [y0, y1, y2, y3, y4, y5, y6, y7])) :
    CellsAt ((((((((w1.setCell ⟨r, o, none⟩ x0).setCell ⟨r, o + 1, none⟩ x1).setCell ⟨r, o + 2, none⟩ x2).setCell ⟨r, o + 3, none⟩ x3).setCell ⟨r, o + 4, none⟩ x4).setCell ⟨r, o + 5, none⟩ x5).setCell ⟨r, o + 6, none⟩ x6).setCell ⟨r, o + 7, none⟩ x7) r t (putT T o [x0, x1, x2, x3, x4, x5, x6, x7]) ∧
    w1.grownBy ((((((((w1.setCell ⟨r, o, none⟩ x0).setCell ⟨r, o + 1, none⟩ x1).setCell ⟨r, o + 2, none⟩ x2).setCell ⟨r, o + 3, none⟩ x3).setCell ⟨r, o + 4, none⟩ x4).setCell ⟨r, o + 5, none⟩ x5).setCell ⟨r, o + 6, none⟩ x6).setCell ⟨r, o + 7, none⟩ x7) (some r) :=
  ⟨(((((((hk.put8 hT rfl 0 (by decide) x0).put8 hT rfl 1 (by decide) x1).put8 hT rfl 2 (by decide) x2).put8 hT rfl 3 (by decide) x3).put8 hT rfl 4 (by decide) x4).put8 hT rfl 5 (by decide) x5).put8 hT rfl 6 (by decide) x6).put8 hT rfl 7 (by decide) x7,
   gb_set (gb_set (gb_set (gb_set (gb_set (gb_set (gb_set (gb_set (gb_refl w1 (some r)) o x0) (o + 1) x1) (o + 2) x2) (o + 3) x3) (o + 4) x4) (o + 5) x5) (o + 6) x6) (o + 7) x7⟩
theorem cel_putO {w1 : World} {r q : Nat} {t : TypeId} {D : Array Value} (hk : CellsAt w1 r t D) (x0 x1 : Value) :
    CellsAt ((w1.setCell ⟨r, q, none⟩ x0).setCell ⟨r, q + 1, none⟩ x1) r t ((D.setIfInBounds q x0).setIfInBounds (q + 1) x1) ∧ w1.grownBy ((w1.setCell ⟨r, q, none⟩ x0).setCell ⟨r, q + 1, none⟩ x1) (some r) :=
  ⟨(hk.set_ q x0).set_ (q + 1) x1, gb_set (gb_set (gb_refl w1 (some r)) q x0) (q + 1) x1⟩
theorem putT_same {T : Array Value} {o : Nat} {V : List Value} (h : ∀ k, k < V.length → T[o + k]? = V[k]?) : putT T o V = T := by
  apply Array.ext_getElem?
  intro i
  unfold putT
  rw [Array.getElem?_mapIdx]
  rcases Nat.lt_or_ge i T.size with hi | hi
  · rw [Array.getElem?_eq_getElem hi]
    simp only [Option.map_some]
    by_cases h2 : o ≤ i
    · rw [if_pos h2]
      rcases Nat.lt_or_ge (i - o) V.length with h3 | h3
      · have h4 := h (i - o) h3
        rw [show o + (i - o) = i by omega, Array.getElem?_eq_getElem hi] at h4
        rw [← h4]; rfl
      · rw [List.getElem?_eq_none h3]; rfl
    · rw [if_neg h2]
  · rw [Array.getElem?_eq_none hi]; rfl
theorem grown_setRow (w : World) (g : Nat) (cs : Array Value) : w.grownBy (w.setRow g cs) (some g) := ⟨rfl, rfl, rfl, by simp, fun k _ hk => setRow_other w g k cs (fun e => hk (by rw [e]))⟩
theorem TrRow.turn {w : World} {base c g k : Nat} {L : List Tru} (h : TrRow w base (.slice (some ⟨g, 0, none⟩) L.length c) L) (hk : k < L.length) :
    ∃ T, k * 8 + 8 ≤ T.size ∧ CellsAt w g 80 (putT T (k * 8) (truV (L.getD k default))) ∧ ∀ (u' : World) (t' : Tru), CellsAt u' g 80 (putT T (k * 8) (truV t')) → TrRow u' base (.slice (some ⟨g, 0, none⟩) L.length c) (L.set k t') := by
  have h0 := h
  obtain ⟨p0, p1, p2, p3, p4, p5, p6, p7⟩ := h.here hk
  rcases h.2 with ⟨h1, _⟩ | ⟨g', cap, cur, e1, hb, hg, hnc, hcm, hcs, htake⟩
  · cases h1
  · simp only [Value.slice.injEq, Option.some.injEq, Addr.mk.injEq, and_true, true_and] at e1
    obtain ⟨rfl, rfl⟩ := e1
    have hg' : CellsAt w g 80 cur := hg
    have hsz : k * 8 + 8 ≤ cur.size := by rw [hcs]; have := Nat.mul_le_mul_right 8 (show k + 1 ≤ c by omega); omega
    have he : putT cur (k * 8) (truV (L.getD k default)) = cur := by
      apply putT_same
      intro j hj
      rw [← hg'.cell]
      have hj8 : j < 8 := hj
      rcases (by omega : j = 0 ∨ j = 1 ∨ j = 2 ∨ j = 3 ∨ j = 4 ∨ j = 5 ∨ j = 6 ∨ j = 7) with rfl | rfl | rfl | rfl | rfl | rfl | rfl | rfl
      · exact p0
      · exact p1
      · exact p2
      · exact p3
      · exact p4
      · exact p5
      · exact p6
      · exact p7
    refine ⟨cur, hsz, by rw [he]; exact hg', fun u' t' hu => ?_⟩
    have hc0 : CellsAt w g 80 (putT cur (k * 8) (truV (L.getD k default))) := by rw [he]; exact hg'
    have h8 := tru8O_put (x0 := .int .i64 t'.clock) (x1 := .int .i64 t'.epoch) (x2 := .int .i64 t'.cursor) (x3 := .int .i64 t'.read) (x4 := .int .i64 t'.written) (x5 := .int .i64 t'.nread) (x6 := .int .i64 t'.nwritten) (x7 := .bool t'.failed) hsz hc0
    have hr := h0.set_ hk t'
    unfold TrRow SRow at hr ⊢
    rw [List.length_set] at hr ⊢
    exact row_same hr (fun q e => by
      injection e with e
      subst e
      exact (show u'.heap[g]? = _ from hu).trans h8.1.symm)
theorem ClRow.turn {w : World} {base c g k : Nat} {L : List Ce} (h : ClRow w base (.slice (some ⟨g, 0, none⟩) L.length c) L) (hk : k < L.length) :
    ∃ D, CellsAt w g 112 D ∧ D[k * 2]? = some (.int .i64 (L.getD k default).1) ∧ D[k * 2 + 1]? = some (.int .i64 (L.getD k default).2) ∧
      ∀ (u' : World) (c' : Ce), CellsAt u' g 112 ((D.setIfInBounds (k * 2) (.int .i64 c'.1)).setIfInBounds (k * 2 + 1) (.int .i64 c'.2)) → ClRow u' base (.slice (some ⟨g, 0, none⟩) L.length c) (L.set k c') := by
  have h0 := h
  obtain ⟨p0, p1⟩ := h.here hk
  rcases h.2 with ⟨h1, _⟩ | ⟨g', cap, cur, e1, hb, hg, hnc, hcm, hcs, htake⟩
  · cases h1
  · simp only [Value.slice.injEq, Option.some.injEq, Addr.mk.injEq, and_true, true_and] at e1
    obtain ⟨rfl, rfl⟩ := e1
    have hg' : CellsAt w g 112 cur := hg
    refine ⟨cur, hg', by rw [← hg'.cell]; exact p0, by rw [← hg'.cell]; exact p1, fun u' c' hu => ?_⟩
    have h2 := cel_putO (q := k * 2) hg' (.int .i64 c'.1) (.int .i64 c'.2)
    have hr := h0.set_ hk c'
    unfold ClRow SRow at hr ⊢
    rw [List.length_set] at hr ⊢
    exact row_same hr (fun q e => by
      injection e with e
      subst e
      exact (show u'.heap[g]? = _ from hu).trans h2.1.symm)
theorem VolO.turn2 {w : World} {base : Nat} {x : VolN} {A B C : Option Addr} {c d e g o sc n0 n1 n2 : Nat} {i j : Nat} (h : VolO w base x (.agg #[.int .i64 x.key, .slice A n0 c, .slice B n1 d, .slice C n2 e, .slice (some ⟨g, o, none⟩) 2 sc, .int .i64 x.count])) (hi : i < x.trusts.length) (hj : j < x.cells.length) :
    ∃ gT gC T D, B = some ⟨gT, 0, none⟩ ∧ C = some ⟨gC, 0, none⟩ ∧ base ≤ gT ∧ base ≤ gC ∧ gC ≠ gT ∧ i * 8 + 8 ≤ T.size ∧ CellsAt w gT 80 (putT T (i * 8) (truV (x.trusts.getD i default))) ∧ CellsAt w gC 112 D ∧
      D[j * 2]? = some (.int .i64 (x.cells.getD j default).1) ∧ D[j * 2 + 1]? = some (.int .i64 (x.cells.getD j default).2) ∧
      ∀ (t' : Tru) (c' : Ce), VolO ((w.setRow gT (putT T (i * 8) (truV t'))).setRow gC ((D.setIfInBounds (j * 2) (.int .i64 c'.1)).setIfInBounds (j * 2 + 1) (.int .i64 c'.2))) base { x with trusts := x.trusts.set i t', cells := x.cells.set j c' } (.agg #[.int .i64 x.key, .slice A n0 c, .slice B n1 d, .slice C n2 e, .slice (some ⟨g, o, none⟩) 2 sc, .int .i64 x.count]) := by
  obtain ⟨gT, rfl, hbT, -, hrT, hsT⟩ := h.trustsGet (by omega)
  obtain ⟨gC, rfl, hbC, -, hrC, -⟩ := h.cellsGet (by omega)
  obtain ⟨T, hT, hA, hnT⟩ := hrT.turn hi
  obtain ⟨D, hD, d0, d1, hnC⟩ := hrC.turn hj
  have hne : gC ≠ gT := fun e => by subst e; unfold CellsAt at hA hD; rw [hA] at hD; simp at hD
  refine ⟨gT, gC, T, D, rfl, rfl, hbT, hbC, hne, hT, hA, hD, d0, d1, fun t' c' => ?_⟩
  have h1 := hsT (w.setRow gT (putT T (i * 8) (truV t'))) (x.trusts.set i t') (by simp) (grown_setRow w gT _) (by rw [List.length_set]; exact hnT _ t' (rowT_new hA _))
  obtain ⟨gC', e1, -, -, -, hsC⟩ := h1.cellsGet (by simp only []; omega)
  injection e1 with e1; injection e1 with e1; subst e1
  exact hsC _ (x.cells.set j c') (by simp) (grown_setRow _ gC _) (by rw [List.length_set]; exact hnC _ c' (rowT_new (rowT_else hD hne _) _))
def Go2 (l1 l2 q s1 s2 : Nat) (K0 K1 K2 : World → Prop) (D : Nat → Bool) (u : World) : Prop :=
  (D q = true → D l1 = true ∧ D l2 = true) ∧ (D s1 = true → D q = true) ∧ (D s2 = true → D s1 = true) ∧ (D s1 = false → K0 u) ∧ (D s1 = true → D s2 = false → K1 u) ∧ (D s2 = true → K2 u)
namespace Go2
variable {l1 l2 q s1 s2 k : Nat} {K0 K1 K2 : World → Prop} {D : Nat → Bool} {u u' : World}
theorem bf {a b : Bool} (h : a = true → b = true) (hb : b = false) : a = false := by cases a; rfl; have := h rfl; rw [hb] at this; cases this
theorem start (h : K0 u) : Go2 l1 l2 q s1 s2 K0 K1 K2 (fun _ => false) u := ⟨fun e => (by cases e), fun e => (by cases e), fun e => (by cases e), fun _ => h, fun e => (by cases e), fun e => (by cases e)⟩
theorem e1 (h : Go2 l1 l2 q s1 s2 K0 K1 K2 D u) (hq : D q = false) : D s1 = false := bf h.2.1 hq
theorem pre1 (h : Go2 l1 l2 q s1 s2 K0 K1 K2 D u) (hl : D l1 = false) : K0 u := h.2.2.2.1 (h.e1 (bf (fun e => (h.1 e).1) hl))
theorem pre2 (h : Go2 l1 l2 q s1 s2 K0 K1 K2 D u) (hl : D l2 = false) : K0 u := h.2.2.2.1 (h.e1 (bf (fun e => (h.1 e).2) hl))
theorem skip (h : Go2 l1 l2 q s1 s2 K0 K1 K2 D u) (nq : k ≠ q) (n1 : k ≠ s1) (n2 : k ≠ s2) : Go2 l1 l2 q s1 s2 K0 K1 K2 (setD D k) u := by
  obtain ⟨h1, h2, h3, h4, h5, h6⟩ := h
  have e : ∀ j, k ≠ j → setD D k j = D j := fun j hj => by unfold setD; simp [Ne.symm hj]
  have up : ∀ j, D j = true → setD D k j = true := fun j hj => by unfold setD; simp [hj]
  unfold Go2
  rw [e q nq, e s1 n1, e s2 n2]
  exact ⟨fun hq => ⟨up _ (h1 hq).1, up _ (h1 hq).2⟩, h2, h3, h4, h5, h6⟩
theorem call (h : Go2 l1 l2 q s1 s2 K0 K1 K2 D u) (hq : D q = false) (h1 : D l1 = true) (h2 : D l2 = true) (n1 : q ≠ s1) (n2 : q ≠ s2) (hk : K0 u') : Go2 l1 l2 q s1 s2 K0 K1 K2 (setD D q) u' := by
  have z1 := h.e1 hq
  have z2 := bf h.2.2.1 z1
  have e : ∀ j, q ≠ j → setD D q j = D j := fun j hj => by unfold setD; simp [Ne.symm hj]
  have up : ∀ j, D j = true → setD D q j = true := fun j hj => by unfold setD; simp [hj]
  unfold Go2
  rw [e s1 n1, e s2 n2, z1, z2]
  exact ⟨fun _ => ⟨up _ h1, up _ h2⟩, fun e => (by cases e), fun e => (by cases e), fun _ => hk, fun e => (by cases e), fun e => (by cases e)⟩
theorem put1 (h : Go2 l1 l2 q s1 s2 K0 K1 K2 D u) (h1 : D s1 = false) (hq : D q = true) (nq : q ≠ s1) (n2 : s1 ≠ s2) (hk : K1 u') : Go2 l1 l2 q s1 s2 K0 K1 K2 (setD D s1) u' := by
  have z2 := bf h.2.2.1 h1
  have e : ∀ j, s1 ≠ j → setD D s1 j = D j := fun j hj => by unfold setD; simp [Ne.symm hj]
  have up : ∀ j, D j = true → setD D s1 j = true := fun j hj => by unfold setD; simp [hj]
  have es : setD D s1 s1 = true := by unfold setD; simp
  unfold Go2
  rw [e s2 n2, z2, es]
  exact ⟨fun _ => ⟨up _ (h.1 hq).1, up _ (h.1 hq).2⟩, fun _ => up _ hq, fun e => (by cases e), fun e => (by cases e), fun _ _ => hk, fun e => (by cases e)⟩
theorem put2 (h : Go2 l1 l2 q s1 s2 K0 K1 K2 D u) (h1 : D s1 = true) (hk : K2 u') : Go2 l1 l2 q s1 s2 K0 K1 K2 (setD D s2) u' := by
  have hq := h.2.1 h1
  have up : ∀ j, D j = true → setD D s2 j = true := fun j hj => by unfold setD; simp [hj]
  have es : setD D s2 s2 = true := by unfold setD; simp
  unfold Go2
  rw [es, up _ h1]
  exact ⟨fun _ => ⟨up _ (h.1 hq).1, up _ (h.1 hq).2⟩, fun _ => up _ hq, fun _ => rfl, fun e => (by cases e), fun _ e => (by cases e), fun _ => hk⟩
theorem all (h : Go2 l1 l2 q s1 s2 K0 K1 K2 D u) {R : World → Prop} (f0 : K0 u → R u) (f1 : K1 u → R u) (f2 : K2 u → R u) : R u := by
  obtain ⟨h1, h2, h3, h4, h5, h6⟩ := h
  cases e : D s1 with
  | false => exact f0 (h4 e)
  | true =>
    cases e2 : D s2 with
    | false => exact f1 (h5 e e2)
    | true => exact f2 (h6 e2)
end Go2
theorem steps_load8 {P : Program} {ρ : Operand → Value} {o : Oper} {t : TypeId} {x : Operand} {w : World} {K : Value → World → Prop} {p k : Nat} {d : TypeDesc} {a0 a1 a2 a3 a4 a5 a6 a7 : Value} (h : w.cell? ⟨p, k, none⟩ = some a0 ∧ w.cell? ⟨p, k + 1, none⟩ = some a1 ∧ w.cell? ⟨p, k + 2, none⟩ = some a2 ∧ w.cell? ⟨p, k + 3, none⟩ = some a3 ∧ w.cell? ⟨p, k + 4, none⟩ = some a4 ∧ w.cell? ⟨p, k + 5, none⟩ = some a5 ∧ w.cell? ⟨p, k + 6, none⟩ = some a6 ∧ w.cell? ⟨p, k + 7, none⟩ = some a7 ∧ ∀ i, w.frozen? ⟨p, i, none⟩ = false)
    (hop : o.op = .load t x) (hx : ρ x = .pointer (some ⟨p, k, none⟩)) (hu : P.underlying t = some d) (hd : d.isRow = true) (hi : (P.info? t).map (·.size) = some 8) (hK : K (.agg #[a0, a1, a2, a3, a4, a5, a6, a7]) w) : stepsTo P ((execOp ρ o).run P w) K := by
  obtain ⟨h0, h1, h2, h3, h4, h5, h6, h7, -⟩ := h
  have hr : w.rangeAt p k [a0, a1, a2, a3, a4, a5, a6, a7] := fun j v hj => by
    have hj8 : j < 8 := (List.getElem?_eq_some_iff.1 hj).1
    rcases (by omega : j = 0 ∨ j = 1 ∨ j = 2 ∨ j = 3 ∨ j = 4 ∨ j = 5 ∨ j = 6 ∨ j = 7) with rfl | rfl | rfl | rfl | rfl | rfl | rfl | rfl <;> simp only [List.getElem?_cons_zero, List.getElem?_cons_succ, Option.some.injEq] at hj <;> subst hj <;> assumption
  have e2 : (execOp ρ o).run P w = .ok (.value (.agg #[a0, a1, a2, a3, a4, a5, a6, a7])) w := by
    unfold execOp
    rw [hop]
    simp only [hx, Instr.loadAt, Instr.sureAddr, Sem.run_bind, Sem.run_pure, Result.andThen_ok, run_loadVar_mid w p k t [a0, a1, a2, a3, a4, a5, a6, a7] d hr hu hd hi]
  rw [e2]
  exact hK
theorem steps_load2 {P : Program} {ρ : Operand → Value} {o : Oper} {t : TypeId} {x : Operand} {w : World} {K : Value → World → Prop} {p k : Nat} {d : TypeDesc} {a b : Value} (h0 : w.cell? ⟨p, k, none⟩ = some a) (h1 : w.cell? ⟨p, k + 1, none⟩ = some b)
    (hop : o.op = .load t x) (hx : ρ x = .pointer (some ⟨p, k, none⟩)) (hu : P.underlying t = some d) (hd : d.isRow = true) (hi : (P.info? t).map (·.size) = some 2) (h : K (.agg #[a, b]) w) : stepsTo P ((execOp ρ o).run P w) K := by
  have hr : w.rangeAt p k [a, b] := fun j v hj => by
    match j, hj with
    | 0, hj => simp at hj; subst hj; exact h0
    | 1, hj => simp at hj; subst hj; exact h1
  have e2 : (execOp ρ o).run P w = .ok (.value (.agg #[a, b])) w := by
    unfold execOp
    rw [hop]
    simp only [hx, Instr.loadAt, Instr.sureAddr, Sem.run_bind, Sem.run_pure, Result.andThen_ok, run_loadVar_mid w p k t [a, b] d hr hu hd hi]
  rw [e2]
  exact h
theorem steps_store8 {P : Program} {ρ : Operand → Value} {o : Oper} {t : TypeId} {x y : Operand} {w : World} {K : Value → World → Prop} {p k : Nat} {t' : TypeId} {T : Array Value} {a0 a1 a2 a3 a4 a5 a6 a7 b0 b1 b2 b3 b4 b5 b6 b7 : Value} (hT : k + 8 ≤ T.size) (hc : CellsAt w p t' (putT T k [a0, a1, a2, a3, a4, a5, a6, a7]))
    (hop : o.op = .store t x y) (hx : ρ x = .pointer (some ⟨p, k, none⟩)) (hy : ρ y = .agg #[b0, b1, b2, b3, b4, b5, b6, b7]) (hi : (P.info? t).map (·.size) = some 8) (h2 : (#[b0, b1, b2, b3, b4, b5, b6, b7] : Array Value).all (·.oneCell') = true)
    (h : ∀ w', w.grownBy w' (some p) → CellsAt w' p t' (putT T k [b0, b1, b2, b3, b4, b5, b6, b7]) → K undef w') : stepsTo P ((execOp ρ o).run P w) K := by
  obtain ⟨h0, h1, h2', h3, h4, h5, h6, h7, hf⟩ := putT_8 hT hc
  have ht : w.there p k 8 := fun j hj => by
    rcases (by omega : j = 0 ∨ j = 1 ∨ j = 2 ∨ j = 3 ∨ j = 4 ∨ j = 5 ∨ j = 6 ∨ j = 7) with rfl | rfl | rfl | rfl | rfl | rfl | rfl | rfl
    · exact ⟨by rw [Nat.add_zero, h0]; rfl, hf _⟩
    · exact ⟨by rw [h1]; rfl, hf _⟩
    · exact ⟨by rw [h2']; rfl, hf _⟩
    · exact ⟨by rw [h3]; rfl, hf _⟩
    · exact ⟨by rw [h4]; rfl, hf _⟩
    · exact ⟨by rw [h5]; rfl, hf _⟩
    · exact ⟨by rw [h6]; rfl, hf _⟩
    · exact ⟨by rw [h7]; rfl, hf _⟩
  have h8 := tru8O_put (x0 := b0) (x1 := b1) (x2 := b2) (x3 := b3) (x4 := b4) (x5 := b5) (x6 := b6) (x7 := b7) hT hc
  have e2 : (execOp ρ o).run P w = .ok .skip ((((((((w.setCell ⟨p, k, none⟩ b0).setCell ⟨p, k + 1, none⟩ b1).setCell ⟨p, k + 2, none⟩ b2).setCell ⟨p, k + 3, none⟩ b3).setCell ⟨p, k + 4, none⟩ b4).setCell ⟨p, k + 5, none⟩ b5).setCell ⟨p, k + 6, none⟩ b6).setCell ⟨p, k + 7, none⟩ b7) := by
    unfold execOp
    rw [hop]
    simp only [hx, hy, Instr.storeAt, Instr.sureAddr, Sem.run_bind, Sem.run_pure, Result.andThen_ok, run_storeVar_mid w p k t #[b0, b1, b2, b3, b4, b5, b6, b7] ht hi h2]
    rfl
  rw [e2]
  exact h _ h8.2 h8.1
set_option maxRecDepth 20000 in
set_option maxHeartbeats 16000000 in
theorem touch_none (a0 a1 a2 a3 : Addr) (x : VolN) (A B C : Option Addr) (c d e g b p : Nat) (a value : Int) (w : World) (he : Errs w a0 a1 a2 a3) (hx : x.Short) (hv : VolO w b x (.agg #[.int .i64 x.key, .slice A x.counts.length c, .slice B x.trusts.length d, .slice C x.cells.length e, .slice (some ⟨g, 0, none⟩) 2 2, .int .i64 x.count])) (hp : CellsAt w p 31 #[.int .i64 x.key, .slice A x.counts.length c, .slice B x.trusts.length d, .slice C x.cells.length e, .slice (some ⟨g, 0, none⟩) 2 2, .int .i64 x.count]) (ha : I64 a) (hr : ¬ 0 ≤ regionOf x.key x.counts a) :
    Calls Tryz.prog 39 #[.pointer (some ⟨p, 0, none⟩), .int .i64 a, .int .i64 value] w fun e1 w' => e1 = .panicked [{ v := .iface 264 (.pointer (some a0)), recovered := false }] ∧ Below w.heap.size w w' := by
  have hv2 := hv.reads
  obtain ⟨A1, c1, B1, d1, C1, e1, b1, o1, s1, eq, i1, i2, i3, -, -, -, i7⟩ := hv2
  injection eq with eq
  simp only [Array.mk.injEq, List.cons.injEq, Value.slice.injEq, true_and, and_true] at eq
  obtain ⟨⟨rfl, rfl⟩, -⟩ := eq
  have RC := Lib.hid (fun (u : World) (hb : Below w.heap.size w u) => regionOf_calls x.key a A x.counts c u (by have := hx.1; unfold maxLen; omega) i7 ((i1.below hb (Nat.le_refl _)).more hb.size) ha)
  generalize regionOf x.key x.counts a = rr at RC hr
  have hge : decide (0 ≤ rr) = false := decide_eq_false hr
  have HP := Lib.hid hp
  have HE := Lib.hid he
  clear hv hp he i1 i2 i3 i7 hr
  go_enter Tryz.func39, Tryz.ntmps39
  have pc := HP.out.cell
  have pf := HP.out.frozen
  go_wp2_with fail
  refine (RC.out _ (Below.refl _ _)).mono ?_; rintro e1 w1 ⟨rfl, b1⟩
  have B1 := Lib.hid b1
  clear b1 pc pf RC
  go_wp2_with fail
  refine (demand_no a0 a1 a2 a3 w1 (HE.out.below B1.out)).mono ?_; rintro e1 w2 ⟨rfl, rfl⟩
  go_wp2_with fail
  exact ⟨rfl, rfl, B1.out⟩
set_option maxRecDepth 20000 in
set_option maxHeartbeats 16000000 in
theorem touch_some (a0 a1 a2 a3 : Addr) (x : VolN) (A B C : Option Addr) (c d e g b p : Nat) (a value : Int) (w : World) (he : Errs w a0 a1 a2 a3) (hx : x.Inv) (hv : VolO w b x (.agg #[.int .i64 x.key, .slice A x.counts.length c, .slice B x.trusts.length d, .slice C x.cells.length e, .slice (some ⟨g, 0, none⟩) 2 2, .int .i64 x.count])) (hp : CellsAt w p 31 #[.int .i64 x.key, .slice A x.counts.length c, .slice B x.trusts.length d, .slice C x.cells.length e, .slice (some ⟨g, 0, none⟩) 2 2, .int .i64 x.count]) (hpb : p < b) (ha : I64 a) (hval : ValOk value) (hr : 0 ≤ regionOf x.key x.counts a) :
    Calls Tryz.prog 39 #[.pointer (some ⟨p, 0, none⟩), .int .i64 a, .int .i64 value] w fun e1 w' => e1 = .returned (.tuple #[.int .i64 (touchVol x a value).2.1, .int .i64 (touchVol x a value).2.2]) ∧ VolO w' b (touchVol x a value).1 (.agg #[.int .i64 x.key, .slice A x.counts.length c, .slice B x.trusts.length d, .slice C x.cells.length e, .slice (some ⟨g, 0, none⟩) 2 2, .int .i64 x.count]) ∧ Below b w w' := by
  obtain ⟨i, er, hi, hpl, hq0, hq1, hq2⟩ := regionOf_up hr
  have hi' : i < x.trusts.length := by rw [hx.fit.1]; exact hi
  have hup := upTo_mono hpl.2.2.1 (i := i + 1) (j := x.counts.length) (by omega) (Nat.le_refl _)
  obtain ⟨j, rfl⟩ : ∃ j : Nat, a = j := ⟨a.toNat, by omega⟩
  have hj : j < x.cells.length := by have := hx.fit.2; omega
  have htr : trustOk x.key x.counts i (x.trusts.getD i default) := hx.2.1.2.2 i hi'
  have hce : isCell (x.cells.getD j default).1 (x.cells.getD j default).2 := hx.2.2.1.1 j hj
  have hok : touchOk x.key x.counts (x.trusts.getD i default) j (x.cells.getD j default).1 (x.cells.getD j default).2 value := ⟨hr, by rw [er]; exact htr, hce, hval⟩
  have hne : (touched x.key x.counts (x.trusts.getD i default) (j : Int) (x.cells.getD j default).1 (x.cells.getD j default).2 value).2.2.2 ≠ 1 := by
    unfold touched
    rw [if_pos hok]
    split
    · simp
    · split
      · simp
      · split <;> simp
  unfold touchVol
  rw [if_pos hr, er]
  simp only [Int.toNat_natCast]
  rw [if_neg hne]
  clear hne hok
  have hv2 := hv.reads
  obtain ⟨A1, c1, B1, d1, C1, e1, b1, o1, s1, eq, i1, i2, i3, -, -, -, i7⟩ := hv2
  injection eq with eq
  simp only [Array.mk.injEq, List.cons.injEq, Value.slice.injEq, true_and, and_true] at eq
  obtain ⟨⟨rfl, rfl⟩, -⟩ := eq
  have hs := hx.short
  have RC := Lib.hid (fun (u : World) (hb : Below w.heap.size w u) => regionOf_calls x.key j A x.counts c u (by have := hs.1; unfold maxLen; omega) i7 ((i1.below hb (Nat.le_refl _)).more hb.size) ha)
  rw [er] at RC
  have hcn := hce
  unfold isCell isTm isVal at hcn
  have TC := Lib.hid (fun (u : World) (hb : Below w.heap.size w u) => implTouched_calls a0 a1 a2 a3 x.key j (x.cells.getD j default).1 (x.cells.getD j default).2 value A x.counts c (x.trusts.getD i default).clock (x.trusts.getD i default).epoch (x.trusts.getD i default).cursor (x.trusts.getD i default).read (x.trusts.getD i default).written (x.trusts.getD i default).nread (x.trusts.getD i default).nwritten (x.trusts.getD i default).failed u hs.1 i7 ((i1.below hb (Nat.le_refl _)).more hb.size) ha ⟨by omega, by omega⟩ ⟨by omega, by omega⟩ (he.below hb))
  rw [show (⟨(x.trusts.getD i default).clock, (x.trusts.getD i default).epoch, (x.trusts.getD i default).cursor, (x.trusts.getD i default).read, (x.trusts.getD i default).written, (x.trusts.getD i default).nread, (x.trusts.getD i default).nwritten, (x.trusts.getD i default).failed⟩ : Tru) = x.trusts.getD i default from rfl] at TC
  obtain ⟨gT, gC, T, D, rfl, rfl, hbT, hbC, hneg, hT, hA, hD, d0, d1, hfin⟩ := hv.turn2 hi' hj
  generalize touched x.key x.counts (x.trusts.getD i default) (j : Int) (x.cells.getD j default).1 (x.cells.getD j default).2 value = P at TC ⊢
  obtain ⟨nt, nc, nr, ns⟩ := P
  have HFIN := Lib.hid (hfin nt nc)
  generalize x.trusts.getD i default = tt at hA TC
  generalize x.cells.getD j default = ct at d0 d1 TC
  have HP := Lib.hid hp
  have HA := Lib.hid (show CellsAt w gT 80 (putT T (i * 8) [.int .i64 tt.clock, .int .i64 tt.epoch, .int .i64 tt.cursor, .int .i64 tt.read, .int .i64 tt.written, .int .i64 tt.nread, .int .i64 tt.nwritten, .bool tt.failed]) from hA)
  have HD := Lib.hid hD
  have HT := Lib.hid hT
  have HD0 := Lib.hid (And.intro ((hD.cell (j * 2)).trans d0) ((hD.cell (j * 2 + 1)).trans d1))
  have HBS := Lib.hid (And.intro hbT (And.intro hbC (And.intro hneg hpb)))
  have hge : decide ((0 : Int) ≤ i) = true := decide_eq_true (by omega)
  have hil : (i : Int) < x.trusts.length := by omega
  have hjl : (j : Int) < x.cells.length := by omega
  have hi0 : (0 : Int) ≤ i := by omega
  have hj0 : (0 : Int) ≤ j := by omega
  have hsl : (x.trusts.length : Int) ≤ 1048576 := by have := hs.2.1; omega
  have hcl : (x.cells.length : Int) ≤ 1048576 := by have := hs.2.2.1; omega
  clear hv hp he i1 i2 i3 i7 hr hx hfin hA hD hT d0 d1 hbT hbC hneg hpb hce hcn htr er hi hpl hq0 hq1 hq2 hup hs
  go_enter Tryz.func39, Tryz.ntmps39
  have pc := HP.out.cell
  have pf := HP.out.frozen
  go_wp2_with fail
  refine (RC.out _ (Below.refl _ _)).mono ?_; rintro e1 w1 ⟨rfl, b1⟩
  have B1 := Lib.hid b1
  clear b1 pc pf RC
  go_wp2_with fail
  refine (demand_yes w1).mono ?_; rintro e1 w2 ⟨rfl, rfl⟩
  go_upto_region 3 with fail
  have k1 := Kept.of_below B1.out
  clear B1
  refine wp_region_free [false, true, false, false, false, false, true, false, false, false, false, true, false, false, false, true, false, false, false, false, true, false, false, true, false, false, false, false, true, false, true, false, false, false, false, false, false, true, false, true, false, false] (ShV [(1, (.pointer (some ⟨p, 0, none⟩))), (6, (.pointer (some ⟨p, 0, none⟩))), (11, (.pointer (some ⟨p, 0, none⟩))), (15, (.pointer (some ⟨p, 0, none⟩))), (20, .agg #[.int .i64 tt.clock, .int .i64 tt.epoch, .int .i64 tt.cursor, .int .i64 tt.read, .int .i64 tt.written, .int .i64 tt.nread, .int .i64 tt.nwritten, .bool tt.failed]), (23, (.pointer (some ⟨p, 0, none⟩))), (28, .agg #[.int .i64 ct.1, .int .i64 ct.2]), (30, .tuple #[.agg #[.int .i64 nt.clock, .int .i64 nt.epoch, .int .i64 nt.cursor, .int .i64 nt.read, .int .i64 nt.written, .int .i64 nt.nread, .int .i64 nt.nwritten, .bool nt.failed], .agg #[.int .i64 nc.1, .int .i64 nc.2], .int .i64 nr, .int .i64 ns])]) (fun D9 _ u => Go2 20 28 30 37 39 (fun u => Kept w [] u) (fun u => Kept (w.setRow gT (putT T (i * 8) [.int .i64 nt.clock, .int .i64 nt.epoch, .int .i64 nt.cursor, .int .i64 nt.read, .int .i64 nt.written, .int .i64 nt.nread, .int .i64 nt.nwritten, .bool nt.failed])) [] u) (fun u => Kept ((w.setRow gT (putT T (i * 8) [.int .i64 nt.clock, .int .i64 nt.epoch, .int .i64 nt.cursor, .int .i64 nt.read, .int .i64 nt.written, .int .i64 nt.nread, .int .i64 nt.nwritten, .bool nt.failed])).setRow gC ((D.setIfInBounds (j * 2) (.int .i64 nc.1)).setIfInBounds (j * 2 + 1) (.int .i64 nc.2))) [] u) D9 u) (by kernel_rfl) (by kernel_rfl) (fun γ => by kernel_rfl) (fun D9 γ γ' w9 _ h => h) (ShV.inh _) (fun γ => Go2.start k1.drew) (fun γ hγ => ?_)
  clear k1
  have g1 : γ 1 = (.pointer (some ⟨p, 0, none⟩)) := hγ 1 rfl
  have g6 : γ 6 = (.pointer (some ⟨p, 0, none⟩)) := hγ 6 rfl
  have g11 : γ 11 = (.pointer (some ⟨p, 0, none⟩)) := hγ 11 rfl
  have g15 : γ 15 = (.pointer (some ⟨p, 0, none⟩)) := hγ 15 rfl
  have g23 : γ 23 = (.pointer (some ⟨p, 0, none⟩)) := hγ 23 rfl
  have g20 : γ 20 = .agg #[.int .i64 tt.clock, .int .i64 tt.epoch, .int .i64 tt.cursor, .int .i64 tt.read, .int .i64 tt.written, .int .i64 tt.nread, .int .i64 tt.nwritten, .bool tt.failed] := hγ 20 rfl
  have g28 : γ 28 = .agg #[.int .i64 ct.1, .int .i64 ct.2] := hγ 28 rfl
  have g30 : γ 30 = .tuple #[.agg #[.int .i64 nt.clock, .int .i64 nt.epoch, .int .i64 nt.cursor, .int .i64 nt.read, .int .i64 nt.written, .int .i64 nt.nread, .int .i64 nt.nwritten, .bool nt.failed], .agg #[.int .i64 nc.1, .int .i64 nc.2], .int .i64 nr, .int .i64 ns] := hγ 30 rfl
  have g37 : γ 37 = undef := hγ 37 rfl
  have g39 : γ 39 = undef := hγ 39 rfl
  have RB : ∀ {D9 : Nat → Bool} {u : World}, Go2 20 28 30 37 39 (fun u => Kept w [] u) (fun u => Kept (w.setRow gT (putT T (i * 8) [.int .i64 nt.clock, .int .i64 nt.epoch, .int .i64 nt.cursor, .int .i64 nt.read, .int .i64 nt.written, .int .i64 nt.nread, .int .i64 nt.nwritten, .bool nt.failed])) [] u) (fun u => Kept ((w.setRow gT (putT T (i * 8) [.int .i64 nt.clock, .int .i64 nt.epoch, .int .i64 nt.cursor, .int .i64 nt.read, .int .i64 nt.written, .int .i64 nt.nread, .int .i64 nt.nwritten, .bool nt.failed])).setRow gC ((D.setIfInBounds (j * 2) (.int .i64 nc.1)).setIfInBounds (j * 2 + 1) (.int .i64 nc.2))) [] u) D9 u → CellsAt u p 31 #[.int .i64 x.key, .slice A x.counts.length c, .slice (some ⟨gT, 0, none⟩) x.trusts.length d, .slice (some ⟨gC, 0, none⟩) x.cells.length e, .slice (some ⟨g, 0, none⟩) 2 2, .int .i64 x.count] := fun h => by
    obtain ⟨z1, z2, z3, z4⟩ := HBS.out
    have p0 := HP.out
    have p1 := rowT_else (g := gT) p0 (by omega) (putT T (i * 8) [.int .i64 nt.clock, .int .i64 nt.epoch, .int .i64 nt.cursor, .int .i64 nt.read, .int .i64 nt.written, .int .i64 nt.nread, .int .i64 nt.nwritten, .bool nt.failed])
    have p2 := rowT_else (g := gC) p1 (by omega) ((D.setIfInBounds (j * 2) (.int .i64 nc.1)).setIfInBounds (j * 2 + 1) (.int .i64 nc.2))
    exact Go2.all (R := fun u => CellsAt u p 31 #[.int .i64 x.key, .slice A x.counts.length c, .slice (some ⟨gT, 0, none⟩) x.trusts.length d, .slice (some ⟨gC, 0, none⟩) x.cells.length e, .slice (some ⟨g, 0, none⟩) 2 2, .int .i64 x.count]) h (fun k => p0.below k.1 p0.lt) (fun k => p1.below k.1 p1.lt) (fun k => p2.below k.1 p2.lt)
  apply Exists.intro
  refine ⟨fun D9 => ?_, ?_, ?_⟩
  · simp only [hushL, cond_true, cond_false, Nat.reduceAdd, g1, g6, g11, g15, g20, g23, g28, g30, g37, g39]
    iterate 42 (first
      | go_big_quiet_skip
      | (go_big_quiet_want
         go_big_quiet_op
         first
           | go_big_quiet_on
           | (apply Exists.intro
              refine ⟨fun u hu => ?_, ?_⟩
              · first
                  | with_reducible rfl
                  | (obtain ⟨kc0, kf0, -⟩ := (Rd.of (L := [(p, 31, #[.int .i64 x.key, .slice A x.counts.length c, .slice (some ⟨gT, 0, none⟩) x.trusts.length d, .slice (some ⟨gC, 0, none⟩) x.cells.length e, .slice (some ⟨g, 0, none⟩) 2 2, .int .i64 x.count])]) (fun y hy => by simp only [List.mem_cons, List.not_mem_nil, or_false] at hy; subst hy; exact RB hu)); go_simp; first | done | with_reducible rfl)
              go_big_quiet_on)))
    exact wpQuiet_nil rfl
  · simp only [freeOk, Nat.reduceAdd]
    refine ⟨fun D1 u hD1 hd hu => ?_, fun D1 u hD1 hd hu => ?_, fun D1 u hD1 hd hu => ?_, fun D1 u hD1 hd hu => ?_, fun D1 u hD1 hd hu => ?_, fun D1 u hD1 hd hu => ?_, fun D1 u hD1 hd hu => ?_, fun D1 u hD1 hd hu => ?_, fun D1 u hD1 hd hu => ?_, fun D1 u hD1 hd hu => ?_,  trivial⟩
    · exact steps_nilD rfl rfl ⟨rfl, hu.skip (by decide) (by decide) (by decide)⟩
    · exact steps_nilD rfl rfl ⟨rfl, hu.skip (by decide) (by decide) (by decide)⟩
    · exact steps_nilD rfl rfl ⟨rfl, hu.skip (by decide) (by decide) (by decide)⟩
    · exact steps_nilD rfl rfl ⟨rfl, hu.skip (by decide) (by decide) (by decide)⟩
    · have kk := hu.pre1 hD1
      exact steps_load8 (putT_8 HT.out (HA.out.below kk.1 HA.out.lt)) rfl rfl Tryz.underlying80 rfl (by kernel_rfl) ⟨rfl, hu.skip (by decide) (by decide) (by decide)⟩
    · exact steps_nilD rfl rfl ⟨rfl, hu.skip (by decide) (by decide) (by decide)⟩
    · have kk := hu.pre2 hD1
      exact steps_load2 ((kk.1.cell (p := ⟨gC, j * 2, none⟩) HD.out.lt).trans HD0.out.1) ((kk.1.cell (p := ⟨gC, j * 2 + 1, none⟩) HD.out.lt).trans HD0.out.2) rfl rfl Tryz.underlying112 rfl (by kernel_rfl) ⟨rfl, hu.skip (by decide) (by decide) (by decide)⟩
    · have d20 := hd { on := 20, ground := Ground.data } (by simp) rfl rfl
      have d28 := hd { on := 28, ground := Ground.data } (by simp) rfl rfl
      have kk := hu.2.2.2.1 (hu.e1 hD1)
      exact steps_call ((TC.out u kk.1).mono fun e w' ⟨he, hb⟩ => ⟨_, he, rfl, hu.call hD1 d20 d28 (by decide) (by decide) (kk.below hb)⟩) rfl rfl rfl rfl (by kernel_rfl)
    · have dq := hd { on := 30, ground := Ground.chain } (by simp) rfl rfl
      have kk := hu.2.2.2.1 hD1
      exact steps_store8 HT.out (HA.out.below kk.1 HA.out.lt) rfl rfl rfl (by kernel_rfl) (by simp [Value.oneCell']) (fun w' hg hc => ⟨rfl, hu.put1 hD1 dq (by decide) (by decide) (kk.turn HA.out hg hc)⟩)
    · have ds := hd { on := 37, ground := Ground.chain } (by simp) rfl rfl
      have kk := hu.2.2.2.2.1 ds hD1
      have hDA := rowT_else HD.out HBS.out.2.2.1 (putT T (i * 8) [.int .i64 nt.clock, .int .i64 nt.epoch, .int .i64 nt.cursor, .int .i64 nt.read, .int .i64 nt.written, .int .i64 nt.nread, .int .i64 nt.nwritten, .bool nt.failed])
      have hDu := hDA.below kk.1 hDA.lt
      have z0 : u.cell? ⟨gC, j * 2, none⟩ = some (.int .i64 ct.1) := (hDu.cell _).trans ((HD.out.cell _).symm.trans HD0.out.1)
      have z1 : u.cell? ⟨gC, j * 2 + 1, none⟩ = some (.int .i64 ct.2) := (hDu.cell _).trans ((HD.out.cell _).symm.trans HD0.out.2)
      have p2 := cel_putO (q := j * 2) hDu (.int .i64 nc.1) (.int .i64 nc.2)
      exact steps_storeO z0 z1 hDu.frozen rfl rfl rfl (by kernel_rfl) (by simp [Value.oneCell']) ⟨rfl, hu.put2 ds (kk.turn hDA p2.2 p2.1)⟩
  intro D1 w7 hD1 hu
  have k7 := hu.2.2.2.2.2 (hD1 39 (by simp) rfl)
  have K7 := Lib.hid k7
  clear hu hD1 g1 g6 g11 g15 g20 g23 g28 g30 g37 g39 hγ TC RB k7
  go_wp2_with fail
  go_ret2
  refine ⟨rfl, HFIN.out.below K7.out.1, ?_⟩
  have hb : Below b w ((w.setRow gT (putT T (i * 8) [.int .i64 nt.clock, .int .i64 nt.epoch, .int .i64 nt.cursor, .int .i64 nt.read, .int .i64 nt.written, .int .i64 nt.nread, .int .i64 nt.nwritten, .bool nt.failed])).setRow gC ((D.setIfInBounds (j * 2) (.int .i64 nc.1)).setIfInBounds (j * 2 + 1) (.int .i64 nc.2))) := ⟨rfl, rfl, rfl, by simp, fun k hk => by rw [setRow_other _ _ _ _ (by have := HBS.out.2.1; omega), setRow_other _ _ _ _ (by have := HBS.out.1; omega)]⟩
  have hbw : b ≤ w.heap.size := by have := HA.out.lt; have := HBS.out.1; omega
  exact hb.trans (K7.out.1.mono (by simpa using hbw))
end Go.Proofs.YtgaecedhkbneaaaGreatDoor.Mx

import Derived.Test.YteopplldbcgjjaaGreatDoorH38
import Derived.Test.YteopplldbcgjjaaGreatDoorH28
import Derived.Test.YteopplldbcgjjaaGreatDoorH21
import Derived.Deep.MidRow
import Derived.Test.YteopplldbcgjjaaGreatDoorH01
import Derived.Test.YteopplldbcgjjaaGreatDoorH05
namespace Go.Proofs.YteopplldbcgjjaaGreatDoor.Mx
open Go.ChangeShapes Go.WideShapes Go.ChangeAt Go.RowKit
set_option linter.unusedVariables false
def Row5 (u : World) (gc : Nat) (L : List Ce) : Prop := ∃ cur, CellsAt u gc 30 cur ∧ ∀ i, i < L.length → cur[i * 2]? = some (.int .i64 (L.getD i (0, 0)).1) ∧ cur[i * 2 + 1]? = some (.int .i64 (L.getD i (0, 0)).2)
theorem Row5.grown {u u' : World} {gc p : Nat} {L : List Ce} (h : Row5 u gc L) (hg : u.grownBy u' (some p)) (hp : gc ≠ p) : Row5 u' gc L := by
 obtain ⟨cur, hc, h⟩ := h
 exact ⟨cur, hc.grown hg (by intro e; injection e with e; exact hp e), h⟩
theorem Row5.below {u u' : World} {gc : Nat} {L : List Ce} (h : Row5 u gc L) (hb : Below u.heap.size u u') : Row5 u' gc L := by
 obtain ⟨cur, hc, h⟩ := h
 exact ⟨cur, hc.below hb hc.lt, h⟩
theorem Row5.drew {u : World} {gc : Nat} {L : List Ce} (h : Row5 u gc L) : Row5 u.drew gc L := by
 obtain ⟨cur, hc, h⟩ := h
 exact ⟨cur, hc.drew, h⟩
theorem Row5.cells {u : World} {gc : Nat} {L : List Ce} (h : Row5 u gc L) {i : Nat} (hi : i < L.length) : u.cell? ⟨gc, i * 2, none⟩ = some (.int .i64 (L.getD i (0, 0)).1) ∧ u.cell? ⟨gc, i * 2 + 1, none⟩ = some (.int .i64 (L.getD i (0, 0)).2) := by
 obtain ⟨cur, hc, h⟩ := h
 exact ⟨(hc.cell _).trans (h i hi).1, (hc.cell _).trans (h i hi).2⟩
theorem Row5.frozen {u : World} {gc : Nat} {L : List Ce} (h : Row5 u gc L) (i : Nat) : u.frozen? ⟨gc, i, none⟩ = false := by
 obtain ⟨cur, hc, h⟩ := h
 exact hc.frozen i
theorem Row5.set {u : World} {gc : Nat} {L : List Ce} (h : Row5 u gc L) {k : Nat} (hk : k < L.length) (e0 e1 : Int) :
    Row5 ((u.setCell ⟨gc, k * 2, none⟩ (.int .i64 e0)).setCell ⟨gc, k * 2 + 1, none⟩ (.int .i64 e1)) gc (L.set k (e0, e1)) ∧ u.grownBy ((u.setCell ⟨gc, k * 2, none⟩ (.int .i64 e0)).setCell ⟨gc, k * 2 + 1, none⟩ (.int .i64 e1)) (some gc) := by
 obtain ⟨cur, hc, h⟩ := h
 refine ⟨⟨_, (hc.set_ (k * 2) (.int .i64 e0)).set_ (k * 2 + 1) (.int .i64 e1), fun i hi => ?_⟩, gb_set (gb_set (gb_refl _ _) _ _) _ _⟩
 rw [List.length_set] at hi
 have hs : ∀ i, i < L.length → i * 2 + 1 < cur.size := fun i hi => (Array.getElem?_eq_some_iff.1 (h i hi).2).1
 have h1 := hs k hk
 rw [getD_set hk]
 simp only [Array.getElem?_setIfInBounds]
 by_cases e : i = k
 ·subst e
  rw [if_pos rfl]
  have n2 : i * 2 < cur.size := by omega
  simp [n2, h1]
 ·rw [if_neg e]
  have n1 : ¬ (k * 2 + 1 = i * 2) := by omega
  have n2 : ¬ (k * 2 = i * 2) := by omega
  have n3 : ¬ (k * 2 + 1 = i * 2 + 1) := by omega
  have n4 : ¬ (k * 2 = i * 2 + 1) := by omega
  simp only [n1, n2, n3, n4, if_false]
  exact h i hi
theorem Row5.set1 {u : World} {gc : Nat} {L : List Ce} (h : Row5 u gc L) {k : Nat} (hk : k < L.length) (e1 : Int) :
    Row5 (u.setCell ⟨gc, k * 2 + 1, none⟩ (.int .i64 e1)) gc (L.set k ((L.getD k (0, 0)).1, e1)) := by
 obtain ⟨cur, hc, h⟩ := h
 refine ⟨_, hc.set_ (k * 2 + 1) (.int .i64 e1), fun i hi => ?_⟩
 rw [List.length_set] at hi
 have hs : ∀ i, i < L.length → i * 2 + 1 < cur.size := fun i hi => (Array.getElem?_eq_some_iff.1 (h i hi).2).1
 have h1 := hs k hk
 rw [getD_set hk]
 simp only [Array.getElem?_setIfInBounds]
 by_cases e : i = k
 ·subst e
  rw [if_pos rfl]
  simp [h1]
  exact (h i hi).1
 ·rw [if_neg e]
  have n1 : ¬ (k * 2 + 1 = i * 2) := by omega
  have n3 : ¬ (k * 2 + 1 = i * 2 + 1) := by omega
  simp only [n1, n3, if_false]
  exact h i hi
theorem Row5.of {u : World} {base : Nat} {v : Value} {L : List Ce} (h : CRow u base v L) (h0 : 0 < L.length) : ∃ gc cc, v = .slice (some ⟨gc, 0, none⟩) L.length cc ∧ base ≤ gc ∧ gc < u.heap.size ∧ Row5 u gc L := by
 rcases h.2 with ⟨-, hn⟩ | ⟨g, cap, cur, rfl, hb, hg, hnc, hcm, hcs, htake⟩
 ·omega
 ·have hc : CellsAt u g 30 cur := hg
  refine ⟨g, cap, rfl, hb, hc.lt, cur, hc, fun i hi => ⟨?_, ?_⟩⟩
  ·have := World.ownsRow.cellAt h (i * 2) (by omega)
   rw [hc.cell, show i * 2 = i * 2 + 0 from rfl, flatC_get L i 0 hi (by omega)] at this
   simpa using this
  ·have := World.ownsRow.cellAt h (i * 2 + 1) (by omega)
   rw [hc.cell, flatC_get L i 1 hi (by omega)] at this
   simpa using this
theorem Dice.gb {w w' : World} {g p : Nat} {A : Option Addr} {l : List Int} {cap : Nat} (h : Dice w g A l cap) (hg : w.grownBy w' (some p)) (hp : g < p) : Dice w' g A l cap := by
 obtain ⟨hA, i, x, hi, hc⟩ := h
 exact ⟨hA.gb hg (Nat.le_of_lt hc.lt) (by omega), i, x, hi, hc.grown hg (by intro e; injection e; omega)⟩
structure W9 (w : World) (g qb pb gc tb : Nat) (A : Option Addr) (l : List Int) (cap : Nat) (key c : Int) (T : Tru) (L : List Ce) (u : World) : Prop where
 b : Below w.heap.size w u
 d : Dice u g A l cap
 n : CellsAt u qb 2 #[.int .i64 c]
 p : CellsAt u pb 26 (pA key (some ⟨qb, 0, none⟩) 1 1)
 t : CellsAt u tb 28 (tR T)
 r : Row5 u gc L
 o : w.heap.size ≤ g ∧ g < qb ∧ qb < pb ∧ pb < gc ∧ gc < tb
namespace W9
variable {w : World} {g qb pb gc tb : Nat} {A : Option Addr} {l : List Int} {cap : Nat} {key c : Int} {T : Tru} {L : List Ce} {u u' : World}
theorem below (h : W9 w g qb pb gc tb A l cap key c T L u) (hb : Below u.heap.size u u') : W9 w g qb pb gc tb A l cap key c T L u' :=
 ⟨h.b.trans (hb.mono h.b.size), h.d.below hb h.d.lt, h.n.below hb h.n.lt, h.p.below hb h.p.lt, h.t.below hb h.t.lt, h.r.below hb, h.o⟩
theorem drew (h : W9 w g qb pb gc tb A l cap key c T L u) : W9 w g qb pb gc tb A l cap key c T L u.drew :=
 ⟨h.b.drew, h.d.drew, h.n.drew, h.p.drew, h.t.drew, h.r.drew, h.o⟩
theorem thrown (h : W9 w g qb pb gc tb A l cap key c T L u) (hg : u.grownBy u' (some g)) (hd : Dice u' g A l cap) : W9 w g qb pb gc tb A l cap key c T L u' := by
 obtain ⟨o0, o1, o2, o3, o4⟩ := h.o
 have f : ∀ {p : Nat}, g < p → some p ≠ some g := fun hp e => by injection e; omega
 exact ⟨bgb h.b hg h.b.size o0, hd, h.n.grown hg (f (by omega)), h.p.grown hg (f (by omega)), h.t.grown hg (f (by omega)), h.r.grown hg (by omega), h.o⟩
theorem trust (h : W9 w g qb pb gc tb A l cap key c T L u) {T' : Tru} (hg : u.grownBy u' (some tb)) (hc : CellsAt u' tb 28 (tR T')) : W9 w g qb pb gc tb A l cap key c T' L u' := by
 obtain ⟨o0, o1, o2, o3, o4⟩ := h.o
 have f : ∀ {p : Nat}, p < tb → some p ≠ some tb := fun hp e => by injection e; omega
 exact ⟨bgb h.b hg h.b.size (by omega), Dice.gb h.d hg (by omega), h.n.grown hg (f (by omega)), h.p.grown hg (f (by omega)), hc, h.r.grown hg (by omega), h.o⟩
theorem row (h : W9 w g qb pb gc tb A l cap key c T L u) {L' : List Ce} (hg : u.grownBy u' (some gc)) (hr : Row5 u' gc L') : W9 w g qb pb gc tb A l cap key c T L' u' := by
 obtain ⟨o0, o1, o2, o3, o4⟩ := h.o
 have f : ∀ {p : Nat}, p ≠ gc → some p ≠ some gc := fun hp e => by injection e; omega
 exact ⟨bgb h.b hg h.b.size (by omega), Dice.gb h.d hg (by omega), h.n.grown hg (f (by omega)), h.p.grown hg (f (by omega)), h.t.grown hg (f (by omega)), hr, h.o⟩
theorem ints (h : W9 w g qb pb gc tb A l cap key c T L u) : Ints u .i64 u.heap.size (some ⟨qb, 0, none⟩) [c] := by
 intro i hi
 obtain rfl : i = 0 := by simp at hi; omega
 exact ⟨qb, 0, rfl, h.n.lt, by have := h.n.cell 0; simpa using this⟩
theorem rd (h : W9 w g qb pb gc tb A l cap key c T L u) : Rd u [(qb, 2, #[.int .i64 c]), (pb, 26, (pA key (some ⟨qb, 0, none⟩) 1 1)), (tb, 28, (tR T))] :=
 Rd.of fun x hx => by
  simp only [List.mem_cons, List.not_mem_nil, or_false] at hx
  rcases hx with rfl | rfl | rfl
  ·exact h.n
  ·exact h.p
  ·exact h.t
end W9
theorem steps_loadE {P : Program} {ρ : Operand → Value} {o : Oper} {t : TypeId} {x : Operand} {w : World} {K : Value → World → Prop} {p k : Nat} {d : TypeDesc} {a b : Value} (h0 : w.cell? ⟨p, k, none⟩ = some a) (h1 : w.cell? ⟨p, k + 1, none⟩ = some b)
    (hop : o.op = .load t x) (hx : ρ x = .pointer (some ⟨p, k, none⟩)) (hu : P.underlying t = some d) (hd : d.isRow = true) (hi : (P.info? t).map (·.size) = some 2) (h : K (.agg #[a, b]) w) : stepsTo P ((execOp ρ o).run P w) K := by
 have hr : w.rangeAt p k [a, b] := fun j v hj => by
  match j, hj with
  | 0, hj => simp at hj; subst hj; exact h0
  | 1, hj => simp at hj; subst hj; exact h1
 have e2 : (execOp ρ o).run P w = .ok (.value (.agg #[a, b])) w := by
  unfold execOp
  rw [hop]
  simp only [hx, Instr.loadAt, Instr.sureAddr, Sem.run_bind, Sem.run_pure, Result.andThen_ok, run_loadVar_mid w p k t [a, b] d hr hu hd hi]
 rw [e2]
 exact h
theorem steps_storeE {P : Program} {ρ : Operand → Value} {o : Oper} {t : TypeId} {x y : Operand} {w : World} {K : Value → World → Prop} {p k : Nat} {a b a' b' : Value} (h0 : w.cell? ⟨p, k, none⟩ = some a) (h1 : w.cell? ⟨p, k + 1, none⟩ = some b) (hf : ∀ i, w.frozen? ⟨p, i, none⟩ = false)
    (hop : o.op = .store t x y) (hx : ρ x = .pointer (some ⟨p, k, none⟩)) (hy : ρ y = .agg #[a', b']) (hi : (P.info? t).map (·.size) = some 2) (h2 : (#[a', b'] : Array Value).all (·.oneCell') = true)
    (h : K undef ((w.setCell ⟨p, k, none⟩ a').setCell ⟨p, k + 1, none⟩ b')) : stepsTo P ((execOp ρ o).run P w) K := by
 have ht : w.there p k 2 := fun j hj => by
  match j, hj with
  | 0, _ => exact ⟨by rw [Nat.add_zero, h0]; rfl, hf _⟩
  | 1, _ => exact ⟨by rw [h1]; rfl, hf _⟩
 have e2 : (execOp ρ o).run P w = .ok .skip ((w.setCell ⟨p, k, none⟩ a').setCell ⟨p, k + 1, none⟩ b') := by
  unfold execOp
  rw [hop]
  simp only [hx, hy, Instr.storeAt, Instr.sureAddr, Sem.run_bind, Sem.run_pure, Result.andThen_ok, run_storeVar_mid w p k t #[a', b'] ht hi h2]
  rfl
 rw [e2]
 exact h
theorem tru_inj {T T' : Tru} {e0 e1 f0 f1 : Int} {vs us : List Value} (h : (Value.tuple (Value.agg (tR T) :: .agg (cA e0 e1) :: vs).toArray) = .tuple (Value.agg (tR T') :: .agg (cA f0 f1) :: us).toArray) : T = T' ∧ e0 = f0 ∧ e1 = f1 := by
 obtain ⟨a0, a1, a2, a3, a4, a5, a6, a7⟩ := T
 obtain ⟨b0, b1, b2, b3, b4, b5, b6, b7⟩ := T'
 simp only [Value.tuple.injEq, Array.mk.injEq, List.cons.injEq, Value.agg.injEq, Value.int.injEq, Value.bool.injEq, true_and, and_true] at h
 obtain ⟨⟨h0, h1, h2, h3, h4, h5, h6, h7⟩, ⟨h8, h9⟩, -⟩ := h
 subst h0 h1 h2 h3 h4 h5 h6 h7
 exact ⟨rfl, h8, h9⟩
def T9 (w : World) (g qb pb gc tb : Nat) (A : Option Addr) (l : List Int) (cap : Nat) (key c : Int) (T : Tru) (L : List Ce) (m : Nat) (pre : List Nat) (qi s1 s2 : Nat) (D : Nat → Bool) (γ : Nat → Value) (u : World) : Prop :=
 (D qi = true → ∀ i ∈ pre, D i = true) ∧ (D s1 = true → D qi = true) ∧ (D s2 = true → D s1 = true) ∧
 ∃ (T1 : Tru) (L1 : List Ce), W9 w g qb pb gc tb A l cap key c T1 L1 u ∧ (D s1 = false → T1 = T) ∧ (D s2 = false → L1 = L) ∧
   (D s1 = true → ∃ e0 e1 vs, γ qi = .tuple (Value.agg (tR T1) :: .agg (cA e0 e1) :: vs).toArray ∧ (D s2 = true → L1 = L.set m (e0, e1)))
namespace T9
variable {w : World} {g qb pb gc tb : Nat} {A : Option Addr} {l : List Int} {cap : Nat} {key c : Int} {T : Tru} {L : List Ce} {m : Nat} {pre : List Nat} {qi s1 s2 k : Nat} {D : Nat → Bool} {γ γ' : Nat → Value} {u u' : World} {x : Value}
theorem start (h : W9 w g qb pb gc tb A l cap key c T L u) : T9 w g qb pb gc tb A l cap key c T L m pre qi s1 s2 (fun _ => false) γ u :=
 ⟨fun e => (by cases e), fun e => (by cases e), fun e => (by cases e), T, L, h, fun _ => rfl, fun _ => rfl, fun e => (by cases e)⟩
theorem loc (ha : ∀ i, D i = true → γ i = γ' i) (h : T9 w g qb pb gc tb A l cap key c T L m pre qi s1 s2 D γ u) : T9 w g qb pb gc tb A l cap key c T L m pre qi s1 s2 D γ' u := by
 obtain ⟨h1, h2, h3, T1, L1, h4, h5, h6, h7⟩ := h
 exact ⟨h1, h2, h3, T1, L1, h4, h5, h6, fun e => by rw [← ha qi (h2 e)]; exact h7 e⟩
theorem bf {x y : Bool} (h : x = true → y = true) (hb : y = false) : x = false := by cases x; rfl; have := h rfl; rw [hb] at this; cases this
theorem early (h : T9 w g qb pb gc tb A l cap key c T L m pre qi s1 s2 D γ u) (e : D qi = false) : D s1 = false ∧ D s2 = false := by
 have e1 := bf h.2.1 e
 exact ⟨e1, bf h.2.2.1 e1⟩
theorem asIs (h : T9 w g qb pb gc tb A l cap key c T L m pre qi s1 s2 D γ u) (e : D qi = false) : W9 w g qb pb gc tb A l cap key c T L u := by
 obtain ⟨e1, e2⟩ := h.early e
 obtain ⟨h1, h2, h3, T1, L1, h4, h5, h6, h7⟩ := h
 rw [← h5 e1, ← h6 e2]; exact h4
theorem some9 (h : T9 w g qb pb gc tb A l cap key c T L m pre qi s1 s2 D γ u) : ∃ (T1 : Tru) (L1 : List Ce), W9 w g qb pb gc tb A l cap key c T1 L1 u := by
 obtain ⟨h1, h2, h3, T1, L1, h4, h5, h6, h7⟩ := h
 exact ⟨T1, L1, h4⟩
theorem step (h : T9 w g qb pb gc tb A l cap key c T L m pre qi s1 s2 D γ u) (e : D qi = false) (k : Nat) (hk : k ≠ qi ∧ k ≠ s1 ∧ k ≠ s2) (hu : W9 w g qb pb gc tb A l cap key c T L u') : T9 w g qb pb gc tb A l cap key c T L m pre qi s1 s2 (setD D k) (setG γ k x) u' := by
 obtain ⟨e1, e2⟩ := h.early e
 have f : ∀ {j}, j ≠ k → D j = false → setD D k j = false := fun hj hD => by unfold setD; simp [hj, hD]
 have g0 := f (Ne.symm hk.1) e
 have g1 := f (Ne.symm hk.2.1) e1
 have g2 := f (Ne.symm hk.2.2) e2
 exact ⟨fun e => (by rw [g0] at e; cases e), fun e => (by rw [g1] at e; cases e), fun e => (by rw [g2] at e; cases e), T, L, hu, fun _ => rfl, fun _ => rfl, fun e => (by rw [g1] at e; cases e)⟩
theorem call (h : T9 w g qb pb gc tb A l cap key c T L m pre qi s1 s2 D γ u) (e : D qi = false) (hpre : ∀ i ∈ pre, D i = true) (hne : qi ≠ s1 ∧ qi ≠ s2) (hu : W9 w g qb pb gc tb A l cap key c T L u') : T9 w g qb pb gc tb A l cap key c T L m pre qi s1 s2 (setD D qi) (setG γ qi x) u' := by
 obtain ⟨e1, e2⟩ := h.early e
 have f : ∀ {j}, j ≠ qi → D j = false → setD D qi j = false := fun hj hD => by unfold setD; simp [hj, hD]
 have g1 := f (Ne.symm hne.1) e1
 have g2 := f (Ne.symm hne.2) e2
 exact ⟨fun _ i hi => (by have := hpre i hi; unfold setD; simp [this]), fun e => (by rw [g1] at e; cases e), fun e => (by rw [g2] at e; cases e), T, L, hu, fun _ => rfl, fun _ => rfl, fun e => (by rw [g1] at e; cases e)⟩
theorem put1 (h : T9 w g qb pb gc tb A l cap key c T L m pre qi s1 s2 D γ u) (hq : D qi = true) (e : D s1 = false) (hne : s1 ≠ qi ∧ s1 ≠ s2) {T' : Tru} {e0 e1 : Int} {vs : List Value} (hγ : γ qi = .tuple (Value.agg (tR T') :: .agg (cA e0 e1) :: vs).toArray) (hg : u.grownBy u' (some tb)) (hc : CellsAt u' tb 28 (tR T')) : T9 w g qb pb gc tb A l cap key c T L m pre qi s1 s2 (setD D s1) (setG γ s1 x) u' := by
 obtain ⟨h1, h2, h3, T1, L1, h4, h5, h6, h7⟩ := h
 have e2 := bf h3 e
 have q : setD D s1 qi = true := by unfold setD; simp [hq]
 have s : setD D s1 s2 = false := by unfold setD; simp [Ne.symm hne.2, e2]
 refine ⟨fun _ => ?_, fun _ => q, fun e => (by rw [s] at e; cases e), T', L1, h4.trust hg hc, fun e => (by unfold setD at e; simp at e), fun _ => h6 e2, fun _ => ⟨e0, e1, vs, ?_, fun e => (by rw [s] at e; cases e)⟩⟩
 ·intro i hi; have := h1 hq i hi; unfold setD; simp [this]
 ·unfold setG; rw [if_neg (Ne.symm hne.1)]; exact hγ
theorem put2 (h : T9 w g qb pb gc tb A l cap key c T L m pre qi s1 s2 D γ u) (hs : D s1 = true) (hne : s2 ≠ qi ∧ s2 ≠ s1) {T' : Tru} {e0 e1 : Int} {vs : List Value} (hγ : γ qi = .tuple (Value.agg (tR T') :: .agg (cA e0 e1) :: vs).toArray) (hg : u.grownBy u' (some gc)) (hr : Row5 u' gc (L.set m (e0, e1))) : T9 w g qb pb gc tb A l cap key c T L m pre qi s1 s2 (setD D s2) (setG γ s2 x) u' := by
 obtain ⟨h1, h2, h3, T1, L1, h4, h5, h6, h7⟩ := h
 obtain ⟨f0, f1, us, h8, h9⟩ := h7 hs
 have q := h2 hs
 obtain ⟨rfl, rfl, rfl⟩ := tru_inj (h8.symm.trans hγ)
 have r : setD D s2 s1 = true := by unfold setD; simp [hs]
 refine ⟨fun _ => ?_, fun _ => (by unfold setD; simp [q]), fun _ => r, T1, _, h4.row hg hr, fun e => (by rw [r] at e; cases e), fun e => (by unfold setD at e; simp at e), fun _ => ⟨f0, f1, us, ?_, fun _ => rfl⟩⟩
 ·intro i hi; have := h1 q i hi; unfold setD; simp [this]
 ·unfold setG; rw [if_neg (Ne.symm hne.1)]; exact h8
theorem rowL (h : T9 w g qb pb gc tb A l cap key c T L m pre qi s1 s2 D γ u) (e : D s2 = false) : Row5 u gc L := by
 obtain ⟨h1, h2, h3, T1, L1, h4, h5, h6, h7⟩ := h
 rw [← h6 e]; exact h4.r
theorem done (h : T9 w g qb pb gc tb A l cap key c T L m pre qi s1 s2 D γ u) (d1 : D s1 = true) (d2 : D s2 = true) {T' : Tru} {e0 e1 : Int} {vs : List Value} (hγ : γ qi = .tuple (Value.agg (tR T') :: .agg (cA e0 e1) :: vs).toArray) : W9 w g qb pb gc tb A l cap key c T' (L.set m (e0, e1)) u := by
 obtain ⟨h1, h2, h3, T1, L1, h4, h5, h6, h7⟩ := h
 obtain ⟨f0, f1, us, h8, h9⟩ := h7 d1
 obtain ⟨rfl, rfl, rfl⟩ := tru_inj (h8.symm.trans hγ)
 rw [← h9 d2]; exact h4
end T9
def TG (key : Int) (c : Nat) (T : Tru) (L : List Ce) (m : Nat) (T' : Tru) (e0 e1 k : Int) : Prop := k = 0 ∧ Kp key c 0 T' (L.set m (e0, e1)) ∧ T'.clock = T.clock + 1 ∧ T'.epoch = T.epoch ∧ T'.cursor = T.cursor
def SG (key : Int) (c : Nat) (d : Int) (T : Tru) (L : List Ce) (m : Nat) (T' : Tru) (e0 e1 k : Int) : Prop :=
 (k = 0 ∧ T.cursor + 1 < c ∧ Kp key c d T' (L.set m (e0, e1)) ∧ T'.clock = T.clock + 1 ∧ T'.epoch = T.epoch ∧ T'.cursor = T.cursor + 1) ∨
 (k = 5 ∧ d = 0 ∧ ¬ T.cursor + 1 < c ∧ Kp key c 0 T' (L.set m (e0, e1)) ∧ T'.clock = T.clock + 1 ∧ T'.epoch = T.epoch + 1 ∧ T'.cursor = 0) ∨
 (k = 4 ∧ (∀ z : Int, d ≠ 4611686018427387904 * z) ∧ ¬ T.cursor + 1 < c ∧ T'.failed = true)
theorem scan_good {key : Int} {c : Nat} {d : Int} {T : Tru} {L : List Ce} (h : Kp key c d T L) {m : Nat} (hm : T.cursor = m) (hcl : T.clock < 100000) (hep : T.epoch < 1000) (hd : d = 0 ∨ ∀ z : Int, d ≠ 4611686018427387904 * z) :
    ∃ T' e0 e1 k, scanned key [(c : Int)] 0 T (L.getD m (0, 0)).1 (L.getD m (0, 0)).2 = (T', (e0, e1), k) ∧ SG key c d T L m T' e0 e1 k := by
 obtain ⟨e0, e1, hc, he, hs⟩ := h.scan hcl hep
 have hmm : T.cursor.toNat = m := by omega
 rw [hmm] at hs
 rw [hs]
 by_cases hlt : T.cursor + 1 < c
 ·rw [if_pos hlt]
  have := h.on hcl hep hc he hlt
  rw [hmm] at this
  exact ⟨_, _, _, _, rfl, .inl ⟨rfl, hlt, this, rfl, rfl, rfl⟩⟩
 ·rw [if_neg hlt]
  rcases hd with rfl | hd
  ·obtain ⟨T', h1, h2, h3, h4, h5⟩ := h.pass hcl hep hc he hlt
   rw [hmm] at h1 h2
   rw [h1]
   exact ⟨_, _, _, _, rfl, .inr (.inl ⟨rfl, rfl, hlt, h2, h3, h4, h5⟩)⟩
  ·obtain ⟨T', h1, h2⟩ := h.caught hd hlt (e0 := e0) (e1 := e1)
   rw [hmm] at h1
   rw [h1]
   exact ⟨_, _, _, _, rfl, .inr (.inr ⟨rfl, hd, hlt, h2⟩)⟩
theorem touch_good {key : Int} {c : Nat} {T : Tru} {L : List Ce} (h : Kp key c 0 T L) {m : Nat} (hm : m < c) (hcl : T.clock < 100000) {v : Int} (h0 : -1 ≤ v) (h1 : v ≤ 10006) :
    ∃ T' e0 e1 n k, touched key [(c : Int)] T m (L.getD m (0, 0)).1 (L.getD m (0, 0)).2 v = (T', (e0, e1), n, k) ∧ TG key c T L m T' e0 e1 k := by
 obtain ⟨T', e0, e1, n, ht, h2, h3, h4, h5⟩ := h.touch hm h0 h1 hcl
 exact ⟨T', e0, e1, n, 0, ht, rfl, h2, h3, h4, h5⟩
theorem scan9 {w : World} {g qb pb gc tb : Nat} {A : Option Addr} {l : List Int} {cap : Nat} {key : Int} {c : Nat} {T : Tru} {L : List Ce} {u : World} {d : Int} {a0 a1 a2 a3 : Addr} (he : Errs w a0 a1 a2 a3) (h : W9 w g qb pb gc tb A l cap key c T L u) (hk : Kp key c d T L) {m : Nat} (hm : T.cursor = m) (hcl : T.clock < 100000) (hep : T.epoch < 1000) (hd : d = 0 ∨ ∀ z : Int, d ≠ 4611686018427387904 * z) :
    Calls Tryz.prog 15 #[.agg (pA key (some ⟨qb, 0, none⟩) 1 1), .int .i64 0, .agg (tR T), .agg (cA ((L.getD m (0, 0)).1) ((L.getD m (0, 0)).2))] u fun e w' =>
     ∃ v, e = .returned v ∧ (∃ T' e0 e1 k, v = .tuple #[.agg (tR T'), .agg (cA e0 e1), .int .i64 k] ∧ SG key c d T L m T' e0 e1 k) ∧ Below u.heap.size u w' := by
 obtain ⟨T', e0, e1, k, hs, hg⟩ := scan_good hk hm hcl hep hd
 have hm2 := hk.cursor
 obtain ⟨⟨hc1, hc2⟩, hc3, hc3'⟩ := (hk.cl m (by omega)).1
 have hi := implScanned_calls a0 a1 a2 a3 key 0 (L.getD m (0, 0)).1 (L.getD m (0, 0)).2 (some ⟨qb, 0, none⟩) [(c : Int)] 1 T.clock T.epoch T.cursor T.read T.written T.nread T.nwritten T.failed u (by simp) (by simp) h.ints ⟨by omega, by omega⟩ ⟨by omega, by omega⟩ (he.below h.b)
 rw [show (⟨T.clock, T.epoch, T.cursor, T.read, T.written, T.nread, T.nwritten, T.failed⟩ : Tru) = T from rfl, hs] at hi
 exact hi.mono fun e w' ⟨he, hb⟩ => ⟨_, he, ⟨T', e0, e1, k, rfl, hg⟩, hb⟩
theorem touch9 {w : World} {g qb pb gc tb : Nat} {A : Option Addr} {l : List Int} {cap : Nat} {key : Int} {c : Nat} {T : Tru} {L : List Ce} {u : World} {a0 a1 a2 a3 : Addr} (he : Errs w a0 a1 a2 a3) (h : W9 w g qb pb gc tb A l cap key c T L u) (hk : Kp key c 0 T L) {m : Nat} (hm : m < c) (hcl : T.clock < 100000) {v : Int} (h0 : -1 ≤ v) (h1 : v ≤ 10006) :
    Calls Tryz.prog 9 #[.agg (pA key (some ⟨qb, 0, none⟩) 1 1), .agg (tR T), .int .i64 m, .agg (cA ((L.getD m (0, 0)).1) ((L.getD m (0, 0)).2)), .int .i64 v] u fun e w' =>
     ∃ v, e = .returned v ∧ (∃ T' e0 e1 n k, v = .tuple #[.agg (tR T'), .agg (cA e0 e1), .int .i64 n, .int .i64 k] ∧ TG key c T L m T' e0 e1 k) ∧ Below u.heap.size u w' := by
 obtain ⟨T', e0, e1, n, k, hs, hg⟩ := touch_good hk hm hcl h0 h1
 obtain ⟨⟨hc1, hc2⟩, hc3, hc3'⟩ := (hk.cl m hm).1
 have hc4 := hk.hc
 have hi := implTouched_calls a0 a1 a2 a3 key m (L.getD m (0, 0)).1 (L.getD m (0, 0)).2 v (some ⟨qb, 0, none⟩) [(c : Int)] 1 T.clock T.epoch T.cursor T.read T.written T.nread T.nwritten T.failed u (by simp) (by simp) h.ints ⟨by omega, by omega⟩ ⟨by omega, by omega⟩ ⟨by omega, by omega⟩ (he.below h.b)
 rw [show (⟨T.clock, T.epoch, T.cursor, T.read, T.written, T.nread, T.nwritten, T.failed⟩ : Tru) = T from rfl, hs] at hi
 exact hi.mono fun e w' ⟨he, hb⟩ => ⟨_, he, ⟨T', e0, e1, n, k, rfl, hg⟩, hb⟩
theorem trust9 {w : World} {g qb pb gc tb : Nat} {A : Option Addr} {l : List Int} {cap : Nat} {key : Int} {c : Nat} {T : Tru} {L : List Ce} {u : World} {d : Int} (h : W9 w g qb pb gc tb A l cap key c T L u) (hk : Kp key c d T L) :
    Calls Tryz.prog 12 #[.agg (pA key (some ⟨qb, 0, none⟩) 1 1), .int .i64 0, .agg (tR T)] u fun e w' => e = .returned (.bool true) ∧ Below u.heap.size u w' := by
 have hi := implTrustOk_calls key 0 (some ⟨qb, 0, none⟩) [(c : Int)] 1 T.clock T.epoch T.cursor T.read T.written T.nread T.nwritten T.failed u (by simp) (by simp) h.ints
 rw [show (⟨T.clock, T.epoch, T.cursor, T.read, T.written, T.nread, T.nwritten, T.failed⟩ : Tru) = T from rfl, trustB_yes hk.ok] at hi
 exact hi
theorem newT {key : Int} {c : Nat} (qb : Nat) (u : World) (hk : 1 ≤ key ∧ key ≤ 1000) (hc : 1 ≤ c ∧ c ≤ 5) (hI : Ints u .i64 u.heap.size (some ⟨qb, 0, none⟩) [(c : Int)]) :
    Calls Tryz.prog 19 #[.agg (pA key (some ⟨qb, 0, none⟩) 1 1), .int .i64 0] u fun e w' =>
     ∃ gc cc, e = .returned (.tuple #[.agg (tA c 0 0 0 (sumOf key (trisNew key 0 c)) 0 0 false), .slice (some ⟨gc, 0, none⟩) c cc]) ∧ u.heap.size ≤ gc ∧ gc < w'.heap.size ∧ Row5 w' gc (cellsNew key 0 c) ∧ Below u.heap.size u w' := by
 have h := specNew_yes key (some ⟨qb, 0, none⟩) [(c : Int)] 1 0 u (by simp [maxLen]) (by simp) hI (plan_one hk hc) (by simp)
 have e0 : ([(c : Int)].getD 0 0) = c := rfl
 rw [e0, upTo_zero, Int.toNat_natCast] at h
 refine h.mono ?_
 rintro e w' ⟨v, rfl, hr, hb⟩
 obtain ⟨gc, cc, rfl, h1, h2, h3⟩ := Row5.of hr (by rw [cellsNew_length]; omega)
 rw [cellsNew_length]
 exact ⟨gc, cc, rfl, h1, h2, h3, hb⟩
theorem big_no (A : Option Addr) (n cap : Nat) (w : World) (h : n ≤ 4096) :
    Calls Tryz.prog 7 #[.slice A n cap] w fun e w' => e = .returned (.bool false) ∧ w = w' := by
 have h' : ¬ (4096 : Int) < n := by omega
 go_enter Tryz.func7, Tryz.ntmps7
 go_wp2
 go_ret
 exact ⟨by simp, rfl⟩
theorem big_yes (A : Option Addr) (n cap : Nat) (w : World) (h : 4096 < n) :
    Calls Tryz.prog 7 #[.slice A n cap] w fun e w' => e = .returned (.bool true) ∧ w = w' := by
 have h' : (4096 : Int) < n := by omega
 go_enter Tryz.func7, Tryz.ntmps7
 go_wp2
 go_ret
 exact ⟨by simp, rfl⟩
end Go.Proofs.YteopplldbcgjjaaGreatDoor.Mx

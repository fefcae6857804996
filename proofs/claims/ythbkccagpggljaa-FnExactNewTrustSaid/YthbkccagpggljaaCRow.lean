/- ROWS OF CELLS THAT THE CALL APPENDS TO: a slice of impl.Cell reads as a list; a row that is the call's own. -/
import Derived.Test.YthbkccagpggljaaTRow
import Derived.Test.YthbkccagpggljaaCellS
namespace Go.Proofs.Ythbkccagpggljaa.Mx
open Go.ChangeShapes Go.WideShapes Go.ChangeAt Go.RowKit
set_option linter.unusedVariables false

/-- A cell, as plain numbers: its time, its value. -/
abbrev Ce := Int × Int
theorem info_ce : (Try.prog.info? 43).map (fun i => (i.zero, i.size, i.bytes)) = some (some (.agg #[.int .i64 0, .int .i64 0]), 2, 16) := by kernel_rfl
theorem info_parts2 : ∃ i, Try.prog.info? 43 = some i ∧ i.zero = some (.agg #[.int .i64 0, .int .i64 0]) ∧ i.size = 2 ∧ i.bytes = 16 := by
  obtain ⟨i, hi, hzz⟩ := Option.map_eq_some_iff.1 info_ce
  simp only [Prod.mk.injEq] at hzz
  exact ⟨i, hi, hzz⟩

/-- 'Ces w B A L': a slice of cells at address A reads as L, below block B. -/
def Ces (w : World) (B : Nat) (A : Option Addr) (L : List Ce) : Prop :=
  ∀ i, i < L.length → ∃ b off, A = some ⟨b, off, none⟩ ∧ b < B ∧ w.cell? ⟨b, off + i * 2, none⟩ = some (.int .i64 (L.getD i (0, 0)).1) ∧ w.cell? ⟨b, off + i * 2 + 1, none⟩ = some (.int .i64 (L.getD i (0, 0)).2)
theorem Ces.below {w w' : World} {B B' : Nat} {A : Option Addr} {L : List Ce} (h : Ces w B A L) (hb : Below B' w w') (hB : B ≤ B') : Ces w' B A L := by
  intro i hi
  obtain ⟨b, off, rfl, hlt, c0, c1⟩ := h i hi
  have f := fun o => hb.cell (p := ⟨b, o, none⟩) (Nat.lt_of_lt_of_le hlt hB)
  exact ⟨b, off, rfl, hlt, (f _).trans c0, (f _).trans c1⟩
theorem Ces.more {w : World} {B B' : Nat} {A : Option Addr} {L : List Ce} (h : Ces w B A L) (hB : B ≤ B') : Ces w B' A L := by
  intro i hi
  obtain ⟨b, off, e, hlt, c⟩ := h i hi
  exact ⟨b, off, e, by omega, c⟩
theorem Ces.grow {u v : World} {A : Option Addr} {L : List Ce} (h : Ces u u.heap.size A L) (hb : Below u.heap.size u v) : Ces v v.heap.size A L := (h.below hb (Nat.le_refl _)).more hb.size
theorem Ces.nil {w : World} {B : Nat} {A : Option Addr} : Ces w B A [] := fun i hi => by simp at hi

/-- The cells' cells. -/
def flatC (L : List Ce) : List Value := L.flatMap fun T => [.int .i64 T.1, .int .i64 T.2]
theorem flatC_snoc (L : List Ce) (t v : Int) : flatC (L ++ [(t, v)]) = flatC L ++ [.int .i64 t, .int .i64 v] := by simp [flatC]
theorem flatC_append (L M : List Ce) : flatC (L ++ M) = flatC L ++ flatC M := by simp [flatC]
theorem flatC_length (L : List Ce) : (flatC L).length = L.length * 2 := by
  induction L with
  | nil => rfl
  | cons T L ih => show (_ :: _ :: flatC L).length = _; simp only [List.length_cons]; omega
theorem flatC_get (L : List Ce) (i j : Nat) (hi : i < L.length) (hj : j < 2) : (flatC L)[i * 2 + j]? = some (.int .i64 (if j = 0 then (L.getD i (0, 0)).1 else (L.getD i (0, 0)).2)) := by
  induction L generalizing i with
  | nil => simp at hi
  | cons T L ih =>
    have hc : flatC (T :: L) = .int .i64 T.1 :: .int .i64 T.2 :: flatC L := rfl
    rw [hc]
    cases i with
    | zero =>
      have h2 : j = 0 ∨ j = 1 := by omega
      rcases h2 with rfl | rfl <;> simp
    | succ i =>
      rw [show (i + 1) * 2 + j = (i * 2 + j) + 1 + 1 by omega]
      simp only [List.getElem?_cons_succ]
      rw [ih i (by simpa using hi)]
      simp

/-- The slice value v owns, among the blocks from 'base' on, the cells L. -/
def CRow (w : World) (base : Nat) (v : Value) (L : List Ce) : Prop := w.ownsRow base 43 2 v L.length (flatC L)
theorem CRow.kept {w w' : World} {base : Nat} {r : Option Nat} {v : Value} {L : List Ce} (h : CRow w base v L) (hg : w.grownBy w' r) (hb : v.ownBlock = none ∨ v.ownBlock ≠ r) : CRow w' base v L := World.ownsRow.kept h hg hb
theorem CRow.grown {w w' : World} {base g : Nat} {v : Value} {L : List Ce} (h : CRow w base v L) (hg : w.grownBy w' (some g)) (hb : g < base) : CRow w' base v L := by
  refine World.ownsRow.kept h hg ?_
  cases e : v.ownBlock with
  | none => exact .inl rfl
  | some k => exact .inr (by intro e2; injection e2 with e2; have := (World.ownsRow.lt h k e).1; omega)
theorem CRow.alloc {w : World} {base : Nat} {v : Value} {L : List Ce} (h : CRow w base v L) (o : Obj) : CRow (w.alloc o) base v L := World.ownsRow.alloc h o
theorem CRow.below {w w' : World} {base : Nat} {v : Value} {L : List Ce} (h : CRow w base v L) (hb : Below w.heap.size w w') : CRow w' base v L :=
  h.kept (below_gb hb none) (by cases e : v.ownBlock with | none => exact .inl rfl | some k => exact .inr (by intro e2; cases e2))
theorem CRow.snoc {w' : World} {base : Nat} {v : Value} {L : List Ce} {t z : Int} (hw : w'.ownsRow base 43 2 v (L.length + 1) (flatC L ++ [.int .i64 t, .int .i64 z])) : CRow w' base v (L ++ [(t, z)]) := by
  unfold CRow
  rw [List.length_append, flatC_snoc]
  exact hw
theorem CRow.made (w : World) (base : Nat) (h : base ≤ w.heap.size) : CRow (w.alloc (.cells #[] 43)) base (.slice (some ⟨w.heap.size, 0, none⟩) 0 0) [] := World.ownsRow_made w #[] 0 h (by simp [maxLen]) rfl
theorem CRow.mono {w : World} {base base' : Nat} {v : Value} {L : List Ce} (h : CRow w base v L) (hb : base' ≤ base) : CRow w base' v L := by
  refine ⟨h.1, ?_⟩
  rcases h.2 with h0 | ⟨g, cap, cur, e, hg, r⟩
  · exact .inl h0
  · exact .inr ⟨g, cap, cur, e, Nat.le_trans hb hg, r⟩
theorem CRow.reads {w : World} {base : Nat} {v : Value} {L : List Ce} (h : CRow w base v L) : ∃ A c, v = .slice A L.length c ∧ Ces w w.heap.size A L ∧ L.length ≤ c := by
  rcases h.2 with ⟨rfl, hn⟩ | ⟨g, cap, cur, rfl, hb, hg, hnc, hcm, hcs, htake⟩
  · have : L = [] := List.length_eq_zero_iff.1 hn
    subst this
    exact ⟨none, 0, rfl, Ces.nil, Nat.le_refl _⟩
  · refine ⟨_, cap, rfl, fun i hi => ⟨g, 0, rfl, (Array.getElem?_eq_some_iff.1 hg).1, ?_, ?_⟩, hnc⟩
    · rw [Nat.zero_add, World.ownsRow.cellAt h (i * 2) (by omega), show i * 2 = i * 2 + 0 from rfl, flatC_get L i 0 hi (by omega)]; rfl
    · rw [Nat.zero_add, World.ownsRow.cellAt h (i * 2 + 1) (by omega), flatC_get L i 1 hi (by omega)]; rfl
theorem TRow.below {w w' : World} {base : Nat} {v : Value} {L : List Tri} (h : TRow w base v L) (hb : Below w.heap.size w w') : TRow w' base v L :=
  ⟨h.1.kept (below_gb hb none) (by cases e : v.ownBlock with | none => exact .inl rfl | some k => exact .inr (by intro e2; cases e2)), h.2⟩
end Go.Proofs.Ythbkccagpggljaa.Mx

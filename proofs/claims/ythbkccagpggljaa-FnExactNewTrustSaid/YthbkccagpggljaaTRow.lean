/- ROWS OF TRIPLES THAT THE CALL APPENDS TO. -/
import Derived.Test.YthbkccagpggljaaTripB
import Derived.Deep.AppendLies
namespace Go.Proofs.Ythbkccagpggljaa.Mx
open Go.ChangeShapes Go.WideShapes Go.ChangeAt Go.RowKit
set_option linter.unusedVariables false

theorem info_tri3 : (Try.prog.info? 46).map (fun i => (i.zero, i.size, i.bytes)) = some (some (.agg #[.int .i64 0, .int .i64 0, .int .i64 0]), 3, 24) := by kernel_rfl
theorem info_parts3 : ∃ i, Try.prog.info? 46 = some i ∧ i.zero = some (.agg #[.int .i64 0, .int .i64 0, .int .i64 0]) ∧ i.size = 3 ∧ i.bytes = 24 := by
  obtain ⟨i, hi, hzz⟩ := Option.map_eq_some_iff.1 info_tri3
  simp only [Prod.mk.injEq] at hzz
  exact ⟨i, hi, hzz⟩

/-- Each number fits an int64. -/
def TriM (L : List Tri) : Prop := ∀ T ∈ L, I64 T.1 ∧ I64 T.2.1 ∧ I64 T.2.2
theorem TriM.nil : TriM [] := fun T h => by cases h
theorem TriM.snoc {L : List Tri} {a t v : Int} (h : TriM L) (ha : I64 a) (ht : I64 t) (hv : I64 v) : TriM (L ++ [(a, t, v)]) := by
  intro T hT
  rcases List.mem_append.1 hT with h1 | h1
  · exact h T h1
  · rw [List.mem_singleton] at h1; subst h1; exact ⟨ha, ht, hv⟩
theorem TriM.cons {L : List Tri} {a t v : Int} (h : TriM L) (ha : I64 a) (ht : I64 t) (hv : I64 v) : TriM ((a, t, v) :: L) := by
  intro T hT
  rcases List.mem_cons.1 hT with rfl | h1
  · exact ⟨ha, ht, hv⟩
  · exact h T h1
theorem TriM.at_ {L : List Tri} (h : TriM L) : TriI L := fun i hi => h _ (getD_mem hi)

/-- The cells of a list of triples. -/
def flatT (L : List Tri) : List Value := L.flatMap fun T => [.int .i64 T.1, .int .i64 T.2.1, .int .i64 T.2.2]
theorem flatT_snoc (L : List Tri) (a t v : Int) : flatT (L ++ [(a, t, v)]) = flatT L ++ [.int .i64 a, .int .i64 t, .int .i64 v] := by simp [flatT]
theorem flatT_get (L : List Tri) (i j : Nat) (hi : i < L.length) (hj : j < 3) : (flatT L)[i * 3 + j]? = some (.int .i64 (if j = 0 then (L.getD i (0, 0, 0)).1 else if j = 1 then (L.getD i (0, 0, 0)).2.1 else (L.getD i (0, 0, 0)).2.2)) := by
  induction L generalizing i with
  | nil => simp at hi
  | cons T L ih =>
    have hc : flatT (T :: L) = .int .i64 T.1 :: .int .i64 T.2.1 :: .int .i64 T.2.2 :: flatT L := rfl
    rw [hc]
    cases i with
    | zero =>
      have h3 : j = 0 ∨ j = 1 ∨ j = 2 := by omega
      rcases h3 with rfl | rfl | rfl <;> simp
    | succ i =>
      rw [show (i + 1) * 3 + j = (i * 3 + j) + 1 + 1 + 1 by omega]
      simp only [List.getElem?_cons_succ]
      rw [ih i (by simpa using hi)]
      simp

/-- The slice value v owns, among the blocks from 'base' on, the triples L. -/
def TRow (w : World) (base : Nat) (v : Value) (L : List Tri) : Prop := w.ownsRow base 46 3 v L.length (flatT L) ∧ TriM L
theorem TRow.grown {w w' : World} {base g : Nat} {v : Value} {L : List Tri} (h : TRow w base v L) (hg : w.grownBy w' (some g)) (hb : g < base) : TRow w' base v L := by
  refine ⟨h.1.kept hg ?_, h.2⟩
  cases e : v.ownBlock with
  | none => exact .inl rfl
  | some k => exact .inr (by intro e2; injection e2 with e2; have := (h.1.lt k e).1; omega)
theorem TRow.alloc {w : World} {base : Nat} {v : Value} {L : List Tri} (h : TRow w base v L) (o : Obj) : TRow (w.alloc o) base v L := ⟨h.1.alloc o, h.2⟩
theorem TRow.snoc {w' : World} {base : Nat} {v : Value} {L : List Tri} {a t z : Int} (h : TriM L) (ha : I64 a) (ht : I64 t) (hz : I64 z)
    (hw : w'.ownsRow base 46 3 v (L.length + 1) (flatT L ++ [.int .i64 a, .int .i64 t, .int .i64 z])) : TRow w' base v (L ++ [(a, t, z)]) := by
  refine ⟨?_, h.snoc ha ht hz⟩
  rw [List.length_append, flatT_snoc]
  exact hw
theorem TRow.made (w : World) (base : Nat) (h : base ≤ w.heap.size) : TRow (w.alloc (.cells #[] 46)) base (.slice (some ⟨w.heap.size, 0, none⟩) 0 0) [] :=
  ⟨World.ownsRow_made w #[] 0 h (by simp [maxLen]) rfl, TriM.nil⟩
theorem TRow.mono {w : World} {base base' : Nat} {v : Value} {L : List Tri} (h : TRow w base v L) (hb : base' ≤ base) : TRow w base' v L := by
  refine ⟨⟨h.1.1, ?_⟩, h.2⟩
  rcases h.1.2 with h0 | ⟨g, cap, cur, e, hg, r⟩
  · exact .inl h0
  · exact .inr ⟨g, cap, cur, e, Nat.le_trans hb hg, r⟩

/-- A slice of triples that lies in blocks from lo to hi. -/
def Lies (w : World) (lo hi : Nat) (A : Option Addr) (L : List Tri) : Prop :=
  ∀ i, i < L.length → ∃ b off, A = some ⟨b, off, none⟩ ∧ lo ≤ b ∧ b < hi ∧ w.cell? ⟨b, off + i * 3, none⟩ = some (.int .i64 (L.getD i (0, 0, 0)).1) ∧ w.cell? ⟨b, off + i * 3 + 1, none⟩ = some (.int .i64 (L.getD i (0, 0, 0)).2.1) ∧ w.cell? ⟨b, off + i * 3 + 2, none⟩ = some (.int .i64 (L.getD i (0, 0, 0)).2.2)
theorem Lies.tris {w : World} {lo hi : Nat} {A : Option Addr} {L : List Tri} (h : Lies w lo hi A L) : Tris w hi A L := by
  intro i hi
  obtain ⟨b, off, e, _, h1, c⟩ := h i hi
  exact ⟨b, off, e, h1, c⟩
theorem Lies.below {w w' : World} {lo hi B : Nat} {A : Option Addr} {L : List Tri} (h : Lies w lo hi A L) (hb : Below B w w') (hB : hi ≤ B) : Lies w' lo hi A L := by
  intro i hi
  obtain ⟨b, off, rfl, h0, h1, c0, c1, c2⟩ := h i hi
  have f := fun o => hb.cell (p := ⟨b, o, none⟩) (Nat.lt_of_lt_of_le h1 hB)
  exact ⟨b, off, rfl, h0, h1, (f _).trans c0, (f _).trans c1, (f _).trans c2⟩
theorem Lies.gb {w w' : World} {lo hi g : Nat} {A : Option Addr} {L : List Tri} (h : Lies w lo hi A L) (hg : w.grownBy w' (some g)) (hl : g < lo) : Lies w' lo hi A L := by
  intro i hi
  obtain ⟨b, off, rfl, h0, h1, c0, c1, c2⟩ := h i hi
  have f := fun o u (c : w.cell? ⟨b, o, none⟩ = some u) => hg.cell c (by intro e; injection e with e; simp at e; omega)
  exact ⟨b, off, rfl, h0, h1, f _ _ c0, f _ _ c1, f _ _ c2⟩
theorem TRow.lies {w : World} {base : Nat} {v : Value} {L : List Tri} (h : TRow w base v L) : ∃ A c, v = .slice A L.length c ∧ Lies w base w.heap.size A L := by
  rcases h.1.2 with ⟨rfl, hn⟩ | ⟨g, cap, cur, rfl, hb, hg, hnc, hcm, hcs, htake⟩
  · have : L = [] := List.length_eq_zero_iff.1 hn
    subst this
    exact ⟨none, 0, rfl, fun i hi => by simp at hi⟩
  · refine ⟨_, cap, rfl, fun i hi => ⟨g, 0, rfl, hb, (Array.getElem?_eq_some_iff.1 hg).1, ?_, ?_, ?_⟩⟩
    · rw [Nat.zero_add, h.1.cellAt (i * 3) (by omega), show i * 3 = i * 3 + 0 from rfl, flatT_get L i 0 hi (by omega)]; rfl
    · rw [Nat.zero_add, h.1.cellAt (i * 3 + 1) (by omega), flatT_get L i 1 hi (by omega)]; rfl
    · rw [Nat.zero_add, h.1.cellAt (i * 3 + 2) (by omega), flatT_get L i 2 hi (by omega)]; rfl
end Go.Proofs.Ythbkccagpggljaa.Mx

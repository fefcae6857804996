import Derived.Test.YtgaecedhkbneaaaGreatDoorG07
import Derived.Test.YtgaecedhkbneaaaGreatDoorG12
namespace Go.Proofs.YtgaecedhkbneaaaGreatDoor.Mx
open Go.ChangeShapes Go.WideShapes Go.ChangeAt Go.RowKit
set_option linter.unusedVariables false
theorem row_setCell {w : World} {base e size n c g i : Nat} {xs : List Value} (h : w.ownsRow base e size (.slice (some ⟨g, 0, none⟩) n c) n xs) (hi : i < n * size) (u : Value) :
    (w.setCell ⟨g, i, none⟩ u).ownsRow base e size (.slice (some ⟨g, 0, none⟩) n c) n (xs.set i u) := by
  refine ⟨by rw [List.length_set]; exact h.1, ?_⟩
  rcases h.2 with ⟨h0, _⟩ | ⟨g', cap, cur, e1, hb, hg, hnc, hcm, hcs, htake⟩
  · cases h0
  · simp only [Value.slice.injEq, Option.some.injEq, Addr.mk.injEq, and_true, true_and] at e1
    obtain ⟨rfl, rfl⟩ := e1
    refine .inr ⟨g, c, cur.setIfInBounds i u, rfl, hb, heap_setCell_same w g i cur e u hg, hnc, hcm, by simpa using hcs, ?_⟩
    rw [Array.toList_setIfInBounds, List.take_set, htake]
section
variable {α : Type} [Inhabited α] {enc : α → List Value} {n : Nat}
theorem flatS_set (hn : ∀ x, (enc x).length = n) (L : List α) (k : Nat) (x : α) (hk : k < L.length) : ∀ i, i < L.length * n → (flatS enc (L.set k x))[i]? = if k * n ≤ i ∧ i < (k + 1) * n then (enc x)[i - k * n]? else (flatS enc L)[i]? := by
  intro i hi
  have hp : 0 < n := by rcases Nat.eq_zero_or_pos n with h | h; subst h; simp at hi; exact h
  have hm := Nat.mod_lt i hp
  have hd : i / n < L.length := (Nat.div_lt_iff_lt_mul hp).2 hi
  have he : i / n * n + i % n = i := by rw [Nat.mul_comm]; exact Nat.div_add_mod i n
  have h1 : (flatS enc (L.set k x))[i]? = (enc ((L.set k x).getD (i / n) default))[i % n]? := by
    have := flatS_get (enc := enc) (L := L.set k x) hn (i / n) (i % n) (by rw [List.length_set]; exact hd) hm
    rwa [he] at this
  have h2 : (flatS enc L)[i]? = (enc (L.getD (i / n) default))[i % n]? := by
    have := flatS_get (enc := enc) (L := L) hn (i / n) (i % n) hd hm
    rwa [he] at this
  rw [h1, h2, List.getD_eq_getElem?_getD, List.getD_eq_getElem?_getD, List.getElem?_set]
  by_cases hik : i / n = k
  · subst hik
    rw [if_pos rfl, if_pos hd, if_pos ⟨by omega, by rw [Nat.succ_mul]; omega⟩]
    simp only [Option.getD_some]
    congr 1; omega
  · rw [if_neg (fun e => hik e.symm), if_neg]
    rintro ⟨a, b⟩
    apply hik
    have c1 : k ≤ i / n := (Nat.le_div_iff_mul_le hp).2 a
    have c2 : i / n < k + 1 := (Nat.div_lt_iff_lt_mul hp).2 b
    omega
end
theorem TrRow.set_ {w : World} {base c g : Nat} {L : List Tru} {k : Nat} (h : TrRow w base (.slice (some ⟨g, 0, none⟩) L.length c) L) (hk : k < L.length) (t : Tru) :
    TrRow ((((((((w.setCell ⟨g, k * 8, none⟩ (.int .i64 t.clock)).setCell ⟨g, k * 8 + 1, none⟩ (.int .i64 t.epoch)).setCell ⟨g, k * 8 + 2, none⟩ (.int .i64 t.cursor)).setCell ⟨g, k * 8 + 3, none⟩ (.int .i64 t.read)).setCell ⟨g, k * 8 + 4, none⟩ (.int .i64 t.written)).setCell ⟨g, k * 8 + 5, none⟩ (.int .i64 t.nread)).setCell ⟨g, k * 8 + 6, none⟩ (.int .i64 t.nwritten)).setCell ⟨g, k * 8 + 7, none⟩ (.bool t.failed)) base (.slice (some ⟨g, 0, none⟩) L.length c) (L.set k t) := by
  have hb : (k + 1) * 8 ≤ L.length * 8 := Nat.mul_le_mul_right 8 hk
  have h8 := row_setCell (row_setCell (row_setCell (row_setCell (row_setCell (row_setCell (row_setCell (row_setCell h (i := k * 8) (by omega) (.int .i64 t.clock)) (i := k * 8 + 1) (by omega) (.int .i64 t.epoch)) (i := k * 8 + 2) (by omega) (.int .i64 t.cursor)) (i := k * 8 + 3) (by omega) (.int .i64 t.read)) (i := k * 8 + 4) (by omega) (.int .i64 t.written)) (i := k * 8 + 5) (by omega) (.int .i64 t.nread)) (i := k * 8 + 6) (by omega) (.int .i64 t.nwritten)) (i := k * 8 + 7) (by omega) (.bool t.failed)
  unfold TrRow SRow
  rw [List.length_set]
  have e : flatS truV (L.set k t) = ((((((((flatS truV L).set (k * 8) (.int .i64 t.clock)).set (k * 8 + 1) (.int .i64 t.epoch)).set (k * 8 + 2) (.int .i64 t.cursor)).set (k * 8 + 3) (.int .i64 t.read)).set (k * 8 + 4) (.int .i64 t.written)).set (k * 8 + 5) (.int .i64 t.nread)).set (k * 8 + 6) (.int .i64 t.nwritten)).set (k * 8 + 7) (.bool t.failed) := by
    apply List.ext_getElem?
    intro i
    have hlen : (flatS truV L).length = L.length * 8 := flatS_length truV_len
    rcases Nat.lt_or_ge i (L.length * 8) with hi | hi
    · rw [flatS_set truV_len L k t hk i hi]
      simp only [List.getElem?_set, List.length_set, hlen]
      by_cases hin : k * 8 ≤ i ∧ i < (k + 1) * 8
      · rw [if_pos hin]
        obtain ⟨j, hj, rfl⟩ : ∃ j, j < 8 ∧ i = k * 8 + j := ⟨i - k * 8, by omega, by omega⟩
        rw [Nat.add_sub_cancel_left]
        have hj8 : j = 0 ∨ j = 1 ∨ j = 2 ∨ j = 3 ∨ j = 4 ∨ j = 5 ∨ j = 6 ∨ j = 7 := by omega
        rcases hj8 with rfl | rfl | rfl | rfl | rfl | rfl | rfl | rfl <;> simp [truV] <;> omega
      · rw [if_neg hin]
        repeat (rw [if_neg (by omega)])
    · rw [List.getElem?_eq_none (by rw [flatS_length truV_len, List.length_set]; exact hi), List.getElem?_eq_none (by simp only [List.length_set]; rw [hlen]; exact hi)]
  rw [e]
  exact h8
theorem ClRow.set_ {w : World} {base c g : Nat} {L : List Ce} {k : Nat} (h : ClRow w base (.slice (some ⟨g, 0, none⟩) L.length c) L) (hk : k < L.length) (t : Ce) :
    ClRow ((w.setCell ⟨g, k * 2, none⟩ (.int .i64 t.1)).setCell ⟨g, k * 2 + 1, none⟩ (.int .i64 t.2)) base (.slice (some ⟨g, 0, none⟩) L.length c) (L.set k t) := by
  have hb : (k + 1) * 2 ≤ L.length * 2 := Nat.mul_le_mul_right 2 hk
  have h8 := row_setCell (row_setCell h (i := k * 2) (by omega) (.int .i64 t.1)) (i := k * 2 + 1) (by omega) (.int .i64 t.2)
  unfold ClRow SRow
  rw [List.length_set]
  have e : flatS ceV (L.set k t) = ((flatS ceV L).set (k * 2) (.int .i64 t.1)).set (k * 2 + 1) (.int .i64 t.2) := by
    apply List.ext_getElem?
    intro i
    have hlen : (flatS ceV L).length = L.length * 2 := flatS_length ceV_len
    rcases Nat.lt_or_ge i (L.length * 2) with hi | hi
    · rw [flatS_set ceV_len L k t hk i hi]
      simp only [List.getElem?_set, List.length_set, hlen]
      by_cases hin : k * 2 ≤ i ∧ i < (k + 1) * 2
      · rw [if_pos hin]
        obtain ⟨j, hj, rfl⟩ : ∃ j, j < 2 ∧ i = k * 2 + j := ⟨i - k * 2, by omega, by omega⟩
        rw [Nat.add_sub_cancel_left]
        have hj8 : j = 0 ∨ j = 1 := by omega
        rcases hj8 with rfl | rfl <;> simp [ceV] <;> omega
      · rw [if_neg hin]
        repeat (rw [if_neg (by omega)])
    · rw [List.getElem?_eq_none (by rw [flatS_length ceV_len, List.length_set]; exact hi), List.getElem?_eq_none (by simp only [List.length_set]; rw [hlen]; exact hi)]
  rw [e]
  exact h8
def VolR (w : World) (Bd : Nat) (x : VolN) (v : Value) : Prop :=
  ∃ A c B d C e b off sc, v = .agg (vX x A c B d C e b off sc) ∧
    Ints w .i64 Bd A x.counts ∧ Trs w Bd B x.trusts ∧ Cls w Bd C x.cells ∧ b < Bd ∧ SlotAt w Bd b off x.s0 ∧ SlotAt w Bd b (off + 4) x.s1 ∧ x.counts.length ≤ c
theorem row_at {u : World} {base : Nat} {v : Value} {t size n : Nat} {xs : List Value} (h : u.ownsRow base t size v n xs) : ∀ g ∈ blkOf v, base ≤ g ∧ g < u.heap.size := by
  intro g hg
  unfold blkOf at hg
  split at hg
  · rename_i a _ _
    simp only [List.mem_singleton] at hg
    subst hg
    exact World.ownsRow.lt h a.block rfl
  · cases hg
theorem row_keep {u u' : World} {base p : Nat} {v : Value} {t size n : Nat} {xs : List Value} (h : u.ownsRow base t size v n xs) (hg : u.grownBy u' (some p)) (hp : p ∉ blkOf v) : u'.ownsRow base t size v n xs :=
  row_stable h fun g hgm => hg.block g (row_at h g hgm).2 (by intro e; injection e with e; subst e; exact hp hgm)
theorem VolO.reads {u : World} {base : Nat} {x : VolN} {v : Value} (h : VolO u base x v) : VolR u u.heap.size x v := by
  obtain ⟨A, c, B, d, C, e, g, A0, c0, C0, d0, A1, c1, C1, d1, h0, h1, h2, h3, h4, h5, h6, h7, h8, h9, h10⟩ := h
  obtain ⟨A', c', e1, i1, i2⟩ := h1.form
  obtain ⟨B', d', e2, i3, i4⟩ := h2.reads truV_len
  obtain ⟨C', f', e3, i5, i6⟩ := h3.reads ceV_len
  obtain ⟨A0', c0', e4, i7, _⟩ := h6.reads truV_len
  obtain ⟨C0', d0', e5, i8, _⟩ := h7.reads ceV_len
  obtain ⟨A1', c1', e6, i9, _⟩ := h8.reads truV_len
  obtain ⟨C1', d1', e7, i10, _⟩ := h9.reads ceV_len
  simp only [Value.slice.injEq, true_and] at e1 e2 e3 e4 e5 e6 e7
  obtain ⟨rfl, rfl⟩ := e1
  obtain ⟨rfl, rfl⟩ := e2
  obtain ⟨rfl, rfl⟩ := e3
  obtain ⟨rfl, rfl⟩ := e4
  obtain ⟨rfl, rfl⟩ := e5
  obtain ⟨rfl, rfl⟩ := e6
  obtain ⟨rfl, rfl⟩ := e7
  refine ⟨A, c, B, d, C, e, g, 0, 2, h0, i1, i3, i5, h5.lt, ⟨A0, c0, C0, d0, h5.cell 0, h5.cell 1, h5.cell 2, h5.cell 3, i7, i8⟩, ⟨A1, c1, C1, d1, h5.cell 4, h5.cell 5, h5.cell 6, h5.cell 7, i9, i10⟩, i2⟩
theorem VolO.below {u u' : World} {base : Nat} {x : VolN} {v : Value} (h : VolO u base x v) (hb : Below u.heap.size u u') : VolO u' base x v := by
  obtain ⟨A, c, B, d, C, e, g, A0, c0, C0, d0, A1, c1, C1, d1, h0, h1, h2, h3, h4, h5, h6, h7, h8, h9, h10⟩ := h
  have k := fun {vv : Value} {t size n : Nat} {xs : List Value} (hr : u.ownsRow base t size vv n xs) => row_stable hr (u' := u') fun y hy => hb.block y (row_at hr y hy).2
  exact ⟨A, c, B, d, C, e, g, A0, c0, C0, d0, A1, c1, C1, d1, h0, k h1, k h2, k h3, h4, h5.below hb h5.lt, k h6, k h7, k h8, k h9, h10⟩
theorem VolO.mono {u : World} {base base' : Nat} {x : VolN} {v : Value} (h : VolO u base x v) (hb : base' ≤ base) : VolO u base' x v := by
  obtain ⟨A, c, B, d, C, e, g, A0, c0, C0, d0, A1, c1, C1, d1, h0, h1, h2, h3, h4, h5, h6, h7, h8, h9, h10⟩ := h
  exact ⟨A, c, B, d, C, e, g, A0, c0, C0, d0, A1, c1, C1, d1, h0, row_mono h1 hb, row_mono h2 hb, row_mono h3 hb, Nat.le_trans hb h4, h5, row_mono h6 hb, row_mono h7 hb, row_mono h8 hb, row_mono h9 hb, h10⟩
theorem VolO.out {u u' : World} {base p : Nat} {x : VolN} {v : Value} (h : VolO u base x v) (hg : u.grownBy u' (some p)) (hp : p < base) : VolO u' base x v := by
  obtain ⟨A, c, B, d, C, e, g, A0, c0, C0, d0, A1, c1, C1, d1, h0, h1, h2, h3, h4, h5, h6, h7, h8, h9, h10⟩ := h
  have k := fun {vv : Value} {t size n : Nat} {xs : List Value} (hr : u.ownsRow base t size vv n xs) => row_keep hr hg (fun hm => by have := (row_at hr p hm).1; omega)
  exact ⟨A, c, B, d, C, e, g, A0, c0, C0, d0, A1, c1, C1, d1, h0, k h1, k h2, k h3, h4, h5.grown hg (by intro q; injection q with q; omega), k h6, k h7, k h8, k h9, h10⟩
theorem VolO.trustsAt {u : World} {base : Nat} {x : VolN} {v : Value} (h : VolO u base x v) (hk : 0 < x.trusts.length) :
    ∃ A c B d C e b sc g, v = .agg (vX x A c B d C e b 0 sc) ∧ B = some ⟨g, 0, none⟩ ∧ base ≤ g ∧ g < u.heap.size ∧ TrRow u base (.slice (some ⟨g, 0, none⟩) x.trusts.length d) x.trusts ∧
      ∀ (u' : World) (L' : List Tru), L'.length = x.trusts.length → u.grownBy u' (some g) → TrRow u' base (.slice (some ⟨g, 0, none⟩) L'.length d) L' → VolO u' base { x with trusts := L' } v := by
  obtain ⟨A, c, B, d, C, e, b, A0, c0, C0, d0, A1, c1, C1, d1, h0, h1, h2, h3, h4, h5, h6, h7, h8, h9, h10⟩ := h
  obtain ⟨g, cap, e1, hb1, hlt⟩ := World.ownsRow.form h2 hk
  simp only [Value.slice.injEq, true_and] at e1
  obtain ⟨rfl, rfl⟩ := e1
  refine ⟨A, c, some ⟨g, 0, none⟩, d, C, e, b, 2, g, h0, rfl, hb1, hlt, h2, fun u' L' hl hgb hrow => ?_⟩
  have hmem : g ∈ blkOf (.slice (some ⟨g, 0, none⟩) x.trusts.length d) := by simp [blkOf]
  have p0 : ∀ y ∈ blkOf (.slice A x.counts.length c), y ∉ blkOf (.slice (some ⟨g, 0, none⟩) x.trusts.length d) := (List.pairwise_iff_getElem.1 h10) 0 1 (by simp) (by simp) (by omega)
  have n0 : g ∉ blkOf (.slice A x.counts.length c) := fun hm => p0 g hm hmem
  have p2 : ∀ y ∈ blkOf (.slice (some ⟨g, 0, none⟩) x.trusts.length d), y ∉ blkOf (.slice C x.cells.length e) := (List.pairwise_iff_getElem.1 h10) 1 2 (by simp) (by simp) (by omega)
  have n2 : g ∉ blkOf (.slice C x.cells.length e) := p2 g hmem
  have p3 : ∀ y ∈ blkOf (.slice (some ⟨g, 0, none⟩) x.trusts.length d), y ∉ [b] := (List.pairwise_iff_getElem.1 h10) 1 3 (by simp) (by simp) (by omega)
  have n3 : g ≠ b := fun eq => p3 g hmem (by rw [eq]; simp)
  have p4 : ∀ y ∈ blkOf (.slice (some ⟨g, 0, none⟩) x.trusts.length d), y ∉ blkOf (.slice A0 x.s0.trusts.length c0) := (List.pairwise_iff_getElem.1 h10) 1 4 (by simp) (by simp) (by omega)
  have n4 : g ∉ blkOf (.slice A0 x.s0.trusts.length c0) := p4 g hmem
  have p5 : ∀ y ∈ blkOf (.slice (some ⟨g, 0, none⟩) x.trusts.length d), y ∉ blkOf (.slice C0 x.s0.cells.length d0) := (List.pairwise_iff_getElem.1 h10) 1 5 (by simp) (by simp) (by omega)
  have n5 : g ∉ blkOf (.slice C0 x.s0.cells.length d0) := p5 g hmem
  have p6 : ∀ y ∈ blkOf (.slice (some ⟨g, 0, none⟩) x.trusts.length d), y ∉ blkOf (.slice A1 x.s1.trusts.length c1) := (List.pairwise_iff_getElem.1 h10) 1 6 (by simp) (by simp) (by omega)
  have n6 : g ∉ blkOf (.slice A1 x.s1.trusts.length c1) := p6 g hmem
  have p7 : ∀ y ∈ blkOf (.slice (some ⟨g, 0, none⟩) x.trusts.length d), y ∉ blkOf (.slice C1 x.s1.cells.length d1) := (List.pairwise_iff_getElem.1 h10) 1 7 (by simp) (by simp) (by omega)
  have n7 : g ∉ blkOf (.slice C1 x.s1.cells.length d1) := p7 g hmem
  refine ⟨A, c, some ⟨g, 0, none⟩, d, C, e, b, A0, c0, C0, d0, A1, c1, C1, d1, ?_, row_keep h1 hgb n0, hrow, row_keep h3 hgb n2, h4, h5.grown hgb (by intro eq; injection eq with eq; exact n3 eq.symm), row_keep h6 hgb n4, row_keep h7 hgb n5, row_keep h8 hgb n6, row_keep h9 hgb n7, ?_⟩
  · simp only [vX]; rw [hl]; exact h0
  · simp only []; rw [hl]; exact h10
theorem VolO.cellsAt {u : World} {base : Nat} {x : VolN} {v : Value} (h : VolO u base x v) (hk : 0 < x.cells.length) :
    ∃ A c B d C e b sc g, v = .agg (vX x A c B d C e b 0 sc) ∧ C = some ⟨g, 0, none⟩ ∧ base ≤ g ∧ g < u.heap.size ∧ ClRow u base (.slice (some ⟨g, 0, none⟩) x.cells.length e) x.cells ∧
      ∀ (u' : World) (L' : List Ce), L'.length = x.cells.length → u.grownBy u' (some g) → ClRow u' base (.slice (some ⟨g, 0, none⟩) L'.length e) L' → VolO u' base { x with cells := L' } v := by
  obtain ⟨A, c, B, d, C, e, b, A0, c0, C0, d0, A1, c1, C1, d1, h0, h1, h2, h3, h4, h5, h6, h7, h8, h9, h10⟩ := h
  obtain ⟨g, cap, e1, hb1, hlt⟩ := World.ownsRow.form h3 hk
  simp only [Value.slice.injEq, true_and] at e1
  obtain ⟨rfl, rfl⟩ := e1
  refine ⟨A, c, B, d, some ⟨g, 0, none⟩, e, b, 2, g, h0, rfl, hb1, hlt, h3, fun u' L' hl hgb hrow => ?_⟩
  have hmem : g ∈ blkOf (.slice (some ⟨g, 0, none⟩) x.cells.length e) := by simp [blkOf]
  have p0 : ∀ y ∈ blkOf (.slice A x.counts.length c), y ∉ blkOf (.slice (some ⟨g, 0, none⟩) x.cells.length e) := (List.pairwise_iff_getElem.1 h10) 0 2 (by simp) (by simp) (by omega)
  have n0 : g ∉ blkOf (.slice A x.counts.length c) := fun hm => p0 g hm hmem
  have p1 : ∀ y ∈ blkOf (.slice B x.trusts.length d), y ∉ blkOf (.slice (some ⟨g, 0, none⟩) x.cells.length e) := (List.pairwise_iff_getElem.1 h10) 1 2 (by simp) (by simp) (by omega)
  have n1 : g ∉ blkOf (.slice B x.trusts.length d) := fun hm => p1 g hm hmem
  have p3 : ∀ y ∈ blkOf (.slice (some ⟨g, 0, none⟩) x.cells.length e), y ∉ [b] := (List.pairwise_iff_getElem.1 h10) 2 3 (by simp) (by simp) (by omega)
  have n3 : g ≠ b := fun eq => p3 g hmem (by rw [eq]; simp)
  have p4 : ∀ y ∈ blkOf (.slice (some ⟨g, 0, none⟩) x.cells.length e), y ∉ blkOf (.slice A0 x.s0.trusts.length c0) := (List.pairwise_iff_getElem.1 h10) 2 4 (by simp) (by simp) (by omega)
  have n4 : g ∉ blkOf (.slice A0 x.s0.trusts.length c0) := p4 g hmem
  have p5 : ∀ y ∈ blkOf (.slice (some ⟨g, 0, none⟩) x.cells.length e), y ∉ blkOf (.slice C0 x.s0.cells.length d0) := (List.pairwise_iff_getElem.1 h10) 2 5 (by simp) (by simp) (by omega)
  have n5 : g ∉ blkOf (.slice C0 x.s0.cells.length d0) := p5 g hmem
  have p6 : ∀ y ∈ blkOf (.slice (some ⟨g, 0, none⟩) x.cells.length e), y ∉ blkOf (.slice A1 x.s1.trusts.length c1) := (List.pairwise_iff_getElem.1 h10) 2 6 (by simp) (by simp) (by omega)
  have n6 : g ∉ blkOf (.slice A1 x.s1.trusts.length c1) := p6 g hmem
  have p7 : ∀ y ∈ blkOf (.slice (some ⟨g, 0, none⟩) x.cells.length e), y ∉ blkOf (.slice C1 x.s1.cells.length d1) := (List.pairwise_iff_getElem.1 h10) 2 7 (by simp) (by simp) (by omega)
  have n7 : g ∉ blkOf (.slice C1 x.s1.cells.length d1) := p7 g hmem
  refine ⟨A, c, B, d, some ⟨g, 0, none⟩, e, b, A0, c0, C0, d0, A1, c1, C1, d1, ?_, row_keep h1 hgb n0, row_keep h2 hgb n1, hrow, h4, h5.grown hgb (by intro eq; injection eq with eq; exact n3 eq.symm), row_keep h6 hgb n4, row_keep h7 hgb n5, row_keep h8 hgb n6, row_keep h9 hgb n7, ?_⟩
  · simp only [vX]; rw [hl]; exact h0
  · simp only []; rw [hl]; exact h10
theorem trust_end {w w1 : World} {r : Nat} {x0 x1 x2 x3 x4 x5 x6 x7 z0 z1 z2 z3 z4 z5 z6 z7 : Value} (hk : CellsAt w1 r 80 #[z0, z1, z2, z3, z4, z5, z6, z7]) (hb : Below w.heap.size w w1) (hr : w.heap.size ≤ r) :
    ∃ w4, ((((((((w1.setCell ⟨r, 0, none⟩ x0).setCell ⟨r, 1, none⟩ x1).setCell ⟨r, 2, none⟩ x2).setCell ⟨r, 3, none⟩ x3).setCell ⟨r, 4, none⟩ x4).setCell ⟨r, 5, none⟩ x5).setCell ⟨r, 6, none⟩ x6).setCell ⟨r, 7, none⟩ x7) = w4 ∧ (w4.cell? ⟨r, 0, none⟩ = some x0 ∧ w4.cell? ⟨r, 1, none⟩ = some x1 ∧ w4.cell? ⟨r, 2, none⟩ = some x2 ∧ w4.cell? ⟨r, 3, none⟩ = some x3 ∧ w4.cell? ⟨r, 4, none⟩ = some x4 ∧ w4.cell? ⟨r, 5, none⟩ = some x5 ∧ w4.cell? ⟨r, 6, none⟩ = some x6 ∧ w4.cell? ⟨r, 7, none⟩ = some x7) ∧ CellsAt w4 r 80 #[x0, x1, x2, x3, x4, x5, x6, x7] ∧ Below w.heap.size w w4 ∧ w1.grownBy w4 (some r) := by
  have h0 := ((((((((hk.set_ 0 x0).set_ 1 x1).set_ 2 x2).set_ 3 x3).set_ 4 x4).set_ 5 x5).set_ 6 x6).set_ 7 x7)
  simp only [List.setIfInBounds_toArray, List.set_cons_zero, List.set_cons_succ] at h0
  refine ⟨_, rfl, ?_, h0, ((((((((hb.setCell (p := ⟨r, 0, none⟩) hr x0).setCell (p := ⟨r, 1, none⟩) hr x1).setCell (p := ⟨r, 2, none⟩) hr x2).setCell (p := ⟨r, 3, none⟩) hr x3).setCell (p := ⟨r, 4, none⟩) hr x4).setCell (p := ⟨r, 5, none⟩) hr x5).setCell (p := ⟨r, 6, none⟩) hr x6).setCell (p := ⟨r, 7, none⟩) hr x7), (gb_set (gb_set (gb_set (gb_set (gb_set (gb_set (gb_set (gb_set (gb_refl w1 (some r)) 0 x0) 1 x1) 2 x2) 3 x3) 4 x4) 5 x5) 6 x6) 7 x7)⟩
  generalize World.setCell _ _ _ = w4 at h0 ⊢
  exact ⟨h0.cell 0, h0.cell 1, h0.cell 2, h0.cell 3, h0.cell 4, h0.cell 5, h0.cell 6, h0.cell 7⟩
noncomputable def sumsT (key : Int) (t : Tru) (next : Bool) (a b c a' b' c' : Int) : Tru :=
  match next with
  | true => ⟨t.clock, t.epoch, t.cursor, t.read, t.written, addOf t.nread (tagOf key a b c), addOf t.nwritten (tagOf key a' b' c'), t.failed⟩
  | false => ⟨t.clock, t.epoch, t.cursor, addOf t.read (tagOf key a b c), addOf t.written (tagOf key a' b' c'), t.nread, t.nwritten, t.failed⟩
set_option maxHeartbeats 2000000 in
theorem l8Sums_true (key : Int) (A : Option Addr) (n cap : Nat) (t0 t1 t2 t3 t4 t5 t6 : Int) (t7 : Bool) (a b c a' b' c' : Int) (w : World) :
    Calls Tryz.prog 164 #[.agg (pA key A n cap), .agg (tA t0 t1 t2 t3 t4 t5 t6 t7), .bool true, .agg #[.int .i64 a, .int .i64 b, .int .i64 c], .agg #[.int .i64 a', .int .i64 b', .int .i64 c']] w fun e w' => e = .returned (.agg (tR (sumsT key ⟨t0, t1, t2, t3, t4, t5, t6, t7⟩ true a b c a' b' c'))) ∧ Below w.heap.size w w' := by
  have k0 := (((((Kept.refl w).new 26 (pA key A n cap)).new 80 (tA t0 t1 t2 t3 t4 t5 t6 t7)).new 137 #[.int .i64 a, .int .i64 b, .int .i64 c]).new 137 #[.int .i64 a', .int .i64 b', .int .i64 c']).new 80 zT
  rw [show ((((w.alloc (.cells (pA key A n cap) 26)).alloc (.cells (tA t0 t1 t2 t3 t4 t5 t6 t7) 80)).alloc (.cells #[.int .i64 a, .int .i64 b, .int .i64 c] 137)).alloc (.cells #[.int .i64 a', .int .i64 b', .int .i64 c'] 137)).heap.size = w.heap.size + 1 + 1 + 1 + 1 by simp, show (((w.alloc (.cells (pA key A n cap) 26)).alloc (.cells (tA t0 t1 t2 t3 t4 t5 t6 t7) 80)).alloc (.cells #[.int .i64 a, .int .i64 b, .int .i64 c] 137)).heap.size = w.heap.size + 1 + 1 + 1 by simp, show ((w.alloc (.cells (pA key A n cap) 26)).alloc (.cells (tA t0 t1 t2 t3 t4 t5 t6 t7) 80)).heap.size = w.heap.size + 1 + 1 by simp, show (w.alloc (.cells (pA key A n cap) 26)).heap.size = w.heap.size + 1 by simp] at k0
  have K0 := Lib.hid k0
  have C := Lib.hid (fun u => specTag_calls key a b c u)
  have D := Lib.hid (fun u => specTag_calls key a' b' c' u)
  clear k0
  simp only [sumsT]
  generalize tagOf key a b c = u at C ⊢
  generalize tagOf key a' b' c' = v at D ⊢
  go_enter Tryz.func164, Tryz.ntmps164
  go_wp2_with fail
  refine (C.out _).mono ?_; rintro e w1 ⟨rfl, b1⟩
  have k1 := K0.out.below b1
  have p0 : w1.cell? ⟨w.heap.size, 0, none⟩ = some (.int .i64 key) := k1.cell (p := w.heap.size) (t := 26) (cs := (pA key A n cap)) (by simp) 0
  have g0 : w1.cell? ⟨w.heap.size + 1 + 1 + 1, 0, none⟩ = some (.int .i64 a') := k1.cell (p := w.heap.size + 1 + 1 + 1) (t := 137) (cs := #[.int .i64 a', .int .i64 b', .int .i64 c']) (by simp) 0
  have g1 : w1.cell? ⟨w.heap.size + 1 + 1 + 1, 1, none⟩ = some (.int .i64 b') := k1.cell (p := w.heap.size + 1 + 1 + 1) (t := 137) (cs := #[.int .i64 a', .int .i64 b', .int .i64 c']) (by simp) 1
  have g2 : w1.cell? ⟨w.heap.size + 1 + 1 + 1, 2, none⟩ = some (.int .i64 c') := k1.cell (p := w.heap.size + 1 + 1 + 1) (t := 137) (cs := #[.int .i64 a', .int .i64 b', .int .i64 c']) (by simp) 2
  have K1 := Lib.hid k1
  clear b1 k1 C K0
  go_wp2_with fail
  refine (D.out _).mono ?_; rintro e w2 ⟨rfl, b2⟩
  have k2 := K1.out.below b2
  have q5 : w2.cell? ⟨w.heap.size + 1, 5, none⟩ = some (.int .i64 t5) := k2.cell (p := w.heap.size + 1) (t := 80) (cs := (tA t0 t1 t2 t3 t4 t5 t6 t7)) (by simp) 5
  have q6 : w2.cell? ⟨w.heap.size + 1, 6, none⟩ = some (.int .i64 t6) := k2.cell (p := w.heap.size + 1) (t := 80) (cs := (tA t0 t1 t2 t3 t4 t5 t6 t7)) (by simp) 6
  have f5 := k2.frozen (p := w.heap.size + 1) (t := 80) (cs := (tA t0 t1 t2 t3 t4 t5 t6 t7)) (by simp) 5
  have f6 := k2.frozen (p := w.heap.size + 1) (t := 80) (cs := (tA t0 t1 t2 t3 t4 t5 t6 t7)) (by simp) 6
  have k3 : Kept w [(w.heap.size + 1, 80, (tA t0 t1 t2 t3 t4 t5 t6 t7)), (w.heap.size + 1 + 1 + 1 + 1, 80, zT)] w2 := k2.sub (by intro x hx; simp at hx; rcases hx with rfl | rfl <;> simp)
  have K3 := Lib.hid ((k3.set (by intro x hx; simp at hx; subst hx; simp <;> omega) 5 (.int .i64 (addOf t5 u))).set (by intro x hx; simp at hx; subst hx; simp <;> omega) 6 (.int .i64 (addOf t6 v)))
  clear b2 k2 k3 D K1 p0 g0 g1 g2
  go_wp2_with fail
  refine (specAdd_calls _ _ _).mono ?_; rintro e w' ⟨rfl, rfl⟩
  go_wp2_with fail
  refine (specAdd_calls _ _ _).mono ?_; rintro e w' ⟨rfl, rfl⟩
  go_upto_region 8 with fail
  have k4 : Kept w [(w.heap.size + 1, 80, (tA t0 t1 t2 t3 t4 (addOf t5 u) (addOf t6 v) t7)), (w.heap.size + 1 + 1 + 1 + 1, 80, zT)] ((w2.setCell ⟨w.heap.size + 1, 5, none⟩ (.int .i64 (addOf t5 u))).setCell ⟨w.heap.size + 1, 6, none⟩ (.int .i64 (addOf t6 v))) := K3.out
  clear K3 q5 q6 f5 f6
  generalize World.setCell _ _ _ = w3 at k4 ⊢
  have a0 : w3.cell? ⟨w.heap.size + 1, 0, none⟩ = some (.int .i64 t0) := k4.cell (List.mem_cons_self ..) 0
  have a1 : w3.cell? ⟨w.heap.size + 1, 1, none⟩ = some (.int .i64 t1) := k4.cell (List.mem_cons_self ..) 1
  have a2 : w3.cell? ⟨w.heap.size + 1, 2, none⟩ = some (.int .i64 t2) := k4.cell (List.mem_cons_self ..) 2
  have a3 : w3.cell? ⟨w.heap.size + 1, 3, none⟩ = some (.int .i64 t3) := k4.cell (List.mem_cons_self ..) 3
  have a4 : w3.cell? ⟨w.heap.size + 1, 4, none⟩ = some (.int .i64 t4) := k4.cell (List.mem_cons_self ..) 4
  have a5 : w3.cell? ⟨w.heap.size + 1, 5, none⟩ = some (.int .i64 (addOf t5 u)) := k4.cell (List.mem_cons_self ..) 5
  have a6 : w3.cell? ⟨w.heap.size + 1, 6, none⟩ = some (.int .i64 (addOf t6 v)) := k4.cell (List.mem_cons_self ..) 6
  have a7 : w3.cell? ⟨w.heap.size + 1, 7, none⟩ = some (.bool t7) := k4.cell (List.mem_cons_self ..) 7
  have r0 : w3.cell? ⟨w.heap.size + 1 + 1 + 1 + 1, 0, none⟩ = some (.int .i64 0) := k4.tail.cell (List.mem_cons_self ..) 0
  have r1 : w3.cell? ⟨w.heap.size + 1 + 1 + 1 + 1, 1, none⟩ = some (.int .i64 0) := k4.tail.cell (List.mem_cons_self ..) 1
  have r2 : w3.cell? ⟨w.heap.size + 1 + 1 + 1 + 1, 2, none⟩ = some (.int .i64 0) := k4.tail.cell (List.mem_cons_self ..) 2
  have r3 : w3.cell? ⟨w.heap.size + 1 + 1 + 1 + 1, 3, none⟩ = some (.int .i64 0) := k4.tail.cell (List.mem_cons_self ..) 3
  have r4 : w3.cell? ⟨w.heap.size + 1 + 1 + 1 + 1, 4, none⟩ = some (.int .i64 0) := k4.tail.cell (List.mem_cons_self ..) 4
  have r5 : w3.cell? ⟨w.heap.size + 1 + 1 + 1 + 1, 5, none⟩ = some (.int .i64 0) := k4.tail.cell (List.mem_cons_self ..) 5
  have r6 : w3.cell? ⟨w.heap.size + 1 + 1 + 1 + 1, 6, none⟩ = some (.int .i64 0) := k4.tail.cell (List.mem_cons_self ..) 6
  have r7 : w3.cell? ⟨w.heap.size + 1 + 1 + 1 + 1, 7, none⟩ = some (.bool false) := k4.tail.cell (List.mem_cons_self ..) 7
  have h0 := k4.tail.frozen (List.mem_cons_self ..) 0
  have h1 := k4.tail.frozen (List.mem_cons_self ..) 1
  have h2 := k4.tail.frozen (List.mem_cons_self ..) 2
  have h3 := k4.tail.frozen (List.mem_cons_self ..) 3
  have h4 := k4.tail.frozen (List.mem_cons_self ..) 4
  have h5 := k4.tail.frozen (List.mem_cons_self ..) 5
  have h6 := k4.tail.frozen (List.mem_cons_self ..) 6
  have h7 := k4.tail.frozen (List.mem_cons_self ..) 7
  have K4 := Lib.hid k4
  clear k4
  go_wp2_with fail
  obtain ⟨w9, e9, ⟨d0, d1, d2, d3, d4, d5, d6, d7⟩, -, hb, -⟩ := trust_end (x0 := .int .i64 t0) (x1 := .int .i64 t1) (x2 := .int .i64 t2) (x3 := .int .i64 t3) (x4 := .int .i64 t4) (x5 := .int .i64 (addOf t5 u)) (x6 := .int .i64 (addOf t6 v)) (x7 := .bool t7) (K4.out.tail.at_ (List.mem_cons_self ..)) K4.out.1 (by omega)
  rw [e9]
  clear e9
  exact bodyPost_ret (v := .agg (tA t0 t1 t2 t3 t4 (addOf t5 u) (addOf t6 v) t7)) (by simp [results, Tryz.results164, go_sem, d0, d1, d2, d3, d4, d5, d6, d7]) rfl ⟨rfl, hb⟩
set_option maxHeartbeats 2000000 in
theorem l8Sums_false (key : Int) (A : Option Addr) (n cap : Nat) (t0 t1 t2 t3 t4 t5 t6 : Int) (t7 : Bool) (a b c a' b' c' : Int) (w : World) :
    Calls Tryz.prog 164 #[.agg (pA key A n cap), .agg (tA t0 t1 t2 t3 t4 t5 t6 t7), .bool false, .agg #[.int .i64 a, .int .i64 b, .int .i64 c], .agg #[.int .i64 a', .int .i64 b', .int .i64 c']] w fun e w' => e = .returned (.agg (tR (sumsT key ⟨t0, t1, t2, t3, t4, t5, t6, t7⟩ false a b c a' b' c'))) ∧ Below w.heap.size w w' := by
  have k0 := (((((Kept.refl w).new 26 (pA key A n cap)).new 80 (tA t0 t1 t2 t3 t4 t5 t6 t7)).new 137 #[.int .i64 a, .int .i64 b, .int .i64 c]).new 137 #[.int .i64 a', .int .i64 b', .int .i64 c']).new 80 zT
  rw [show ((((w.alloc (.cells (pA key A n cap) 26)).alloc (.cells (tA t0 t1 t2 t3 t4 t5 t6 t7) 80)).alloc (.cells #[.int .i64 a, .int .i64 b, .int .i64 c] 137)).alloc (.cells #[.int .i64 a', .int .i64 b', .int .i64 c'] 137)).heap.size = w.heap.size + 1 + 1 + 1 + 1 by simp, show (((w.alloc (.cells (pA key A n cap) 26)).alloc (.cells (tA t0 t1 t2 t3 t4 t5 t6 t7) 80)).alloc (.cells #[.int .i64 a, .int .i64 b, .int .i64 c] 137)).heap.size = w.heap.size + 1 + 1 + 1 by simp, show ((w.alloc (.cells (pA key A n cap) 26)).alloc (.cells (tA t0 t1 t2 t3 t4 t5 t6 t7) 80)).heap.size = w.heap.size + 1 + 1 by simp, show (w.alloc (.cells (pA key A n cap) 26)).heap.size = w.heap.size + 1 by simp] at k0
  have K0 := Lib.hid k0
  have C := Lib.hid (fun u => specTag_calls key a b c u)
  have D := Lib.hid (fun u => specTag_calls key a' b' c' u)
  clear k0
  simp only [sumsT]
  generalize tagOf key a b c = u at C ⊢
  generalize tagOf key a' b' c' = v at D ⊢
  go_enter Tryz.func164, Tryz.ntmps164
  go_wp2_with fail
  refine (C.out _).mono ?_; rintro e w1 ⟨rfl, b1⟩
  have k1 := K0.out.below b1
  have p0 : w1.cell? ⟨w.heap.size, 0, none⟩ = some (.int .i64 key) := k1.cell (p := w.heap.size) (t := 26) (cs := (pA key A n cap)) (by simp) 0
  have g0 : w1.cell? ⟨w.heap.size + 1 + 1 + 1, 0, none⟩ = some (.int .i64 a') := k1.cell (p := w.heap.size + 1 + 1 + 1) (t := 137) (cs := #[.int .i64 a', .int .i64 b', .int .i64 c']) (by simp) 0
  have g1 : w1.cell? ⟨w.heap.size + 1 + 1 + 1, 1, none⟩ = some (.int .i64 b') := k1.cell (p := w.heap.size + 1 + 1 + 1) (t := 137) (cs := #[.int .i64 a', .int .i64 b', .int .i64 c']) (by simp) 1
  have g2 : w1.cell? ⟨w.heap.size + 1 + 1 + 1, 2, none⟩ = some (.int .i64 c') := k1.cell (p := w.heap.size + 1 + 1 + 1) (t := 137) (cs := #[.int .i64 a', .int .i64 b', .int .i64 c']) (by simp) 2
  have K1 := Lib.hid k1
  clear b1 k1 C K0
  go_wp2_with fail
  refine (D.out _).mono ?_; rintro e w2 ⟨rfl, b2⟩
  have k2 := K1.out.below b2
  have q3 : w2.cell? ⟨w.heap.size + 1, 3, none⟩ = some (.int .i64 t3) := k2.cell (p := w.heap.size + 1) (t := 80) (cs := (tA t0 t1 t2 t3 t4 t5 t6 t7)) (by simp) 3
  have q4 : w2.cell? ⟨w.heap.size + 1, 4, none⟩ = some (.int .i64 t4) := k2.cell (p := w.heap.size + 1) (t := 80) (cs := (tA t0 t1 t2 t3 t4 t5 t6 t7)) (by simp) 4
  have f3 := k2.frozen (p := w.heap.size + 1) (t := 80) (cs := (tA t0 t1 t2 t3 t4 t5 t6 t7)) (by simp) 3
  have f4 := k2.frozen (p := w.heap.size + 1) (t := 80) (cs := (tA t0 t1 t2 t3 t4 t5 t6 t7)) (by simp) 4
  have k3 : Kept w [(w.heap.size + 1, 80, (tA t0 t1 t2 t3 t4 t5 t6 t7)), (w.heap.size + 1 + 1 + 1 + 1, 80, zT)] w2 := k2.sub (by intro x hx; simp at hx; rcases hx with rfl | rfl <;> simp)
  have K3 := Lib.hid ((k3.set (by intro x hx; simp at hx; subst hx; simp <;> omega) 3 (.int .i64 (addOf t3 u))).set (by intro x hx; simp at hx; subst hx; simp <;> omega) 4 (.int .i64 (addOf t4 v)))
  clear b2 k2 k3 D K1 p0 g0 g1 g2
  go_wp2_with fail
  refine (specAdd_calls _ _ _).mono ?_; rintro e w' ⟨rfl, rfl⟩
  go_wp2_with fail
  refine (specAdd_calls _ _ _).mono ?_; rintro e w' ⟨rfl, rfl⟩
  go_upto_region 8 with fail
  have k4 : Kept w [(w.heap.size + 1, 80, (tA t0 t1 t2 (addOf t3 u) (addOf t4 v) t5 t6 t7)), (w.heap.size + 1 + 1 + 1 + 1, 80, zT)] ((w2.setCell ⟨w.heap.size + 1, 3, none⟩ (.int .i64 (addOf t3 u))).setCell ⟨w.heap.size + 1, 4, none⟩ (.int .i64 (addOf t4 v))) := K3.out
  clear K3 q3 q4 f3 f4
  generalize World.setCell _ _ _ = w3 at k4 ⊢
  have a0 : w3.cell? ⟨w.heap.size + 1, 0, none⟩ = some (.int .i64 t0) := k4.cell (List.mem_cons_self ..) 0
  have a1 : w3.cell? ⟨w.heap.size + 1, 1, none⟩ = some (.int .i64 t1) := k4.cell (List.mem_cons_self ..) 1
  have a2 : w3.cell? ⟨w.heap.size + 1, 2, none⟩ = some (.int .i64 t2) := k4.cell (List.mem_cons_self ..) 2
  have a3 : w3.cell? ⟨w.heap.size + 1, 3, none⟩ = some (.int .i64 (addOf t3 u)) := k4.cell (List.mem_cons_self ..) 3
  have a4 : w3.cell? ⟨w.heap.size + 1, 4, none⟩ = some (.int .i64 (addOf t4 v)) := k4.cell (List.mem_cons_self ..) 4
  have a5 : w3.cell? ⟨w.heap.size + 1, 5, none⟩ = some (.int .i64 t5) := k4.cell (List.mem_cons_self ..) 5
  have a6 : w3.cell? ⟨w.heap.size + 1, 6, none⟩ = some (.int .i64 t6) := k4.cell (List.mem_cons_self ..) 6
  have a7 : w3.cell? ⟨w.heap.size + 1, 7, none⟩ = some (.bool t7) := k4.cell (List.mem_cons_self ..) 7
  have r0 : w3.cell? ⟨w.heap.size + 1 + 1 + 1 + 1, 0, none⟩ = some (.int .i64 0) := k4.tail.cell (List.mem_cons_self ..) 0
  have r1 : w3.cell? ⟨w.heap.size + 1 + 1 + 1 + 1, 1, none⟩ = some (.int .i64 0) := k4.tail.cell (List.mem_cons_self ..) 1
  have r2 : w3.cell? ⟨w.heap.size + 1 + 1 + 1 + 1, 2, none⟩ = some (.int .i64 0) := k4.tail.cell (List.mem_cons_self ..) 2
  have r3 : w3.cell? ⟨w.heap.size + 1 + 1 + 1 + 1, 3, none⟩ = some (.int .i64 0) := k4.tail.cell (List.mem_cons_self ..) 3
  have r4 : w3.cell? ⟨w.heap.size + 1 + 1 + 1 + 1, 4, none⟩ = some (.int .i64 0) := k4.tail.cell (List.mem_cons_self ..) 4
  have r5 : w3.cell? ⟨w.heap.size + 1 + 1 + 1 + 1, 5, none⟩ = some (.int .i64 0) := k4.tail.cell (List.mem_cons_self ..) 5
  have r6 : w3.cell? ⟨w.heap.size + 1 + 1 + 1 + 1, 6, none⟩ = some (.int .i64 0) := k4.tail.cell (List.mem_cons_self ..) 6
  have r7 : w3.cell? ⟨w.heap.size + 1 + 1 + 1 + 1, 7, none⟩ = some (.bool false) := k4.tail.cell (List.mem_cons_self ..) 7
  have h0 := k4.tail.frozen (List.mem_cons_self ..) 0
  have h1 := k4.tail.frozen (List.mem_cons_self ..) 1
  have h2 := k4.tail.frozen (List.mem_cons_self ..) 2
  have h3 := k4.tail.frozen (List.mem_cons_self ..) 3
  have h4 := k4.tail.frozen (List.mem_cons_self ..) 4
  have h5 := k4.tail.frozen (List.mem_cons_self ..) 5
  have h6 := k4.tail.frozen (List.mem_cons_self ..) 6
  have h7 := k4.tail.frozen (List.mem_cons_self ..) 7
  have K4 := Lib.hid k4
  clear k4
  go_wp2_with fail
  obtain ⟨w9, e9, ⟨d0, d1, d2, d3, d4, d5, d6, d7⟩, -, hb, -⟩ := trust_end (x0 := .int .i64 t0) (x1 := .int .i64 t1) (x2 := .int .i64 t2) (x3 := .int .i64 (addOf t3 u)) (x4 := .int .i64 (addOf t4 v)) (x5 := .int .i64 t5) (x6 := .int .i64 t6) (x7 := .bool t7) (K4.out.tail.at_ (List.mem_cons_self ..)) K4.out.1 (by omega)
  rw [e9]
  clear e9
  exact bodyPost_ret (v := .agg (tA t0 t1 t2 (addOf t3 u) (addOf t4 v) t5 t6 t7)) (by simp [results, Tryz.results164, go_sem, d0, d1, d2, d3, d4, d5, d6, d7]) rfl ⟨rfl, hb⟩
end Go.Proofs.YtgaecedhkbneaaaGreatDoor.Mx

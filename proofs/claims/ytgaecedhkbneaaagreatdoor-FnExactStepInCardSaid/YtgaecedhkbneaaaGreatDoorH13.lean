import Derived.Test.YtgaecedhkbneaaaGreatDoorH07
import Derived.Test.YtgaecedhkbneaaaGreatDoorH12
import Derived.Test.YtgaecedhkbneaaaGreatDoorH04
import Derived.Deep.RegionHeld3
import Derived.Test.YtgaecedhkbneaaaGreatDoorH05
import Derived.StillTail
namespace Go.Proofs.YtgaecedhkbneaaaGreatDoor.Mx
open Go.ChangeShapes Go.WideShapes Go.ChangeAt Go.RowKit
set_option linter.unusedVariables false
theorem row_setCell {w : World} {base e size n c g i : Nat} {xs : List Value} (h : w.ownsRow base e size (.slice (some ⟨g, 0, none⟩) n c) n xs) (hi : i < n * size) (u : Value) :
    (w.setCell ⟨g, i, none⟩ u).ownsRow base e size (.slice (some ⟨g, 0, none⟩) n c) n (xs.set i u) := by
  refine ⟨by rw [List.length_set]; exact h.1, ?_⟩
  rcases h.2 with ⟨h0, _⟩ | ⟨g', cap, cur, e1, hb, hg, hnc, hcm, hcs, htake⟩
  · cases h0
  · simp only [Value.slice.injEq, Option.some.injEq, Addr.mk.injEq, and_true, true_and] at e1
    obtain ⟨rfl, rfl⟩ := e1
    refine .inr ⟨g, c, cur.setIfInBounds i u, rfl, hb, heap_setCell_same w g i cur e u hg, hnc, hcm, by simpa using hcs, ?_⟩
    rw [Array.toList_setIfInBounds, List.take_set, htake]
section
variable {α : Type} [Inhabited α] {enc : α → List Value} {n : Nat}
theorem flatS_set (hn : ∀ x, (enc x).length = n) (L : List α) (k : Nat) (x : α) (hk : k < L.length) : ∀ i, i < L.length * n → (flatS enc (L.set k x))[i]? = if k * n ≤ i ∧ i < (k + 1) * n then (enc x)[i - k * n]? else (flatS enc L)[i]? := by
  intro i hi
  have hp : 0 < n := by rcases Nat.eq_zero_or_pos n with h | h; subst h; simp at hi; exact h
  have hm := Nat.mod_lt i hp
  have hd : i / n < L.length := (Nat.div_lt_iff_lt_mul hp).2 hi
  have he : i / n * n + i % n = i := by rw [Nat.mul_comm]; exact Nat.div_add_mod i n
  have h1 : (flatS enc (L.set k x))[i]? = (enc ((L.set k x).getD (i / n) default))[i % n]? := by
    have := flatS_get (enc := enc) (L := L.set k x) hn (i / n) (i % n) (by rw [List.length_set]; exact hd) hm
    rwa [he] at this
  have h2 : (flatS enc L)[i]? = (enc (L.getD (i / n) default))[i % n]? := by
    have := flatS_get (enc := enc) (L := L) hn (i / n) (i % n) hd hm
    rwa [he] at this
  rw [h1, h2, List.getD_eq_getElem?_getD, List.getD_eq_getElem?_getD, List.getElem?_set]
  by_cases hik : i / n = k
  · subst hik
    rw [if_pos rfl, if_pos hd, if_pos ⟨by omega, by rw [Nat.succ_mul]; omega⟩]
    simp only [Option.getD_some]
    congr 1; omega
  · rw [if_neg (fun e => hik e.symm), if_neg]
    rintro ⟨a, b⟩
    apply hik
    have c1 : k ≤ i / n := (Nat.le_div_iff_mul_le hp).2 a
    have c2 : i / n < k + 1 := (Nat.div_lt_iff_lt_mul hp).2 b
    omega
end
theorem TrRow.set_ {w : World} {base c g : Nat} {L : List Tru} {k : Nat} (h : TrRow w base (.slice (some ⟨g, 0, none⟩) L.length c) L) (hk : k < L.length) (t : Tru) :
    TrRow ((((((((w.setCell ⟨g, k * 8, none⟩ (.int .i64 t.clock)).setCell ⟨g, k * 8 + 1, none⟩ (.int .i64 t.epoch)).setCell ⟨g, k * 8 + 2, none⟩ (.int .i64 t.cursor)).setCell ⟨g, k * 8 + 3, none⟩ (.int .i64 t.read)).setCell ⟨g, k * 8 + 4, none⟩ (.int .i64 t.written)).setCell ⟨g, k * 8 + 5, none⟩ (.int .i64 t.nread)).setCell ⟨g, k * 8 + 6, none⟩ (.int .i64 t.nwritten)).setCell ⟨g, k * 8 + 7, none⟩ (.bool t.failed)) base (.slice (some ⟨g, 0, none⟩) L.length c) (L.set k t) := by
  have hb : (k + 1) * 8 ≤ L.length * 8 := Nat.mul_le_mul_right 8 hk
  have h8 := row_setCell (row_setCell (row_setCell (row_setCell (row_setCell (row_setCell (row_setCell (row_setCell h (i := k * 8) (by omega) (.int .i64 t.clock)) (i := k * 8 + 1) (by omega) (.int .i64 t.epoch)) (i := k * 8 + 2) (by omega) (.int .i64 t.cursor)) (i := k * 8 + 3) (by omega) (.int .i64 t.read)) (i := k * 8 + 4) (by omega) (.int .i64 t.written)) (i := k * 8 + 5) (by omega) (.int .i64 t.nread)) (i := k * 8 + 6) (by omega) (.int .i64 t.nwritten)) (i := k * 8 + 7) (by omega) (.bool t.failed)
  unfold TrRow SRow
  rw [List.length_set]
  have e : flatS truV (L.set k t) = ((((((((flatS truV L).set (k * 8) (.int .i64 t.clock)).set (k * 8 + 1) (.int .i64 t.epoch)).set (k * 8 + 2) (.int .i64 t.cursor)).set (k * 8 + 3) (.int .i64 t.read)).set (k * 8 + 4) (.int .i64 t.written)).set (k * 8 + 5) (.int .i64 t.nread)).set (k * 8 + 6) (.int .i64 t.nwritten)).set (k * 8 + 7) (.bool t.failed) := by
    apply List.ext_getElem?
    intro i
    have hlen : (flatS truV L).length = L.length * 8 := flatS_length truV_len
    rcases Nat.lt_or_ge i (L.length * 8) with hi | hi
    · rw [flatS_set truV_len L k t hk i hi]
      simp only [List.getElem?_set, List.length_set, hlen]
      by_cases hin : k * 8 ≤ i ∧ i < (k + 1) * 8
      · rw [if_pos hin]
        obtain ⟨j, hj, rfl⟩ : ∃ j, j < 8 ∧ i = k * 8 + j := ⟨i - k * 8, by omega, by omega⟩
        rw [Nat.add_sub_cancel_left]
        have hj8 : j = 0 ∨ j = 1 ∨ j = 2 ∨ j = 3 ∨ j = 4 ∨ j = 5 ∨ j = 6 ∨ j = 7 := by omega
        rcases hj8 with rfl | rfl | rfl | rfl | rfl | rfl | rfl | rfl <;> simp [truV] <;> omega
      · rw [if_neg hin]
        repeat (rw [if_neg (by omega)])
    · rw [List.getElem?_eq_none (by rw [flatS_length truV_len, List.length_set]; exact hi), List.getElem?_eq_none (by simp only [List.length_set]; rw [hlen]; exact hi)]
  rw [e]
  exact h8
theorem ClRow.set_ {w : World} {base c g : Nat} {L : List Ce} {k : Nat} (h : ClRow w base (.slice (some ⟨g, 0, none⟩) L.length c) L) (hk : k < L.length) (t : Ce) :
    ClRow ((w.setCell ⟨g, k * 2, none⟩ (.int .i64 t.1)).setCell ⟨g, k * 2 + 1, none⟩ (.int .i64 t.2)) base (.slice (some ⟨g, 0, none⟩) L.length c) (L.set k t) := by
  have hb : (k + 1) * 2 ≤ L.length * 2 := Nat.mul_le_mul_right 2 hk
  have h8 := row_setCell (row_setCell h (i := k * 2) (by omega) (.int .i64 t.1)) (i := k * 2 + 1) (by omega) (.int .i64 t.2)
  unfold ClRow SRow
  rw [List.length_set]
  have e : flatS ceV (L.set k t) = ((flatS ceV L).set (k * 2) (.int .i64 t.1)).set (k * 2 + 1) (.int .i64 t.2) := by
    apply List.ext_getElem?
    intro i
    have hlen : (flatS ceV L).length = L.length * 2 := flatS_length ceV_len
    rcases Nat.lt_or_ge i (L.length * 2) with hi | hi
    · rw [flatS_set ceV_len L k t hk i hi]
      simp only [List.getElem?_set, List.length_set, hlen]
      by_cases hin : k * 2 ≤ i ∧ i < (k + 1) * 2
      · rw [if_pos hin]
        obtain ⟨j, hj, rfl⟩ : ∃ j, j < 2 ∧ i = k * 2 + j := ⟨i - k * 2, by omega, by omega⟩
        rw [Nat.add_sub_cancel_left]
        have hj8 : j = 0 ∨ j = 1 := by omega
        rcases hj8 with rfl | rfl <;> simp [ceV] <;> omega
      · rw [if_neg hin]
        repeat (rw [if_neg (by omega)])
    · rw [List.getElem?_eq_none (by rw [flatS_length ceV_len, List.length_set]; exact hi), List.getElem?_eq_none (by simp only [List.length_set]; rw [hlen]; exact hi)]
  rw [e]
  exact h8
def VolR (w : World) (Bd : Nat) (x : VolN) (v : Value) : Prop :=
  ∃ A c B d C e b off sc, v = .agg (vX x A c B d C e b off sc) ∧
    Ints w .i64 Bd A x.counts ∧ Trs w Bd B x.trusts ∧ Cls w Bd C x.cells ∧ b < Bd ∧ SlotAt w Bd b off x.s0 ∧ SlotAt w Bd b (off + 4) x.s1 ∧ x.counts.length ≤ c
theorem VolR.below {w u : World} {Bd D : Nat} {x : VolN} {v : Value} (h : VolR w Bd x v) (hb : Below D w u) (hD : Bd ≤ D) : VolR u Bd x v := by
  obtain ⟨A, c, B, d, C, e, b, off, sc, h0, h1, h2, h3, h4, h5, h6, h7⟩ := h
  exact ⟨A, c, B, d, C, e, b, off, sc, h0, h1.below hb hD, h2.below hb hD, h3.below hb hD, h4, h5.below hb hD h4, h6.below hb hD h4, h7⟩
theorem VolR.more {w : World} {Bd D : Nat} {x : VolN} {v : Value} (h : VolR w Bd x v) (hD : Bd ≤ D) : VolR w D x v := by
  obtain ⟨A, c, B, d, C, e, b, off, sc, h0, h1, h2, h3, h4, h5, h6, h7⟩ := h
  exact ⟨A, c, B, d, C, e, b, off, sc, h0, h1.more hD, h2.more hD, h3.more hD, by omega, h5.more hD, h6.more hD, h7⟩
theorem row_at {u : World} {base : Nat} {v : Value} {t size n : Nat} {xs : List Value} (h : u.ownsRow base t size v n xs) : ∀ g ∈ blkOf v, base ≤ g ∧ g < u.heap.size := by
  intro g hg
  unfold blkOf at hg
  split at hg
  · rename_i a _ _
    simp only [List.mem_singleton] at hg
    subst hg
    exact World.ownsRow.lt h a.block rfl
  · cases hg
theorem row_keep {u u' : World} {base p : Nat} {v : Value} {t size n : Nat} {xs : List Value} (h : u.ownsRow base t size v n xs) (hg : u.grownBy u' (some p)) (hp : p ∉ blkOf v) : u'.ownsRow base t size v n xs :=
  row_stable h fun g hgm => hg.block g (row_at h g hgm).2 (by intro e; injection e with e; subst e; exact hp hgm)
theorem VolO.reads {u : World} {base : Nat} {x : VolN} {v : Value} (h : VolO u base x v) : VolR u u.heap.size x v := by
  obtain ⟨A, c, B, d, C, e, g, A0, c0, C0, d0, A1, c1, C1, d1, h0, h1, h2, h3, h4, h5, h6, h7, h8, h9, h10⟩ := h
  obtain ⟨A', c', e1, i1, i2⟩ := h1.form
  obtain ⟨B', d', e2, i3, i4⟩ := h2.reads truV_len
  obtain ⟨C', f', e3, i5, i6⟩ := h3.reads ceV_len
  obtain ⟨A0', c0', e4, i7, _⟩ := h6.reads truV_len
  obtain ⟨C0', d0', e5, i8, _⟩ := h7.reads ceV_len
  obtain ⟨A1', c1', e6, i9, _⟩ := h8.reads truV_len
  obtain ⟨C1', d1', e7, i10, _⟩ := h9.reads ceV_len
  simp only [Value.slice.injEq, true_and] at e1 e2 e3 e4 e5 e6 e7
  obtain ⟨rfl, rfl⟩ := e1
  obtain ⟨rfl, rfl⟩ := e2
  obtain ⟨rfl, rfl⟩ := e3
  obtain ⟨rfl, rfl⟩ := e4
  obtain ⟨rfl, rfl⟩ := e5
  obtain ⟨rfl, rfl⟩ := e6
  obtain ⟨rfl, rfl⟩ := e7
  refine ⟨A, c, B, d, C, e, g, 0, 2, h0, i1, i3, i5, h5.lt, ⟨A0, c0, C0, d0, h5.cell 0, h5.cell 1, h5.cell 2, h5.cell 3, i7, i8⟩, ⟨A1, c1, C1, d1, h5.cell 4, h5.cell 5, h5.cell 6, h5.cell 7, i9, i10⟩, i2⟩
theorem VolO.below {u u' : World} {base : Nat} {x : VolN} {v : Value} (h : VolO u base x v) (hb : Below u.heap.size u u') : VolO u' base x v := by
  obtain ⟨A, c, B, d, C, e, g, A0, c0, C0, d0, A1, c1, C1, d1, h0, h1, h2, h3, h4, h5, h6, h7, h8, h9, h10⟩ := h
  have k := fun {vv : Value} {t size n : Nat} {xs : List Value} (hr : u.ownsRow base t size vv n xs) => row_stable hr (u' := u') fun y hy => hb.block y (row_at hr y hy).2
  exact ⟨A, c, B, d, C, e, g, A0, c0, C0, d0, A1, c1, C1, d1, h0, k h1, k h2, k h3, h4, h5.below hb h5.lt, k h6, k h7, k h8, k h9, h10⟩
theorem VolO.mono {u : World} {base base' : Nat} {x : VolN} {v : Value} (h : VolO u base x v) (hb : base' ≤ base) : VolO u base' x v := by
  obtain ⟨A, c, B, d, C, e, g, A0, c0, C0, d0, A1, c1, C1, d1, h0, h1, h2, h3, h4, h5, h6, h7, h8, h9, h10⟩ := h
  exact ⟨A, c, B, d, C, e, g, A0, c0, C0, d0, A1, c1, C1, d1, h0, row_mono h1 hb, row_mono h2 hb, row_mono h3 hb, Nat.le_trans hb h4, h5, row_mono h6 hb, row_mono h7 hb, row_mono h8 hb, row_mono h9 hb, h10⟩
theorem VolO.out {u u' : World} {base p : Nat} {x : VolN} {v : Value} (h : VolO u base x v) (hg : u.grownBy u' (some p)) (hp : p < base) : VolO u' base x v := by
  obtain ⟨A, c, B, d, C, e, g, A0, c0, C0, d0, A1, c1, C1, d1, h0, h1, h2, h3, h4, h5, h6, h7, h8, h9, h10⟩ := h
  have k := fun {vv : Value} {t size n : Nat} {xs : List Value} (hr : u.ownsRow base t size vv n xs) => row_keep hr hg (fun hm => by have := (row_at hr p hm).1; omega)
  exact ⟨A, c, B, d, C, e, g, A0, c0, C0, d0, A1, c1, C1, d1, h0, k h1, k h2, k h3, h4, h5.grown hg (by intro q; injection q with q; omega), k h6, k h7, k h8, k h9, h10⟩
theorem VolO.trustsAt {u : World} {base : Nat} {x : VolN} {v : Value} (h : VolO u base x v) (hk : 0 < x.trusts.length) :
    ∃ A c B d C e b sc g, v = .agg (vX x A c B d C e b 0 sc) ∧ B = some ⟨g, 0, none⟩ ∧ base ≤ g ∧ g < u.heap.size ∧ TrRow u base (.slice (some ⟨g, 0, none⟩) x.trusts.length d) x.trusts ∧
      ∀ (u' : World) (L' : List Tru), L'.length = x.trusts.length → u.grownBy u' (some g) → TrRow u' base (.slice (some ⟨g, 0, none⟩) L'.length d) L' → VolO u' base { x with trusts := L' } v := by
  obtain ⟨A, c, B, d, C, e, b, A0, c0, C0, d0, A1, c1, C1, d1, h0, h1, h2, h3, h4, h5, h6, h7, h8, h9, h10⟩ := h
  obtain ⟨g, cap, e1, hb1, hlt⟩ := World.ownsRow.form h2 hk
  simp only [Value.slice.injEq, true_and] at e1
  obtain ⟨rfl, rfl⟩ := e1
  refine ⟨A, c, some ⟨g, 0, none⟩, d, C, e, b, 2, g, h0, rfl, hb1, hlt, h2, fun u' L' hl hgb hrow => ?_⟩
  have hmem : g ∈ blkOf (.slice (some ⟨g, 0, none⟩) x.trusts.length d) := by simp [blkOf]
  have p0 : ∀ y ∈ blkOf (.slice A x.counts.length c), y ∉ blkOf (.slice (some ⟨g, 0, none⟩) x.trusts.length d) := (List.pairwise_iff_getElem.1 h10) 0 1 (by simp) (by simp) (by omega)
  have n0 : g ∉ blkOf (.slice A x.counts.length c) := fun hm => p0 g hm hmem
  have p2 : ∀ y ∈ blkOf (.slice (some ⟨g, 0, none⟩) x.trusts.length d), y ∉ blkOf (.slice C x.cells.length e) := (List.pairwise_iff_getElem.1 h10) 1 2 (by simp) (by simp) (by omega)
  have n2 : g ∉ blkOf (.slice C x.cells.length e) := p2 g hmem
  have p3 : ∀ y ∈ blkOf (.slice (some ⟨g, 0, none⟩) x.trusts.length d), y ∉ [b] := (List.pairwise_iff_getElem.1 h10) 1 3 (by simp) (by simp) (by omega)
  have n3 : g ≠ b := fun eq => p3 g hmem (by rw [eq]; simp)
  have p4 : ∀ y ∈ blkOf (.slice (some ⟨g, 0, none⟩) x.trusts.length d), y ∉ blkOf (.slice A0 x.s0.trusts.length c0) := (List.pairwise_iff_getElem.1 h10) 1 4 (by simp) (by simp) (by omega)
  have n4 : g ∉ blkOf (.slice A0 x.s0.trusts.length c0) := p4 g hmem
  have p5 : ∀ y ∈ blkOf (.slice (some ⟨g, 0, none⟩) x.trusts.length d), y ∉ blkOf (.slice C0 x.s0.cells.length d0) := (List.pairwise_iff_getElem.1 h10) 1 5 (by simp) (by simp) (by omega)
  have n5 : g ∉ blkOf (.slice C0 x.s0.cells.length d0) := p5 g hmem
  have p6 : ∀ y ∈ blkOf (.slice (some ⟨g, 0, none⟩) x.trusts.length d), y ∉ blkOf (.slice A1 x.s1.trusts.length c1) := (List.pairwise_iff_getElem.1 h10) 1 6 (by simp) (by simp) (by omega)
  have n6 : g ∉ blkOf (.slice A1 x.s1.trusts.length c1) := p6 g hmem
  have p7 : ∀ y ∈ blkOf (.slice (some ⟨g, 0, none⟩) x.trusts.length d), y ∉ blkOf (.slice C1 x.s1.cells.length d1) := (List.pairwise_iff_getElem.1 h10) 1 7 (by simp) (by simp) (by omega)
  have n7 : g ∉ blkOf (.slice C1 x.s1.cells.length d1) := p7 g hmem
  refine ⟨A, c, some ⟨g, 0, none⟩, d, C, e, b, A0, c0, C0, d0, A1, c1, C1, d1, ?_, row_keep h1 hgb n0, hrow, row_keep h3 hgb n2, h4, h5.grown hgb (by intro eq; injection eq with eq; exact n3 eq.symm), row_keep h6 hgb n4, row_keep h7 hgb n5, row_keep h8 hgb n6, row_keep h9 hgb n7, ?_⟩
  · simp only [vX]; rw [hl]; exact h0
  · simp only []; rw [hl]; exact h10
theorem VolO.cellsAt {u : World} {base : Nat} {x : VolN} {v : Value} (h : VolO u base x v) (hk : 0 < x.cells.length) :
    ∃ A c B d C e b sc g, v = .agg (vX x A c B d C e b 0 sc) ∧ C = some ⟨g, 0, none⟩ ∧ base ≤ g ∧ g < u.heap.size ∧ ClRow u base (.slice (some ⟨g, 0, none⟩) x.cells.length e) x.cells ∧
      ∀ (u' : World) (L' : List Ce), L'.length = x.cells.length → u.grownBy u' (some g) → ClRow u' base (.slice (some ⟨g, 0, none⟩) L'.length e) L' → VolO u' base { x with cells := L' } v := by
  obtain ⟨A, c, B, d, C, e, b, A0, c0, C0, d0, A1, c1, C1, d1, h0, h1, h2, h3, h4, h5, h6, h7, h8, h9, h10⟩ := h
  obtain ⟨g, cap, e1, hb1, hlt⟩ := World.ownsRow.form h3 hk
  simp only [Value.slice.injEq, true_and] at e1
  obtain ⟨rfl, rfl⟩ := e1
  refine ⟨A, c, B, d, some ⟨g, 0, none⟩, e, b, 2, g, h0, rfl, hb1, hlt, h3, fun u' L' hl hgb hrow => ?_⟩
  have hmem : g ∈ blkOf (.slice (some ⟨g, 0, none⟩) x.cells.length e) := by simp [blkOf]
  have p0 : ∀ y ∈ blkOf (.slice A x.counts.length c), y ∉ blkOf (.slice (some ⟨g, 0, none⟩) x.cells.length e) := (List.pairwise_iff_getElem.1 h10) 0 2 (by simp) (by simp) (by omega)
  have n0 : g ∉ blkOf (.slice A x.counts.length c) := fun hm => p0 g hm hmem
  have p1 : ∀ y ∈ blkOf (.slice B x.trusts.length d), y ∉ blkOf (.slice (some ⟨g, 0, none⟩) x.cells.length e) := (List.pairwise_iff_getElem.1 h10) 1 2 (by simp) (by simp) (by omega)
  have n1 : g ∉ blkOf (.slice B x.trusts.length d) := fun hm => p1 g hm hmem
  have p3 : ∀ y ∈ blkOf (.slice (some ⟨g, 0, none⟩) x.cells.length e), y ∉ [b] := (List.pairwise_iff_getElem.1 h10) 2 3 (by simp) (by simp) (by omega)
  have n3 : g ≠ b := fun eq => p3 g hmem (by rw [eq]; simp)
  have p4 : ∀ y ∈ blkOf (.slice (some ⟨g, 0, none⟩) x.cells.length e), y ∉ blkOf (.slice A0 x.s0.trusts.length c0) := (List.pairwise_iff_getElem.1 h10) 2 4 (by simp) (by simp) (by omega)
  have n4 : g ∉ blkOf (.slice A0 x.s0.trusts.length c0) := p4 g hmem
  have p5 : ∀ y ∈ blkOf (.slice (some ⟨g, 0, none⟩) x.cells.length e), y ∉ blkOf (.slice C0 x.s0.cells.length d0) := (List.pairwise_iff_getElem.1 h10) 2 5 (by simp) (by simp) (by omega)
  have n5 : g ∉ blkOf (.slice C0 x.s0.cells.length d0) := p5 g hmem
  have p6 : ∀ y ∈ blkOf (.slice (some ⟨g, 0, none⟩) x.cells.length e), y ∉ blkOf (.slice A1 x.s1.trusts.length c1) := (List.pairwise_iff_getElem.1 h10) 2 6 (by simp) (by simp) (by omega)
  have n6 : g ∉ blkOf (.slice A1 x.s1.trusts.length c1) := p6 g hmem
  have p7 : ∀ y ∈ blkOf (.slice (some ⟨g, 0, none⟩) x.cells.length e), y ∉ blkOf (.slice C1 x.s1.cells.length d1) := (List.pairwise_iff_getElem.1 h10) 2 7 (by simp) (by simp) (by omega)
  have n7 : g ∉ blkOf (.slice C1 x.s1.cells.length d1) := p7 g hmem
  refine ⟨A, c, B, d, some ⟨g, 0, none⟩, e, b, A0, c0, C0, d0, A1, c1, C1, d1, ?_, row_keep h1 hgb n0, row_keep h2 hgb n1, hrow, h4, h5.grown hgb (by intro eq; injection eq with eq; exact n3 eq.symm), row_keep h6 hgb n4, row_keep h7 hgb n5, row_keep h8 hgb n6, row_keep h9 hgb n7, ?_⟩
  · simp only [vX]; rw [hl]; exact h0
  · simp only []; rw [hl]; exact h10
theorem trust_end {w w1 : World} {r : Nat} {x0 x1 x2 x3 x4 x5 x6 x7 z0 z1 z2 z3 z4 z5 z6 z7 : Value} (hk : CellsAt w1 r 80 #[z0, z1, z2, z3, z4, z5, z6, z7]) (hb : Below w.heap.size w w1) (hr : w.heap.size ≤ r) :
    ∃ w4, ((((((((w1.setCell ⟨r, 0, none⟩ x0).setCell ⟨r, 1, none⟩ x1).setCell ⟨r, 2, none⟩ x2).setCell ⟨r, 3, none⟩ x3).setCell ⟨r, 4, none⟩ x4).setCell ⟨r, 5, none⟩ x5).setCell ⟨r, 6, none⟩ x6).setCell ⟨r, 7, none⟩ x7) = w4 ∧ (w4.cell? ⟨r, 0, none⟩ = some x0 ∧ w4.cell? ⟨r, 1, none⟩ = some x1 ∧ w4.cell? ⟨r, 2, none⟩ = some x2 ∧ w4.cell? ⟨r, 3, none⟩ = some x3 ∧ w4.cell? ⟨r, 4, none⟩ = some x4 ∧ w4.cell? ⟨r, 5, none⟩ = some x5 ∧ w4.cell? ⟨r, 6, none⟩ = some x6 ∧ w4.cell? ⟨r, 7, none⟩ = some x7) ∧ CellsAt w4 r 80 #[x0, x1, x2, x3, x4, x5, x6, x7] ∧ Below w.heap.size w w4 ∧ w1.grownBy w4 (some r) := by
  have h0 := ((((((((hk.set_ 0 x0).set_ 1 x1).set_ 2 x2).set_ 3 x3).set_ 4 x4).set_ 5 x5).set_ 6 x6).set_ 7 x7)
  simp only [List.setIfInBounds_toArray, List.set_cons_zero, List.set_cons_succ] at h0
  refine ⟨_, rfl, ?_, h0, ((((((((hb.setCell (p := ⟨r, 0, none⟩) hr x0).setCell (p := ⟨r, 1, none⟩) hr x1).setCell (p := ⟨r, 2, none⟩) hr x2).setCell (p := ⟨r, 3, none⟩) hr x3).setCell (p := ⟨r, 4, none⟩) hr x4).setCell (p := ⟨r, 5, none⟩) hr x5).setCell (p := ⟨r, 6, none⟩) hr x6).setCell (p := ⟨r, 7, none⟩) hr x7), (gb_set (gb_set (gb_set (gb_set (gb_set (gb_set (gb_set (gb_set (gb_refl w1 (some r)) 0 x0) 1 x1) 2 x2) 3 x3) 4 x4) 5 x5) 6 x6) 7 x7)⟩
  generalize World.setCell _ _ _ = w4 at h0 ⊢
  exact ⟨h0.cell 0, h0.cell 1, h0.cell 2, h0.cell 3, h0.cell 4, h0.cell 5, h0.cell 6, h0.cell 7⟩
theorem cells_end {w w1 : World} {q : Nat} {y0 y1 s0 s1 : Value} (hq : CellsAt w1 q 112 #[s0, s1]) : CellsAt ((w1.setCell ⟨q, 0, none⟩ y0).setCell ⟨q, 1, none⟩ y1) q 112 #[y0, y1] := by
  have h := (hq.set_ 0 y0).set_ 1 y1
  simp only [List.setIfInBounds_toArray, List.set_cons_zero, List.set_cons_succ] at h
  exact h
theorem touch_end {w w1 : World} {r q : Nat} {x0 x1 x2 x3 x4 x5 x6 x7 z0 z1 z2 z3 z4 z5 z6 z7 y0 y1 s0 s1 : Value} (hk : CellsAt w1 r 80 #[z0, z1, z2, z3, z4, z5, z6, z7]) (hq : CellsAt w1 q 112 #[s0, s1]) (hne : r ≠ q) (hb : Below w.heap.size w w1) (hr : w.heap.size ≤ r) (hr' : w.heap.size ≤ q) :
    ∃ w4, ((((((((((w1.setCell ⟨r, 0, none⟩ x0).setCell ⟨r, 1, none⟩ x1).setCell ⟨r, 2, none⟩ x2).setCell ⟨r, 3, none⟩ x3).setCell ⟨r, 4, none⟩ x4).setCell ⟨r, 5, none⟩ x5).setCell ⟨r, 6, none⟩ x6).setCell ⟨r, 7, none⟩ x7).setCell ⟨q, 0, none⟩ y0).setCell ⟨q, 1, none⟩ y1) = w4 ∧ (w4.cell? ⟨r, 0, none⟩ = some x0 ∧ w4.cell? ⟨r, 1, none⟩ = some x1 ∧ w4.cell? ⟨r, 2, none⟩ = some x2 ∧ w4.cell? ⟨r, 3, none⟩ = some x3 ∧ w4.cell? ⟨r, 4, none⟩ = some x4 ∧ w4.cell? ⟨r, 5, none⟩ = some x5 ∧ w4.cell? ⟨r, 6, none⟩ = some x6 ∧ w4.cell? ⟨r, 7, none⟩ = some x7 ∧ w4.cell? ⟨q, 0, none⟩ = some y0 ∧ w4.cell? ⟨q, 1, none⟩ = some y1) ∧ Below w.heap.size w w4 := by
  obtain ⟨w2, e2, -, h2, b2, g2⟩ := trust_end (x0 := x0) (x1 := x1) (x2 := x2) (x3 := x3) (x4 := x4) (x5 := x5) (x6 := x6) (x7 := x7) hk hb hr
  rw [e2]
  have hq2 := cells_end (w := w) (y0 := y0) (y1 := y1) (hq.grown g2 (by intro e; injection e with e; exact hne e.symm))
  have h3 := (h2.grown (gb_set (gb_refl w2 (some q)) 0 y0) (by intro e; injection e with e; exact hne e)).grown (gb_set (gb_refl _ (some q)) 1 y1) (by intro e; injection e with e; exact hne e)
  refine ⟨_, rfl, ?_, (b2.setCell (p := ⟨q, 0, none⟩) hr' y0).setCell (p := ⟨q, 1, none⟩) hr' y1⟩
  generalize World.setCell _ _ _ = w4 at hq2 h3 ⊢
  exact ⟨h3.cell 0, h3.cell 1, h3.cell 2, h3.cell 3, h3.cell 4, h3.cell 5, h3.cell 6, h3.cell 7, hq2.cell 0, hq2.cell 1⟩
open Go.RowKit
section
variable {P : Program} {md : Region.Mode} {ops : Array Oper} {C : World → Prop}
def headIn (P : Program) (md : Region.Mode) (ops : Array Oper) (C : World → Prop) (n : Nat) (done : Array Bool → Act → Prop) : Nat → Array Bool → Act → Prop
  | 0, up, a => done up a
  | f + 1, up, a => Region.ready md ops up ≠ [] ∧ ∀ j ∈ Region.ready md ops up, j < n ∧ qOp P ops C j (headIn P md ops C n done f (up.setIfInBounds j true)) a
theorem headIn.all {n g : Nat} {done : Array Bool → Act → Prop} {Q : Exit → Act → World → Prop} (hd : ∀ up a w, C w → done up a → wpAny P md ops Q g up a w) (f : Nat) :
    ∀ up a w, C w → headIn P md ops C n done f up a → wpAny P md ops Q (f + g) up a w := by
  induction f with
  | zero => intro up a w hw h; rw [Nat.zero_add]; exact hd up a w hw h
  | succ f ih =>
    intro up a w hw h
    rw [Nat.add_right_comm]
    exact ⟨fun h0 => absurd h0 h.1, fun j hj => wpOp_of_qOp hw (fun a' w' hw' h' => ih _ a' w' hw' h') (h.2 j hj).2⟩
theorem headIn.first {n i : Nat} {oi : Oper} {v : Value} {done : Array Bool → Act → Prop} (hi : ops[i]? = some oi) (hsel : ∀ (j : Nat) (o : Oper) cs b, ops[j]? = some o → o.op ≠ .select cs b)
    (hs : Region.sinkB md ops n = true) (hc : Region.chainB md ops n = true) (hn : n < ops.size) (hin : i < n) (hdone : ∀ up a, done up a → ∀ j ∈ Region.ready md ops up, n ≤ j) (f : Nat) :
    ∀ up a, HeadInv md ops n up → (∀ j oj, ops[j]? = some oj → j ≠ i → up.getD j true = false → (∀ e ∈ oj.after, Region.binds md e = true → e.on ≠ i) → oi.apart ops oj = true) →
      i ∈ Region.ready md ops up → YieldsIn P ops C oi v a → headIn P md ops C n done f (up.setIfInBounds i true) (a.put oi.dst v) → headIn P md ops C n done (f + 1) up a := by
  induction f with
  | zero =>
    intro up a inv _ hr hy H
    refine ⟨fun h0 => (by rw [h0] at hr; cases hr), fun j hj => ?_⟩
    have hji : j = i := by
      refine Classical.byContradiction fun hne => ?_
      exact tail_waits hs hc hn inv _ i rfl hin (mem_ready.1 hr).1 j (hdone _ _ H j (ready_mono hj hne)) hj
    subst hji
    exact ⟨hin, hy.qOp hi H⟩
  | succ f ih =>
    intro up a inv hfree hr hy H
    refine ⟨fun h0 => (by rw [h0] at hr; cases hr), fun j hj => ?_⟩
    by_cases hji : j = i
    · subst hji; exact ⟨hin, hy.qOp hi H⟩
    · obtain ⟨hjn, hj1⟩ := H.2 j (ready_mono hj hji)
      obtain ⟨hjun, oj, hoj, hall⟩ := mem_ready.1 hj
      have hnot : ∀ e ∈ oj.after, Region.binds md e = true → e.on ≠ i := by
        intro e he hb heq
        have h2 := hall e he hb
        rw [heq, getD_both (mem_ready.1 hr).1] at h2
        cases h2
      have hboth := qOp_put hoj (hfree j oj hoj hji hjun hnot) (fun cs b => hsel i oi cs b hi) (fun cs b => hsel j oj cs b hoj) hy hj1
      refine ⟨hjn, qOp_mono (fun a' h3 => ih _ a' (inv.set hj hjn) ?_ (ready_mono hr (Ne.symm hji)) h3.1 ?_) hboth⟩
      · intro k ok hk hki hun hno
        refine hfree k ok hk hki ?_ hno
        by_cases hjk : j = k
        · subst hjk; exact hjun
        · rwa [getD_set_ne true hjk] at hun
      · rw [Array.setIfInBounds_comm _ _ hji]; exact h3.2
theorem headIn.lex {n g : Nat} {R : Act → Prop} (hsel : Region.noSelect ops = true) (hs : Region.sinkB md ops n = true) (hc : Region.chainB md ops n = true) (hn : n < ops.size) (l : List Oper) :
    ∀ (k : Nat) up a, (∀ j, j < l.length → l[j]? = ops[k + j]?) → k + l.length = n → HeadInv md ops n up → Region.lexHead md ops g l.length k up = true → wpQuiet P ops C R l a →
      headIn P md ops C n (fun up a => Region.seqB md ops g n up = true ∧ R a) l.length up a := by
  induction l with
  | nil =>
    intro k up a _ hk _ hB h
    obtain rfl : k = n := hk
    exact ⟨hB, h⟩
  | cons o l ih =>
    intro k up a hl hk inv hB h
    have h0 : ops[k]? = some o := by have := hl 0 (by simp); simpa using this.symm
    simp only [List.length_cons, Region.lexHead, Bool.and_eq_true, List.contains_iff_mem] at hB
    obtain ⟨⟨hr, hf⟩, hB'⟩ := hB
    have hkn : k < n := by simp only [List.length_cons] at hk; omega
    have hq : qOp P ops C k (wpQuiet P ops C R l) a := by unfold qOp; rw [h0]; exact h
    obtain ⟨v, hy, hrest⟩ := yieldsIn_of_qOp h0 hq
    refine headIn.first h0 (Region.noSelect_spec hsel) hs hc hn hkn (fun up' a' hd => seqB_ready hd.1) l.length up a inv (Region.free_spec h0 hf) hr hy ?_
    refine ih (k + 1) _ _ (fun j hj => ?_) (by simp only [List.length_cons] at hk; omega) (inv.set hr hkn) hB' hrest
    have := hl (j + 1) (by simp only [List.length_cons]; omega)
    rw [List.getElem?_cons_succ] at this
    rw [this, Nat.add_right_comm, Nat.add_assoc]
theorem wp_region_class_tail {id : Nat} {Q : Exit → Act → World → Prop} {a : Act} {w : World} {l : List Oper} (n : Nat) (hm : P.follows .mixedOrders = true) (hB : Region.lexTailB .any l.toArray n = true) (hC : C w.drew)
    (h : wpQuiet P l.toArray C (fun a' => ∀ w', C w' → wpList P l.toArray Q (l.drop n) a' w') (l.take n) a) : (Code.region id l.toArray true).wp P Q a w := by
  unfold Region.lexTailB at hB
  simp only [Bool.and_eq_true, decide_eq_true_eq] at hB
  obtain ⟨⟨⟨⟨hsel, hn⟩, hs⟩, hc⟩, hlex⟩ := hB
  have hnl : n < l.length := by simpa using hn
  have htl : (l.take n).length = n := by rw [List.length_take]; omega
  have hdl : (l.drop n).length = l.toArray.size - n := by simp
  have inv0 : HeadInv .any l.toArray n (Array.replicate l.toArray.size false) :=
    { size := by simp
      closed := fun j oj _ hl _ _ _ => by rw [getD_replicate_false] at hl; cases hl
      tail := fun t _ ht => getD_in (by simpa using ht) (getD_replicate_false _ _) }
  have H := headIn.lex (P := P) (C := C) (md := .any) (g := l.toArray.size - n) hsel hs hc hn (l.take n) 0 (Array.replicate l.toArray.size false) a (fun j hj => by
    rw [htl] at hj
    simp [List.getElem?_take_of_lt hj]) (by rw [htl]; omega) inv0 (by rw [htl]; exact hlex) h
  refine wp_region_any hm ?_
  have HA := headIn.all (Q := Q) (g := l.toArray.size - n) (fun up a' w' hw' hd => by
    have ht := wpAny_of_seq (P := P) (md := .any) (ops := l.toArray) (Q' := Q) (l.drop n) n up a' w' (fun j => by simp [List.getElem?_drop]) (by rw [hdl]; exact hd.1) (hd.2 w' hw')
    rwa [hdl] at ht) _ _ _ _ hC H
  rw [htl, show n + (l.toArray.size - n) = l.toArray.size by omega] at HA
  exact HA
end
end Go.Proofs.YtgaecedhkbneaaaGreatDoor.Mx

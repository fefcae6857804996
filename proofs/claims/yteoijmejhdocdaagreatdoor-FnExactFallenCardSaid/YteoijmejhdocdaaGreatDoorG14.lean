import Derived.Test.YteoijmejhdocdaaGreatDoorG13
namespace Go.Proofs.YteoijmejhdocdaaGreatDoor.Mx
open Go.ChangeShapes Go.WideShapes Go.ChangeAt Go.RowKit
set_option linter.unusedVariables false
theorem row_frozen {w : World} {base e size n c g : Nat} {xs : List Value} (h : w.ownsRow base e size (.slice (some ⟨g, 0, none⟩) n c) n xs) : ∀ k, w.frozen? ⟨g, k, none⟩ = false := by
  rcases h.2 with ⟨h0, _⟩ | ⟨g', cap, cur, e1, hb, hg, _⟩
  · cases h0
  · simp only [Value.slice.injEq, Option.some.injEq, Addr.mk.injEq, and_true, true_and] at e1
    obtain ⟨rfl, rfl⟩ := e1
    intro k
    exact (show CellsAt w g e cur from hg).frozen k
theorem TrRow.here {w : World} {base c g k : Nat} {L : List Tru} (h : TrRow w base (.slice (some ⟨g, 0, none⟩) L.length c) L) (hk : k < L.length) : TruAt w g (k * 8) (L.getD k default) := by
  obtain ⟨B, d, e, hT, _⟩ := h.reads truV_len
  obtain ⟨b, off, e2, _, h2⟩ := Trs.at_ hT hk
  simp only [Value.slice.injEq, true_and] at e
  rw [← e.1] at e2
  simp only [Option.some.injEq, Addr.mk.injEq, and_true] at e2
  obtain ⟨rfl, rfl⟩ := e2
  rwa [Nat.zero_add] at h2
theorem VolO.trustsGet {u : World} {base : Nat} {x : VolN} {A B C : Option Addr} {c d e b o sc n0 n1 n2 : Nat} (h : VolO u base x (.agg #[.int .i64 x.key, .slice A n0 c, .slice B n1 d, .slice C n2 e, .slice (some ⟨b, o, none⟩) 2 sc, .int .i64 x.count])) (hk : 0 < x.trusts.length) :
    ∃ g, B = some ⟨g, 0, none⟩ ∧ base ≤ g ∧ g < u.heap.size ∧ TrRow u base (.slice (some ⟨g, 0, none⟩) x.trusts.length d) x.trusts ∧
      ∀ (u' : World) (L' : List Tru), L'.length = x.trusts.length → u.grownBy u' (some g) → TrRow u' base (.slice (some ⟨g, 0, none⟩) L'.length d) L' → VolO u' base { x with trusts := L' } (.agg #[.int .i64 x.key, .slice A n0 c, .slice B n1 d, .slice C n2 e, .slice (some ⟨b, o, none⟩) 2 sc, .int .i64 x.count]) := by
  obtain ⟨A2, c2, B2, d2, C2, e2, b2, sc2, g, hv, hB, h1, h2, h3, h4⟩ := h.trustsAt hk
  have hd : d = d2 := by injection hv with hv; injection hv with hv; injection hv with _ hv; injection hv with _ hv; injection hv with hv1 hv; injection hv1
  have hB2 : B = B2 := by injection hv with hv; injection hv with hv; injection hv with _ hv; injection hv with _ hv; injection hv with hv1 hv; injection hv1
  subst hd
  exact ⟨g, hB2.trans hB, h1, h2, h3, h4⟩
def VolAns1 (b : World) (r : VolN × Int) (e : Ending) (w' : World) : Prop := ∃ cs, e = .returned (.tuple #[.agg cs, .int .i64 r.2]) ∧ VolO w' b.heap.size r.1 (.agg cs) ∧ Below b.heap.size b w'
def Sep (a b : List Nat) : Prop := ∀ y ∈ a, y ∉ b
theorem Sep.symm {a b : List Nat} (h : Sep a b) : Sep b a := fun y hy ha => h y ha hy
theorem pw_set {l : List (List Nat)} (h : l.Pairwise Sep) (i : Nat) (a : List Nat) (ha : ∀ x ∈ l, Sep x a) : (l.set i a).Pairwise Sep := by
  induction l generalizing i with
  | nil => simp
  | cons b t ih =>
    rw [List.pairwise_cons] at h
    cases i with
    | zero => rw [List.set_cons_zero, List.pairwise_cons]; exact ⟨fun y hy => (ha y (List.mem_cons_of_mem _ hy)).symm, h.2⟩
    | succ i =>
      rw [List.set_cons_succ, List.pairwise_cons]
      refine ⟨fun y hy => ?_, ih h.2 i (fun y hy => ha y (List.mem_cons_of_mem _ hy))⟩
      rcases List.mem_or_eq_of_mem_set hy with hy | rfl
      · exact h.1 y hy
      · exact ha b (List.mem_cons_self ..)
theorem mem_set_ {l : List (List Nat)} {i : Nat} {a x : List Nat} (h : x ∈ l.set i a) : x ∈ l ∨ x = a := List.mem_or_eq_of_mem_set h
theorem l12Copy_r (x : VolN) (v : Value) (w : World) (hx : x.Short) (hv : VolR w w.heap.size x v) : Calls Tryz.prog 99 #[v] w (NewVol w x) := by
  obtain ⟨A, cap, B, tc, C, cc, b, off, sc, rfl, hA, hB, hC, hbb, h0, h1, hcap⟩ := hv
  exact l12Copy_calls x A cap B tc C cc b off sc w hx hA hB hC hbb h0 h1
theorem VolO.parts {u : World} {base : Nat} {x : VolN} {v : Value} (h : VolO u base x v) :
    ∃ A c B d C e g A0 c0 C0 d0 A1 c1 C1 d1, v = .agg (vX x A c B d C e g 0 2) ∧
    IRow u base (.slice A x.counts.length c) x.counts ∧ TrRow u base (.slice B x.trusts.length d) x.trusts ∧ ClRow u base (.slice C x.cells.length e) x.cells ∧ base ≤ g ∧
    CellsAt u g 91 #[.int .i64 x.s0.count, .slice A0 x.s0.trusts.length c0, .int .i64 x.s0.mac, .slice C0 x.s0.cells.length d0, .int .i64 x.s1.count, .slice A1 x.s1.trusts.length c1, .int .i64 x.s1.mac, .slice C1 x.s1.cells.length d1] ∧
    TrRow u base (.slice A0 x.s0.trusts.length c0) x.s0.trusts ∧ ClRow u base (.slice C0 x.s0.cells.length d0) x.s0.cells ∧ TrRow u base (.slice A1 x.s1.trusts.length c1) x.s1.trusts ∧ ClRow u base (.slice C1 x.s1.cells.length d1) x.s1.cells ∧
    [blkOf (.slice A x.counts.length c), blkOf (.slice B x.trusts.length d), blkOf (.slice C x.cells.length e), [g], blkOf (.slice A0 x.s0.trusts.length c0), blkOf (.slice C0 x.s0.cells.length d0), blkOf (.slice A1 x.s1.trusts.length c1), blkOf (.slice C1 x.s1.cells.length d1)].Pairwise Sep ∧
    ∀ l ∈ [blkOf (.slice A x.counts.length c), blkOf (.slice B x.trusts.length d), blkOf (.slice C x.cells.length e), [g], blkOf (.slice A0 x.s0.trusts.length c0), blkOf (.slice C0 x.s0.cells.length d0), blkOf (.slice A1 x.s1.trusts.length c1), blkOf (.slice C1 x.s1.cells.length d1)], ∀ y ∈ l, y < u.heap.size := by
  obtain ⟨A, c, B, d, C, e, g, A0, c0, C0, d0, A1, c1, C1, d1, h0, h1, h2, h3, h4, h5, h6, h7, h8, h9, h10⟩ := h
  refine ⟨A, c, B, d, C, e, g, A0, c0, C0, d0, A1, c1, C1, d1, h0, h1, h2, h3, h4, h5, h6, h7, h8, h9, h10, ?_⟩
  intro l hl y hy
  simp only [List.mem_cons, List.not_mem_nil, or_false] at hl
  rcases hl with rfl | rfl | rfl | rfl | rfl | rfl | rfl | rfl
  · exact (row_at h1 y hy).2
  · exact (row_at h2 y hy).2
  · exact (row_at h3 y hy).2
  · rw [List.mem_singleton] at hy; subst hy; exact h5.lt
  · exact (row_at h6 y hy).2
  · exact (row_at h7 y hy).2
  · exact (row_at h8 y hy).2
  · exact (row_at h9 y hy).2
theorem sep_new {l a : List Nat} {N : Nat} (hl : ∀ y ∈ l, y < N) (ha : ∀ y ∈ a, N ≤ y) : Sep l a := fun y hy hm => by have := hl y hy; have := ha y hm; omega
theorem cellsAt_eq {w : World} {g : Nat} {t : TypeId} {cs ds : Array Value} (h : CellsAt w g t cs) (k : CellsAt w g t ds) : cs = ds := by
  unfold CellsAt at h k
  rw [h] at k
  injection k with k
  injection k
theorem VolO.cnt {u : World} {base : Nat} {x : VolN} {A B C : Option Addr} {c d e b o sc n0 n1 n2 : Nat} (h : VolO u base x (.agg #[.int .i64 x.key, .slice A n0 c, .slice B n1 d, .slice C n2 e, .slice (some ⟨b, o, none⟩) 2 sc, .int .i64 x.count])) (n : Int) : VolO u base { x with count := n } (.agg #[.int .i64 x.key, .slice A n0 c, .slice B n1 d, .slice C n2 e, .slice (some ⟨b, o, none⟩) 2 sc, .int .i64 n]) := by
  obtain ⟨A2, c2, B2, d2, C2, e2, g, A0, c0, C0, d0, A1, c1, C1, d1, hv, h1, h2, h3, h4, h5, h6, h7, h8, h9, h10⟩ := h
  refine ⟨A2, c2, B2, d2, C2, e2, g, A0, c0, C0, d0, A1, c1, C1, d1, ?_, h1, h2, h3, h4, h5, h6, h7, h8, h9, h10⟩
  simp only [Value.agg.injEq, Array.mk.injEq, List.cons.injEq] at hv
  obtain ⟨a1, a2, a3, a4, a5, a6, -⟩ := hv
  rw [a2, a3, a4, a5]
theorem VolO.slotsGet {u : World} {base : Nat} {x : VolN} {A B C : Option Addr} {c d e b o sc n0 n1 n2 : Nat} (h : VolO u base x (.agg #[.int .i64 x.key, .slice A n0 c, .slice B n1 d, .slice C n2 e, .slice (some ⟨b, o, none⟩) 2 sc, .int .i64 x.count])) : o = 0 ∧ sc = 2 ∧ base ≤ b ∧ b < u.heap.size ∧ ∃ A0 c0 C0 d0 A1 c1 C1 d1,
    CellsAt u b 91 #[.int .i64 x.s0.count, .slice A0 x.s0.trusts.length c0, .int .i64 x.s0.mac, .slice C0 x.s0.cells.length d0, .int .i64 x.s1.count, .slice A1 x.s1.trusts.length c1, .int .i64 x.s1.mac, .slice C1 x.s1.cells.length d1] ∧
    ∀ (u' : World) (k0 m0 k1 m1 : Int), u.grownBy u' (some b) → CellsAt u' b 91 #[.int .i64 k0, .slice A0 x.s0.trusts.length c0, .int .i64 m0, .slice C0 x.s0.cells.length d0, .int .i64 k1, .slice A1 x.s1.trusts.length c1, .int .i64 m1, .slice C1 x.s1.cells.length d1] →
      VolO u' base { x with s0 := { x.s0 with count := k0, mac := m0 }, s1 := { x.s1 with count := k1, mac := m1 } } (.agg #[.int .i64 x.key, .slice A n0 c, .slice B n1 d, .slice C n2 e, .slice (some ⟨b, o, none⟩) 2 sc, .int .i64 x.count]) := by
  obtain ⟨A2, c2, B2, d2, C2, e2, g, A0, c0, C0, d0, A1, c1, C1, d1, hv, h1, h2, h3, h4, h5, h6, h7, h8, h9, h10, hlt⟩ := h.parts
  have hv' := hv
  simp only [Value.agg.injEq, Array.mk.injEq, List.cons.injEq] at hv
  obtain ⟨a1, a2, a3, a4, a5, a6, -⟩ := hv
  simp only [Value.slice.injEq, Option.some.injEq, Addr.mk.injEq] at a5
  obtain ⟨⟨rfl, rfl, -⟩, -, rfl⟩ := a5
  refine ⟨rfl, rfl, h4, h5.lt, A0, c0, C0, d0, A1, c1, C1, d1, h5, fun u' k0 m0 k1 m1 hg hc => ?_⟩
  have np : ∀ i, i < 8 → i ≠ 3 → ∀ l, [blkOf (.slice A2 x.counts.length c2), blkOf (.slice B2 x.trusts.length d2), blkOf (.slice C2 x.cells.length e2), [b], blkOf (.slice A0 x.s0.trusts.length c0), blkOf (.slice C0 x.s0.cells.length d0), blkOf (.slice A1 x.s1.trusts.length c1), blkOf (.slice C1 x.s1.cells.length d1)][i]? = some l → b ∉ l := by
    intro i hi hne l hl hm
    obtain ⟨hi', rfl⟩ := List.getElem?_eq_some_iff.1 hl
    rcases Nat.lt_or_gt_of_ne hne with hlt3 | hgt3
    · exact (List.pairwise_iff_getElem.1 h10) i 3 hi' (by simp) hlt3 b hm (by simp)
    · exact (List.pairwise_iff_getElem.1 h10) 3 i (by simp) hi' hgt3 b (by simp) hm
  exact ⟨A2, c2, B2, d2, C2, e2, b, A0, c0, C0, d0, A1, c1, C1, d1, hv', row_keep h1 hg (np 0 (by omega) (by omega) _ rfl), row_keep h2 hg (np 1 (by omega) (by omega) _ rfl), row_keep h3 hg (np 2 (by omega) (by omega) _ rfl), h4, hc, row_keep h6 hg (np 4 (by omega) (by omega) _ rfl), row_keep h7 hg (np 5 (by omega) (by omega) _ rfl), row_keep h8 hg (np 6 (by omega) (by omega) _ rfl), row_keep h9 hg (np 7 (by omega) (by omega) _ rfl), h10⟩
theorem VolO.slotPut0 {u : World} {base : Nat} {x : VolN} {A B C : Option Addr} {c d e b o sc n0 n1 n2 : Nat} {v' : World} {s : SlN} {A9 C9 : Option Addr} {c9 d9 N M : Nat} {y0 y1 y2 y3 y4 y5 y6 y7 : Value} (h : VolO u base x (.agg #[.int .i64 x.key, .slice A n0 c, .slice B n1 d, .slice C n2 e, .slice (some ⟨b, o, none⟩) 2 sc, .int .i64 x.count])) (hT : TrRow v' N (.slice A9 s.trusts.length c9) s.trusts) (hC : ClRow v' M (.slice C9 s.cells.length d9) s.cells)
    (hN : u.heap.size ≤ N) (hM : u.heap.size ≤ M) (hd : Sep (blkOf (.slice A9 s.trusts.length c9)) (blkOf (.slice C9 s.cells.length d9))) (hold : CellsAt u b 91 #[y0, y1, y2, y3, y4, y5, y6, y7]) (hg : u.grownBy v' (some b)) (hc : CellsAt v' b 91 #[.int .i64 s.count, .slice A9 s.trusts.length c9, .int .i64 s.mac, .slice C9 s.cells.length d9, y4, y5, y6, y7]) : VolO v' base { x with s0 := s } (.agg #[.int .i64 x.key, .slice A n0 c, .slice B n1 d, .slice C n2 e, .slice (some ⟨b, o, none⟩) 2 sc, .int .i64 x.count]) := by
  obtain ⟨A2, c2, B2, d2, C2, e2, g, A0, c0, C0, d0, A1, c1, C1, d1, hv, h1, h2, h3, h4, h5, h6, h7, h8, h9, h10, hlt⟩ := h.parts
  have hv' := hv
  simp only [Value.agg.injEq, Array.mk.injEq, List.cons.injEq] at hv
  obtain ⟨a1, a2, a3, a4, a5, a6, -⟩ := hv
  simp only [Value.slice.injEq, Option.some.injEq, Addr.mk.injEq] at a5
  obtain ⟨⟨rfl, rfl, -⟩, -, rfl⟩ := a5
  have he := cellsAt_eq hold h5
  simp only [Array.mk.injEq, List.cons.injEq] at he
  obtain ⟨z0, z1, z2, z3, z4, z5, z6, z7, -⟩ := he
  subst z4 z5 z6 z7
  have np : ∀ i, i < 8 → i ≠ 3 → ∀ l, [blkOf (.slice A2 x.counts.length c2), blkOf (.slice B2 x.trusts.length d2), blkOf (.slice C2 x.cells.length e2), [b], blkOf (.slice A0 x.s0.trusts.length c0), blkOf (.slice C0 x.s0.cells.length d0), blkOf (.slice A1 x.s1.trusts.length c1), blkOf (.slice C1 x.s1.cells.length d1)][i]? = some l → b ∉ l := by
    intro i hi hne l hl hm
    obtain ⟨hi', rfl⟩ := List.getElem?_eq_some_iff.1 hl
    rcases Nat.lt_or_gt_of_ne hne with hlt3 | hgt3
    · exact (List.pairwise_iff_getElem.1 h10) i 3 hi' (by simp) hlt3 b hm (by simp)
    · exact (List.pairwise_iff_getElem.1 h10) 3 i (by simp) hi' hgt3 b (by simp) hm
  have kk := fun {vv : Value} {t size n : Nat} {xs : List Value} (hr : u.ownsRow base t size vv n xs) (i : Nat) (hi : i < 8) (hne : i ≠ 3) (hl : [blkOf (.slice A2 x.counts.length c2), blkOf (.slice B2 x.trusts.length d2), blkOf (.slice C2 x.cells.length e2), [b], blkOf (.slice A0 x.s0.trusts.length c0), blkOf (.slice C0 x.s0.cells.length d0), blkOf (.slice A1 x.s1.trusts.length c1), blkOf (.slice C1 x.s1.cells.length d1)][i]? = some (blkOf vv)) => row_keep hr hg (np i hi hne _ hl)
  have hbl := h5.lt
  have nT := row_mono hT (show base ≤ N by omega)
  have nC := row_mono hC (show base ≤ M by omega)
  refine ⟨A2, c2, B2, d2, C2, e2, b, A9, c9, C9, d9, A1, c1, C1, d1, hv', kk h1 0 (by omega) (by omega) rfl, kk h2 1 (by omega) (by omega) rfl, kk h3 2 (by omega) (by omega) rfl, h4, hc, nT, nC, kk h8 6 (by omega) (by omega) rfl, kk h9 7 (by omega) (by omega) rfl, ?_⟩
  have sT : ∀ y ∈ blkOf (.slice A9 s.trusts.length c9), u.heap.size ≤ y := fun y hy => Nat.le_trans hN (row_at hT y hy).1
  have sC : ∀ y ∈ blkOf (.slice C9 s.cells.length d9), u.heap.size ≤ y := fun y hy => Nat.le_trans hM (row_at hC y hy).1
  refine pw_set (pw_set h10 4 _ (fun l hl => sep_new (hlt l hl) sT)) 5 _ (fun l hl => ?_)
  rcases mem_set_ hl with hl | rfl
  · exact sep_new (hlt l hl) sC
  · exact hd
theorem VolO.slotPut1 {u : World} {base : Nat} {x : VolN} {A B C : Option Addr} {c d e b o sc n0 n1 n2 : Nat} {v' : World} {s : SlN} {A9 C9 : Option Addr} {c9 d9 N M : Nat} {y0 y1 y2 y3 y4 y5 y6 y7 : Value} (h : VolO u base x (.agg #[.int .i64 x.key, .slice A n0 c, .slice B n1 d, .slice C n2 e, .slice (some ⟨b, o, none⟩) 2 sc, .int .i64 x.count])) (hT : TrRow v' N (.slice A9 s.trusts.length c9) s.trusts) (hC : ClRow v' M (.slice C9 s.cells.length d9) s.cells)
    (hN : u.heap.size ≤ N) (hM : u.heap.size ≤ M) (hd : Sep (blkOf (.slice A9 s.trusts.length c9)) (blkOf (.slice C9 s.cells.length d9))) (hold : CellsAt u b 91 #[y4, y5, y6, y7, y0, y1, y2, y3]) (hg : u.grownBy v' (some b)) (hc : CellsAt v' b 91 #[y4, y5, y6, y7, .int .i64 s.count, .slice A9 s.trusts.length c9, .int .i64 s.mac, .slice C9 s.cells.length d9]) : VolO v' base { x with s1 := s } (.agg #[.int .i64 x.key, .slice A n0 c, .slice B n1 d, .slice C n2 e, .slice (some ⟨b, o, none⟩) 2 sc, .int .i64 x.count]) := by
  obtain ⟨A2, c2, B2, d2, C2, e2, g, A0, c0, C0, d0, A1, c1, C1, d1, hv, h1, h2, h3, h4, h5, h6, h7, h8, h9, h10, hlt⟩ := h.parts
  have hv' := hv
  simp only [Value.agg.injEq, Array.mk.injEq, List.cons.injEq] at hv
  obtain ⟨a1, a2, a3, a4, a5, a6, -⟩ := hv
  simp only [Value.slice.injEq, Option.some.injEq, Addr.mk.injEq] at a5
  obtain ⟨⟨rfl, rfl, -⟩, -, rfl⟩ := a5
  have he := cellsAt_eq hold h5
  simp only [Array.mk.injEq, List.cons.injEq] at he
  obtain ⟨z0, z1, z2, z3, z4, z5, z6, z7, -⟩ := he
  subst z0 z1 z2 z3
  have np : ∀ i, i < 8 → i ≠ 3 → ∀ l, [blkOf (.slice A2 x.counts.length c2), blkOf (.slice B2 x.trusts.length d2), blkOf (.slice C2 x.cells.length e2), [b], blkOf (.slice A0 x.s0.trusts.length c0), blkOf (.slice C0 x.s0.cells.length d0), blkOf (.slice A1 x.s1.trusts.length c1), blkOf (.slice C1 x.s1.cells.length d1)][i]? = some l → b ∉ l := by
    intro i hi hne l hl hm
    obtain ⟨hi', rfl⟩ := List.getElem?_eq_some_iff.1 hl
    rcases Nat.lt_or_gt_of_ne hne with hlt3 | hgt3
    · exact (List.pairwise_iff_getElem.1 h10) i 3 hi' (by simp) hlt3 b hm (by simp)
    · exact (List.pairwise_iff_getElem.1 h10) 3 i (by simp) hi' hgt3 b (by simp) hm
  have kk := fun {vv : Value} {t size n : Nat} {xs : List Value} (hr : u.ownsRow base t size vv n xs) (i : Nat) (hi : i < 8) (hne : i ≠ 3) (hl : [blkOf (.slice A2 x.counts.length c2), blkOf (.slice B2 x.trusts.length d2), blkOf (.slice C2 x.cells.length e2), [b], blkOf (.slice A0 x.s0.trusts.length c0), blkOf (.slice C0 x.s0.cells.length d0), blkOf (.slice A1 x.s1.trusts.length c1), blkOf (.slice C1 x.s1.cells.length d1)][i]? = some (blkOf vv)) => row_keep hr hg (np i hi hne _ hl)
  have hbl := h5.lt
  have nT := row_mono hT (show base ≤ N by omega)
  have nC := row_mono hC (show base ≤ M by omega)
  refine ⟨A2, c2, B2, d2, C2, e2, b, A0, c0, C0, d0, A9, c9, C9, d9, hv', kk h1 0 (by omega) (by omega) rfl, kk h2 1 (by omega) (by omega) rfl, kk h3 2 (by omega) (by omega) rfl, h4, hc, kk h6 4 (by omega) (by omega) rfl, kk h7 5 (by omega) (by omega) rfl, nT, nC, ?_⟩
  have sT : ∀ y ∈ blkOf (.slice A9 s.trusts.length c9), u.heap.size ≤ y := fun y hy => Nat.le_trans hN (row_at hT y hy).1
  have sC : ∀ y ∈ blkOf (.slice C9 s.cells.length d9), u.heap.size ≤ y := fun y hy => Nat.le_trans hM (row_at hC y hy).1
  refine pw_set (pw_set h10 6 _ (fun l hl => sep_new (hlt l hl) sT)) 7 _ (fun l hl => ?_)
  rcases mem_set_ hl with hl | rfl
  · exact sep_new (hlt l hl) sC
  · exact hd
def spoilVol (x : VolN) (slot : Int) : VolN × Int :=
  if slot = 0 then ({ x with s0 := { x.s0 with mac := IntKind.i64.wrap (x.s0.mac + 1) } }, 0) else if slot = 1 then ({ x with s1 := { x.s1 with mac := IntKind.i64.wrap (x.s1.mac + 1) } }, 0) else (x, 1)
set_option maxRecDepth 20000 in
set_option maxHeartbeats 4000000 in
theorem l13Spoil_calls (x : VolN) (v : Value) (slot : Int) (w : World) (hx : x.Short) (hv : VolR w w.heap.size x v) :
    Calls Tryz.prog 95 #[v, .int .i64 slot] w (VolAns1 w (spoilVol x slot)) := by
  have CO := Lib.hid (fun (u : World) (hb : Below w.heap.size w u) => l12Copy_r x v u hx (hv.grow hb))
  obtain ⟨A, cap, B, tc, C, cc, b, off, sc, rfl, -⟩ := hv
  have K0 := Lib.hid (show Kept w [(w.heap.size + 1, 31, zV), (w.heap.size, 31, (vX x A cap B tc C cc b off sc))] _ from (((Kept.refl w).put1 _ _ (vX x A cap B tc C cc b off sc) rfl).put1 _ _ zV (by simp)))
  unfold spoilVol
  by_cases hs0 : slot = 0
  · subst hs0
    rw [if_pos rfl]
    have I := Lib.hid (fun u => l1In_yes 0 0 1 u (by omega) (by omega))
    go_enter Tryz.func95, Tryz.ntmps95
    go_wp2_with fail
    refine (CO.out _ K0.out.1).mono ?_; rintro e u1 ⟨vv, rfl, hv, hb1⟩
    have hk1 := K0.out.below hb1
    obtain ⟨A', c', B', d', C', e', b', o', s', rfl, -⟩ := hv.reads
    have hv1 := hv.mono (show w.heap.size + 1 + 1 ≤ _ by simp)
    have hbl := hv.slotsGet.2.2.2.1
    have lo0 : w.heap.size + 1 < u1.heap.size := hk1.lt (x := (w.heap.size + 1, 31, zV)) (by simp)
    have lo1 : w.heap.size < u1.heap.size := hk1.lt (x := (w.heap.size, 31, (vX x A cap B tc C cc b off sc))) (by simp)
    have hk2 := hk1.put1 u1.heap.size 31 (vX x A' c' B' d' C' e' b' o' s') rfl
    have hv2 := hv1.below ((Below.refl _ _).alloc (Nat.le_refl _) (.cells (vX x A' c' B' d' C' e' b' o' s') 31))
    clear hb1 hk1 hv hv1 CO
    go_upto_region 2 with fail
    generalize World.alloc u1 _ = u2 at hk2 hv2 ⊢
    obtain ⟨kc0, kf0, kc1, kf1, kc2, kf2, -⟩ := hk2.rd
    have HV := Lib.hid hv2
    clear hv2
    have KK := Lib.hid hk2
    go_wp2_with fail
    refine (I.out _).mono ?_; rintro e w' ⟨rfl, rfl⟩
    go_upto_region 4 with fail
    obtain ⟨eo, es, hbb, hbu, A0, c0, C0, d0, A1, c1, C1, d1, hsl, hset⟩ := HV.out.slotsGet
    subst eo
    have SL := Lib.hid hsl
    have HSET := Lib.hid hset
    have es2 := Lib.hid es
    clear es hset
    have sc2 := hsl.cell 2
    have sf2 := hsl.frozen 2
    simp only [List.getElem?_toArray, List.getElem?_cons_zero, List.getElem?_cons_succ] at sc2
    obtain ⟨m, hm⟩ : ∃ m, IntKind.i64.wrap (x.s0.mac + 1) = m := ⟨_, rfl⟩
    rw [hm]
    clear hsl HV
    go_region
    go_upto_region 5 with fail
    have hg5 := gb_set (gb_refl u2 (some b')) 2 (.int .i64 m)
    have hc5 := SL.out.set_ 2 (.int .i64 m)
    have hk5 := (KK.out.grown hg5 (by omega) (by intro y hy; simp at hy; rcases hy with rfl | rfl | rfl <;> simp <;> omega)).drew
    have hv5 := (HSET.out _ x.s0.count m x.s1.count x.s1.mac hg5 hc5).below (show Below _ _ (World.drew _) from (Below.refl _ _).drew)
    generalize World.drew _ = w5 at hk5 hv5 ⊢
    clear hg5 hc5 SL HSET sc2 sf2 KK
    clear kc0 kf0 kc1 kf1 kc2 kf2
    obtain ⟨kc0, kf0, kc1, kf1, kc2, kf2, -⟩ := hk5.rd
    have HV := Lib.hid hv5
    have KK := Lib.hid hk5
    clear hv5 hk5
    go_wp2_with fail
    obtain ⟨w9, e9, ⟨d0, d1, d2, d3, d4, d5⟩, hb9, hg9⟩ := vol_end (w := w) (x0 := .int .i64 x.key) (x1 := .slice A' x.counts.length c') (x2 := .slice B' x.trusts.length d') (x3 := .slice C' x.cells.length e') (x4 := .slice (some ⟨b', 0, none⟩) 2 s') (x5 := .int .i64 x.count) (KK.out.at_ (p := w.heap.size + 1) (t := 31) (cs := zV) (by simp)) KK.out.1 (by omega)
    rw [e9]
    exact bodyPost_ret (v := .tuple #[.agg (vX x A' c' B' d' C' e' b' 0 s'), .int .i64 0]) (by simp [results, Tryz.results95, go_sem, d0, d1, d2, d3, d4, d5]) rfl ⟨_, rfl, (HV.out.out hg9 (by omega)).mono (by omega), hb9⟩
  by_cases hs1 : slot = 1
  · subst hs1
    rw [if_neg (by omega), if_pos rfl]
    have I := Lib.hid (fun u => l1In_yes 1 0 1 u (by omega) (by omega))
    go_enter Tryz.func95, Tryz.ntmps95
    go_wp2_with fail
    refine (CO.out _ K0.out.1).mono ?_; rintro e u1 ⟨vv, rfl, hv, hb1⟩
    have hk1 := K0.out.below hb1
    obtain ⟨A', c', B', d', C', e', b', o', s', rfl, -⟩ := hv.reads
    have hv1 := hv.mono (show w.heap.size + 1 + 1 ≤ _ by simp)
    have hbl := hv.slotsGet.2.2.2.1
    have lo0 : w.heap.size + 1 < u1.heap.size := hk1.lt (x := (w.heap.size + 1, 31, zV)) (by simp)
    have lo1 : w.heap.size < u1.heap.size := hk1.lt (x := (w.heap.size, 31, (vX x A cap B tc C cc b off sc))) (by simp)
    have hk2 := hk1.put1 u1.heap.size 31 (vX x A' c' B' d' C' e' b' o' s') rfl
    have hv2 := hv1.below ((Below.refl _ _).alloc (Nat.le_refl _) (.cells (vX x A' c' B' d' C' e' b' o' s') 31))
    clear hb1 hk1 hv hv1 CO
    go_upto_region 2 with fail
    generalize World.alloc u1 _ = u2 at hk2 hv2 ⊢
    obtain ⟨kc0, kf0, kc1, kf1, kc2, kf2, -⟩ := hk2.rd
    have HV := Lib.hid hv2
    clear hv2
    have KK := Lib.hid hk2
    go_wp2_with fail
    refine (I.out _).mono ?_; rintro e w' ⟨rfl, rfl⟩
    go_upto_region 4 with fail
    obtain ⟨eo, es, hbb, hbu, A0, c0, C0, d0, A1, c1, C1, d1, hsl, hset⟩ := HV.out.slotsGet
    subst eo
    have SL := Lib.hid hsl
    have HSET := Lib.hid hset
    have es2 := Lib.hid es
    clear es hset
    have sc2 := hsl.cell 6
    have sf2 := hsl.frozen 6
    simp only [List.getElem?_toArray, List.getElem?_cons_zero, List.getElem?_cons_succ] at sc2
    obtain ⟨m, hm⟩ : ∃ m, IntKind.i64.wrap (x.s1.mac + 1) = m := ⟨_, rfl⟩
    rw [hm]
    clear hsl HV
    go_region
    go_upto_region 5 with fail
    have hg5 := gb_set (gb_refl u2 (some b')) 6 (.int .i64 m)
    have hc5 := SL.out.set_ 6 (.int .i64 m)
    have hk5 := (KK.out.grown hg5 (by omega) (by intro y hy; simp at hy; rcases hy with rfl | rfl | rfl <;> simp <;> omega)).drew
    have hv5 := (HSET.out _ x.s0.count x.s0.mac x.s1.count m hg5 hc5).below (show Below _ _ (World.drew _) from (Below.refl _ _).drew)
    generalize World.drew _ = w5 at hk5 hv5 ⊢
    clear hg5 hc5 SL HSET sc2 sf2 KK
    clear kc0 kf0 kc1 kf1 kc2 kf2
    obtain ⟨kc0, kf0, kc1, kf1, kc2, kf2, -⟩ := hk5.rd
    have HV := Lib.hid hv5
    have KK := Lib.hid hk5
    clear hv5 hk5
    go_wp2_with fail
    obtain ⟨w9, e9, ⟨d0, d1, d2, d3, d4, d5⟩, hb9, hg9⟩ := vol_end (w := w) (x0 := .int .i64 x.key) (x1 := .slice A' x.counts.length c') (x2 := .slice B' x.trusts.length d') (x3 := .slice C' x.cells.length e') (x4 := .slice (some ⟨b', 0, none⟩) 2 s') (x5 := .int .i64 x.count) (KK.out.at_ (p := w.heap.size + 1) (t := 31) (cs := zV) (by simp)) KK.out.1 (by omega)
    rw [e9]
    exact bodyPost_ret (v := .tuple #[.agg (vX x A' c' B' d' C' e' b' 0 s'), .int .i64 0]) (by simp [results, Tryz.results95, go_sem, d0, d1, d2, d3, d4, d5]) rfl ⟨_, rfl, (HV.out.out hg9 (by omega)).mono (by omega), hb9⟩
  rw [if_neg hs0, if_neg hs1]
  have I := Lib.hid (fun u => l1In_no slot 0 1 u (by omega))
  clear hs0 hs1
  go_enter Tryz.func95, Tryz.ntmps95
  go_wp2_with fail
  refine (CO.out _ K0.out.1).mono ?_; rintro e u1 ⟨vv, rfl, hv, hb1⟩
  have hk1 := K0.out.below hb1
  obtain ⟨A', c', B', d', C', e', b', o', s', rfl, -⟩ := hv.reads
  have hv1 := hv.mono (show w.heap.size + 1 + 1 ≤ _ by simp)
  have hbl := hv.slotsGet.2.2.2.1
  have lo0 : w.heap.size + 1 < u1.heap.size := hk1.lt (x := (w.heap.size + 1, 31, zV)) (by simp)
  have lo1 : w.heap.size < u1.heap.size := hk1.lt (x := (w.heap.size, 31, (vX x A cap B tc C cc b off sc))) (by simp)
  have hk2 := hk1.put1 u1.heap.size 31 (vX x A' c' B' d' C' e' b' o' s') rfl
  have hv2 := hv1.below ((Below.refl _ _).alloc (Nat.le_refl _) (.cells (vX x A' c' B' d' C' e' b' o' s') 31))
  clear hb1 hk1 hv hv1 CO
  go_upto_region 2 with fail
  generalize World.alloc u1 _ = u2 at hk2 hv2 ⊢
  obtain ⟨kc0, kf0, kc1, kf1, kc2, kf2, -⟩ := hk2.rd
  have HV := Lib.hid hv2
  clear hv2
  have KK := Lib.hid hk2
  go_wp2_with fail
  refine (I.out _).mono ?_; rintro e w' ⟨rfl, rfl⟩
  go_wp2_with fail
  obtain ⟨w9, e9, ⟨d0, d1, d2, d3, d4, d5⟩, hb9, hg9⟩ := vol_end (w := w) (x0 := .int .i64 x.key) (x1 := .slice A' x.counts.length c') (x2 := .slice B' x.trusts.length d') (x3 := .slice C' x.cells.length e') (x4 := .slice (some ⟨b', o', none⟩) 2 s') (x5 := .int .i64 x.count) (KK.out.at_ (p := w.heap.size + 1) (t := 31) (cs := zV) (by simp)) KK.out.1 (by omega)
  rw [e9]
  exact bodyPost_ret (v := .tuple #[.agg (vX x A' c' B' d' C' e' b' o' s'), .int .i64 1]) (by simp [results, Tryz.results95, go_sem, d0, d1, d2, d3, d4, d5]) rfl ⟨_, rfl, (HV.out.out hg9 (by omega)).mono (by omega), hb9⟩
end Go.Proofs.YteoijmejhdocdaaGreatDoor.Mx

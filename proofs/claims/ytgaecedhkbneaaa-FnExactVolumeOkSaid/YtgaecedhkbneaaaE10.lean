import Derived.Test.YtgaecedhkbneaaaE09
import Derived.Test.YtgaecedhkbneaaaE05
import Derived.Lib.SmallJoins
import Derived.Test.YtgaecedhkbneaaaE07
namespace Go.Proofs.Ytgaecedhkbneaaa.Mx
open Go.ChangeShapes Go.WideShapes Go.ChangeAt Go.RowKit
set_option linter.unusedVariables false
def SlotTy (P : Program) (t : TypeId) : Prop := ∃ (f0 f1 g0 g1 g2 : Field) (eT eC : TypeId) (fsT fsC : Array Field),
  P.underlying t = some (.struct #[f0, f1]) ∧ (f0.offset = 0 ∧ P.cellsOf f0.type = 3 ∧ f1.offset = 3 ∧ P.cellsOf f1.type = 1) ∧ P.cellsOf t = 4 ∧
  P.underlying f0.type = some (.struct #[g0, g1, g2]) ∧ (g0.offset = 0 ∧ P.cellsOf g0.type = 1 ∧ g1.offset = 1 ∧ P.cellsOf g1.type = 1 ∧ g2.offset = 2 ∧ P.cellsOf g2.type = 1) ∧
  P.underlying g0.type = some (.int .i64) ∧ P.underlying g2.type = some (.int .i64) ∧
  (P.underlying g1.type = some (.slice eT) ∧ P.underlying eT = some (.struct fsT) ∧ Deep.oneCellFields P fsT = true ∧ P.cellsOf eT = fsT.size ∧ fsT.toList.map (fun f => P.underlying f.type) = [some (.int .i64), some (.int .i64), some (.int .i64), some (.int .i64), some (.int .i64), some (.int .i64), some (.int .i64), some .bool]) ∧
  (P.underlying f1.type = some (.slice eC) ∧ P.underlying eC = some (.struct fsC) ∧ Deep.oneCellFields P fsC = true ∧ P.cellsOf eC = fsC.size ∧ fsC.toList.map (fun f => P.underlying f.type) = [some (.int .i64), some (.int .i64)])
theorem four_cells {cs : List Value} (h : cs.length = 4) : ∃ a b c d, cs = [a, b, c, d] := by
  match cs, h with
  | [a, b, c, d], _ => exact ⟨a, b, c, d, rfl⟩
theorem two_some {α : Type} {xs : List α} (h : xs.length = 2) : ∃ x y, xs[0]? = some x ∧ xs[1]? = some y := by
  match xs, h with
  | [x, y], _ => exact ⟨x, y, rfl, rfl⟩
theorem three_some {α : Type} {xs : List α} (h : xs.length = 3) : ∃ x y z, xs[0]? = some x ∧ xs[1]? = some y ∧ xs[2]? = some z := by
  match xs, h with
  | [x, y, z], _ => exact ⟨x, y, z, rfl, rfl, rfl⟩
section
variable {H : Type} {enc : TypeId × Value → H} {P : Program} {w : World} {base : Nat} {held : Bool}
theorem slot_of_cells {t : TypeId} {n0 : Nat} {cs : List Value} {y : DataW H × List MemPlace} (hT : SlotTy P t) (h : DataW.trod enc P w base (fun _ => true) held n0 t cs = some y) :
    ∃ (cnt : Int) (B : Option Addr) (nt tc : Nat) (L : List Tru) (mac : Int) (C : Option Addr) (nc cc : Nat) (M : List Ce), cs = [.int .i64 cnt, .slice B nt tc, .int .i64 mac, .slice C nc cc] ∧ I64 cnt ∧ I64 mac ∧ IsTrus w B nt tc L ∧ IsCels w C nc cc M := by
  obtain ⟨f0, f1, g0, g1, g2, eT, eC, fsT, fsC, hu, ⟨o0, c0, o1, c1⟩, h4, hs, ⟨p0, d0, p1, d1, p2, d2⟩, i0, i2, ⟨u1, u2, u3, u4, u5⟩, ⟨v1, v2, v3, v4, v5⟩⟩ := hT
  obtain ⟨xs, n1, _, _, hlen, hxl, hf⟩ := DataW.trod_struct hu h
  rw [h4] at hlen
  obtain ⟨a, b, c, d, rfl⟩ := four_cells hlen
  obtain ⟨x0, x1, e0, e1⟩ := two_some (show xs.length = 2 from hxl)
  have q0 := hf 0 f0 rfl
  have q1 := hf 1 f1 rfl
  rw [o0, c0, e0] at q0
  rw [o1, c1, e1] at q1
  simp only [List.drop_zero, List.take_succ_cons, List.take_zero, List.drop_succ_cons] at q0 q1
  obtain ⟨ys, n2, _, _, _, hyl, hg⟩ := DataW.trod_struct hs q0
  obtain ⟨y0, y1, y2, r0, r1, r2⟩ := three_some (show ys.length = 3 from hyl)
  have t0 := hg 0 g0 rfl
  have t1 := hg 1 g1 rfl
  have t2 := hg 2 g2 rfl
  rw [p0, d0, r0] at t0
  rw [p1, d1, r1] at t1
  rw [p2, d2, r2] at t2
  simp only [List.drop_zero, List.take_succ_cons, List.take_zero, List.drop_succ_cons] at t0 t1 t2
  obtain ⟨cnt, rfl, hc⟩ := int_of_trod i0 t0
  obtain ⟨mac, rfl, hm⟩ := int_of_trod i2 t2
  obtain ⟨B, nt, tc, L, rfl, hB⟩ := istrus_of_part u1 u2 u3 u4 u5 t1
  obtain ⟨C, nc, cc, M, rfl, hC⟩ := iscels_of_part v1 v2 v3 v4 v5 q1
  exact ⟨cnt, B, nt, tc, L, mac, C, nc, cc, M, rfl, hc, hm, hB, hC⟩
def SlN.In (s : SlN) : Prop := I64 s.count ∧ I64 s.mac ∧ TrusI s.trusts ∧ (∀ i, i < s.cells.length → I64 (s.cells.getD i default).1 ∧ I64 (s.cells.getD i default).2) ∧ s.trusts.length ≤ maxLen ∧ s.cells.length ≤ maxLen
def IsSlots (w : World) (a : Option Addr) (len cap : Nat) (S : List SlN) : Prop := Slots w w.heap.size a S ∧ S.length = len ∧ (∀ i, i < S.length → (S.getD i default).In) ∧ len ≤ maxLen ∧ len ≤ cap
theorem isslots_of_part {t e : TypeId} {n0 : Nat} {v : Value} {y : DataW H × List MemPlace} (ht : P.underlying t = some (.slice e)) (hT : SlotTy P e) (h : DataW.trod enc P w base (fun _ => true) held n0 t [v] = some y) :
    ∃ a len cap S, v = .slice a len cap ∧ IsSlots w a len cap S := by
  have h4 : P.cellsOf e = 4 := by obtain ⟨_, _, _, _, _, _, _, _, _, _, _, h4, _⟩ := hT; exact h4
  rcases Deep.open_slice ht h with ⟨hcs, _⟩ | ⟨x, l, c, m, n, D, Pl, hcs, _, hl, hm, hmm, _, hi⟩
  · simp only [List.cons.injEq, and_true] at hcs
    exact ⟨none, 0, 0, [], hcs, fun i hi => by simp at hi, rfl, fun i hi => by simp at hi, Nat.zero_le _, Nat.le_refl _⟩
  · simp only [List.cons.injEq, and_true] at hcs
    simp only [if_true] at hmm
    subst hmm
    have key : ∀ i, ∃ s : SlN, i < m → s.In ∧ ∃ b off, x = ⟨b, off, none⟩ ∧ b < w.heap.size ∧ SlotAt w w.heap.size b (off + i * 4) s := by
      intro i
      by_cases hk : i < m
      · obtain ⟨cs, hc, ht'⟩ := hi i hk
        obtain ⟨cnt, B, nt, tc, L, mac, C, nc, cc, M, rfl, h1, h2, ⟨hB, rfl, hBI, hB1, hB2⟩, ⟨hC, rfl, hCI, hC1, hC2⟩⟩ := slot_of_cells hT ht'
        obtain ⟨_, _, hat⟩ := World.cells?_some hc
        rw [h4] at hat
        obtain ⟨cs0, hc0, _⟩ := hi 0 (by omega)
        obtain ⟨_, hl0, hat0⟩ := World.cells?_some hc0
        rw [h4] at hat0 hl0
        have hz : w.cell? (x.add 0) ≠ none := by
          have := hat0 0 (by omega)
          rw [Deep.add_add, Nat.zero_mul, Nat.zero_add, List.getElem?_eq_getElem (by omega)] at this
          rw [this]; simp
        have hcell : ∀ j u, j < 4 → ([.int .i64 cnt, .slice B L.length tc, .int .i64 mac, .slice C M.length cc] : List Value)[j]? = some u → ∃ b off, x = ⟨b, off, none⟩ ∧ b < w.heap.size ∧ w.cell? ⟨b, off + (i * 4 + j), none⟩ = some u := by
          intro j u hj hu
          have := hat j hj
          rw [Deep.add_add, hu] at this
          exact cell_atV this hz
        obtain ⟨b, off, rfl, hb, k0⟩ := hcell 0 _ (by omega) rfl
        have kk : ∀ j u, j < 4 → ([.int .i64 cnt, .slice B L.length tc, .int .i64 mac, .slice C M.length cc] : List Value)[j]? = some u → w.cell? ⟨b, off + i * 4 + j, none⟩ = some u := by
          intro j u hj hu
          obtain ⟨b', off', e, _, hc⟩ := hcell j u hj hu
          simp only [Addr.mk.injEq] at e
          obtain ⟨rfl, rfl, -⟩ := e
          rw [Nat.add_assoc]; exact hc
        exact ⟨⟨cnt, L, mac, M⟩, fun _ => ⟨⟨h1, h2, hBI, hCI, hB1, hC1⟩, b, off, rfl, hb, B, tc, C, cc, kk 0 _ (by omega) rfl, kk 1 _ (by omega) rfl, kk 2 _ (by omega) rfl, kk 3 _ (by omega) rfl, hB, hC⟩⟩
      · exact ⟨default, fun h => absurd h hk⟩
    obtain ⟨z, hz⟩ := Classical.axiomOfChoice key
    have hlen : ((List.range l).map z).length = l := by simp
    have hget : ∀ i, i < l → ((List.range l).map z).getD i default = z i := fun i hi => by rw [List.getD_eq_getElem?_getD]; simp [hi]
    refine ⟨some x, l, m, (List.range l).map z, hcs, fun i hi => ?_, hlen, fun i hi => ?_, Nat.le_trans hl hm, hl⟩
    · rw [hlen] at hi
      rw [hget i hi]
      obtain ⟨_, b, off, rfl, hb, hs⟩ := hz i (by omega)
      exact ⟨b, off, rfl, hb, hs⟩
    · rw [hlen] at hi
      rw [hget i hi]
      exact (hz i (by omega)).1
end
end Go.Proofs.Ytgaecedhkbneaaa.Mx
namespace Go.Proofs.Ytgaecedhkbneaaa.Mx
open Go.ChangeShapes Go.WideShapes Go.ChangeAt Go.RowKit
set_option linter.unusedVariables false
section
variable {H : Type} {enc : TypeId × Value → H} {P : Program} {w : World} {base : Nat} {held : Bool}
theorem row_of_field {t e : TypeId} {k : IntKind} {n : Nat} {v : Value} {y : DataW H × List MemPlace} (ht : P.underlying t = some (.slice e)) (he : P.underlying e = some (.int k)) (hc : P.cellsOf e = 1)
    (h : DataW.trod enc P w base (fun _ => true) held n t [v] = some y) : ∃ a len cap zs, v = .slice a len cap ∧ IsRow k w a len cap zs := by
  rcases open_ints ht he hc h with ⟨hcs, _⟩ | ⟨x, l, c, zs, hcs, _, hl, hm, hz, _, hcell, hwz⟩
  · simp only [List.cons.injEq, and_true] at hcs
    exact ⟨none, 0, 0, [], hcs, .inl ⟨rfl, rfl, rfl, rfl⟩⟩
  · simp only [List.cons.injEq, and_true] at hcs
    exact ⟨some x, l, c, zs, hcs, .inr ⟨_, rfl, hl, hm, by simpa using hz, hcell, hwz⟩⟩
end
theorem IsRow.list {k : IntKind} {w : World} {a : Option Addr} {len cap : Nat} {zs : List Int} (h : IsRow k w a len cap zs) : ∃ l : List Int, len = l.length ∧ Ints w k w.heap.size a l ∧ l.length ≤ maxLen ∧ l.length ≤ cap := by
  rcases h with ⟨rfl, rfl, rfl, rfl⟩ | ⟨x, rfl, hl, hm, hz, hcell, hwz⟩
  · exact ⟨[], rfl, Ints.nil, by simp [maxLen], Nat.le_refl _⟩
  · have hlen : (zs.take len).length = len := by rw [List.length_take]; omega
    exact ⟨zs.take len, hlen.symm, ints_of_row (by omega) hcell, by omega, by omega⟩
end Go.Proofs.Ytgaecedhkbneaaa.Mx
namespace Go.Proofs.Ytgaecedhkbneaaa.Mx
open Go.ChangeShapes Go.WideShapes Go.ChangeAt Go.RowKit
set_option linter.unusedVariables false
def VolTy (P : Program) (t : TypeId) : Prop := ∃ (f0 f1 f2 f3 f4 p0 p1 : Field) (eI eT eC eS : TypeId) (fsT fsC : Array Field),
  P.underlying t = some (.struct #[f0, f1, f2, f3, f4]) ∧ (f0.offset = 0 ∧ P.cellsOf f0.type = 2 ∧ f1.offset = 2 ∧ P.cellsOf f1.type = 1 ∧ f2.offset = 3 ∧ P.cellsOf f2.type = 1 ∧ f3.offset = 4 ∧ P.cellsOf f3.type = 1 ∧ f4.offset = 5 ∧ P.cellsOf f4.type = 1) ∧ P.cellsOf t = 6 ∧
  P.underlying f0.type = some (.struct #[p0, p1]) ∧ (p0.offset = 0 ∧ P.cellsOf p0.type = 1 ∧ p1.offset = 1 ∧ P.cellsOf p1.type = 1) ∧ P.underlying p0.type = some (.int .i64) ∧
  (P.underlying p1.type = some (.slice eI) ∧ P.underlying eI = some (.int .i64) ∧ P.cellsOf eI = 1) ∧ P.underlying f4.type = some (.int .i64) ∧
  (P.underlying f1.type = some (.slice eT) ∧ P.underlying eT = some (.struct fsT) ∧ Deep.oneCellFields P fsT = true ∧ P.cellsOf eT = fsT.size ∧ fsT.toList.map (fun f => P.underlying f.type) = [some (.int .i64), some (.int .i64), some (.int .i64), some (.int .i64), some (.int .i64), some (.int .i64), some (.int .i64), some .bool]) ∧
  (P.underlying f2.type = some (.slice eC) ∧ P.underlying eC = some (.struct fsC) ∧ Deep.oneCellFields P fsC = true ∧ P.cellsOf eC = fsC.size ∧ fsC.toList.map (fun f => P.underlying f.type) = [some (.int .i64), some (.int .i64)]) ∧
  (P.underlying f3.type = some (.slice eS) ∧ SlotTy P eS)
theorem six_cells {cs : List Value} (h : cs.length = 6) : ∃ a b c d e f, cs = [a, b, c, d, e, f] := by
  match cs, h with
  | [a, b, c, d, e, f], _ => exact ⟨a, b, c, d, e, f, rfl⟩
theorem five_some {α : Type} {xs : List α} (h : xs.length = 5) : ∃ x y z u v, xs[0]? = some x ∧ xs[1]? = some y ∧ xs[2]? = some z ∧ xs[3]? = some u ∧ xs[4]? = some v := by
  match xs, h with
  | [x, y, z, u, v], _ => exact ⟨x, y, z, u, v, rfl, rfl, rfl, rfl, rfl⟩
section
variable {H : Type} {enc : TypeId × Value → H} {P : Program} {w : World} {base : Nat} {held : Bool}
theorem vol_of_cells {t : TypeId} {n0 : Nat} {cs : List Value} {y : DataW H × List MemPlace} (hT : VolTy P t) (h : DataW.trod enc P w base (fun _ => true) held n0 t cs = some y) :
    ∃ (key : Int) (A : Option Addr) (na ca : Nat) (zs : List Int) (B : Option Addr) (nt tc : Nat) (L : List Tru) (C : Option Addr) (nc cc : Nat) (M : List Ce) (D : Option Addr) (ns sc : Nat) (S : List SlN) (cnt : Int),
      cs = [.int .i64 key, .slice A na ca, .slice B nt tc, .slice C nc cc, .slice D ns sc, .int .i64 cnt] ∧ I64 key ∧ IsRow .i64 w A na ca zs ∧ IsTrus w B nt tc L ∧ IsCels w C nc cc M ∧ IsSlots w D ns sc S ∧ I64 cnt := by
  obtain ⟨f0, f1, f2, f3, f4, p0, p1, eI, eT, eC, eS, fsT, fsC, hu, ⟨o0, c0, o1, c1, o2, c2, o3, c3, o4, c4⟩, h6, hs, ⟨q0, d0, q1, d1⟩, i0, ⟨r1, r2, r3⟩, i4, ⟨u1, u2, u3, u4, u5⟩, ⟨v1, v2, v3, v4, v5⟩, ⟨s1, s2⟩⟩ := hT
  obtain ⟨xs, n1, _, _, hlen, hxl, hf⟩ := DataW.trod_struct hu h
  rw [h6] at hlen
  obtain ⟨a, b, c, d, e, f, rfl⟩ := six_cells hlen
  obtain ⟨x0, x1, x2, x3, x4, e0, e1, e2, e3, e4⟩ := five_some (show xs.length = 5 from hxl)
  have g0 := hf 0 f0 rfl
  have g1 := hf 1 f1 rfl
  have g2 := hf 2 f2 rfl
  have g3 := hf 3 f3 rfl
  have g4 := hf 4 f4 rfl
  rw [o0, c0, e0] at g0
  rw [o1, c1, e1] at g1
  rw [o2, c2, e2] at g2
  rw [o3, c3, e3] at g3
  rw [o4, c4, e4] at g4
  simp only [List.drop_zero, List.take_succ_cons, List.take_zero, List.drop_succ_cons] at g0 g1 g2 g3 g4
  obtain ⟨ys, n2, _, _, _, hyl, hg⟩ := DataW.trod_struct hs g0
  obtain ⟨y0, y1, w0, w1⟩ := two_some (show ys.length = 2 from hyl)
  have t0 := hg 0 p0 rfl
  have t1 := hg 1 p1 rfl
  rw [q0, d0, w0] at t0
  rw [q1, d1, w1] at t1
  simp only [List.drop_zero, List.take_succ_cons, List.take_zero, List.drop_succ_cons] at t0 t1
  obtain ⟨key, rfl, hk⟩ := int_of_trod i0 t0
  obtain ⟨A, na, ca, zs, rfl, hA⟩ := row_of_field r1 r2 r3 t1
  obtain ⟨B, nt, tc, L, rfl, hB⟩ := istrus_of_part u1 u2 u3 u4 u5 g1
  obtain ⟨C, nc, cc, M, rfl, hC⟩ := iscels_of_part v1 v2 v3 v4 v5 g2
  obtain ⟨D, ns, sc, S, rfl, hD⟩ := isslots_of_part s1 s2 g3
  obtain ⟨cnt, rfl, hc⟩ := int_of_trod i4 g4
  exact ⟨key, A, na, ca, zs, B, nt, tc, L, C, nc, cc, M, D, ns, sc, S, cnt, rfl, hk, hA, hB, hC, hD, hc⟩
theorem vol_of_trod {r : Reach} {b0 : Nat} {t : TypeId} {v : Value} {d : DataW H} {p : List MemPlace} (hT : VolTy P t) (hv : Value.okWide P w r b0 t v) (h : DataW.Trod enc P w base (fun _ => true) held t v d p) :
    ∃ (key : Int) (A : Option Addr) (na ca : Nat) (zs : List Int) (B : Option Addr) (nt tc : Nat) (L : List Tru) (C : Option Addr) (nc cc : Nat) (M : List Ce) (D : Option Addr) (ns sc : Nat) (S : List SlN) (cnt : Int),
      v = .agg #[.int .i64 key, .slice A na ca, .slice B nt tc, .slice C nc cc, .slice D ns sc, .int .i64 cnt] ∧ I64 key ∧ IsRow .i64 w A na ca zs ∧ IsTrus w B nt tc L ∧ IsCels w C nc cc M ∧ IsSlots w D ns sc S ∧ I64 cnt := by
  have hu : ∃ fs, P.underlying t = some (.struct fs) := by obtain ⟨_, _, _, _, _, _, _, _, _, _, _, _, _, hu, _⟩ := hT; exact ⟨_, hu⟩
  obtain ⟨fs, hu⟩ := hu
  obtain ⟨cs, rfl, -⟩ := okWide_struct hu hv
  obtain ⟨fuel, hf⟩ := h
  obtain ⟨key, A, na, ca, zs, B, nt, tc, L, C, nc, cc, M, D, ns, sc, S, cnt, e, r⟩ := vol_of_cells hT hf
  refine ⟨key, A, na, ca, zs, B, nt, tc, L, C, nc, cc, M, D, ns, sc, S, cnt, ?_, r⟩
  have e2 : cs.toList = [.int .i64 key, .slice A na ca, .slice B nt tc, .slice C nc cc, .slice D ns sc, .int .i64 cnt] := by simpa [Value.cells] using e
  rw [show cs = cs.toList.toArray from by simp, e2]
end
end Go.Proofs.Ytgaecedhkbneaaa.Mx
namespace Go.Proofs.Ytgaecedhkbneaaa.Mx
open Go.ChangeShapes Go.WideShapes Go.ChangeAt Go.RowKit
set_option linter.unusedVariables false
theorem law_vol {w : World} {key : Int} {A : Option Addr} {na ca : Nat} {zs : List Int} {B : Option Addr} {nt tc : Nat} {L : List Tru} {C : Option Addr} {nc cc : Nat} {M : List Ce} {D : Option Addr} {ns sc : Nat} {S : List SlN} {cnt : Int}
    (h1 : IsRow .i64 w A na ca zs) (h2 : IsTrus w B nt tc L) (h3 : IsCels w C nc cc M) (h4 : IsSlots w D ns sc S) (h5 : I64 cnt) :
    ∃ x : VolG, LawVol w x (.agg #[.int .i64 key, .slice A na ca, .slice B nt tc, .slice C nc cc, .slice D ns sc, .int .i64 cnt]) := by
  obtain ⟨l, rfl, hA, hn, hcap⟩ := h1.list
  obtain ⟨hB, rfl, hBi, hBm, hBc⟩ := h2
  obtain ⟨hC, rfl, hCi, hCm, hCc⟩ := h3
  obtain ⟨hD, rfl, hDi, hDm, hDc⟩ := h4
  refine ⟨⟨key, l, L, M, S, cnt⟩, ⟨A, ca, B, tc, C, cc, D, sc, rfl, hA, hB, hC, hD, hcap, hDc⟩, fun hx => ⟨hBi, fun i hi => ?_, h5⟩, hn, hBm, hCm, hDm, fun i hi => ?_⟩
  · obtain ⟨a, b, c, -, -, -⟩ := hDi i hi
    obtain ⟨e, f⟩ := hx.2.2.2.2 i hi
    exact ⟨⟨e, f, c, a⟩, b⟩
  · obtain ⟨-, -, -, -, e, f⟩ := hDi i hi
    exact ⟨e, f⟩
end Go.Proofs.Ytgaecedhkbneaaa.Mx

import Derived.Test.YtjbnknccnhdapaaE05
import Derived.Test.YtjbnknccnhdapaaE07
import Derived.Test.YtjbnknccnhdapaaE08
import Derived.Test.YtjbnknccnhdapaaE04
import Derived.Deep.Slices
import Derived.Deep.Fields
import Derived.Test.YtjbnknccnhdapaaE01
import Derived.Test.YtjbnknccnhdapaaE02
namespace Go.Proofs.Ytjbnknccnhdapaa.Mx
open Go.ChangeShapes Go.WideShapes Go.ChangeAt Go.RowKit
set_option linter.unusedVariables false
def FitK (k : Option TypeDesc) (v : Value) : Prop := (k = some (.int .i64) ∧ ∃ n, v = .int .i64 n ∧ I64 n) ∨ (k = some .bool ∧ ∃ b, v = .bool b)
def FlatV (w : World) (n : Nat) (a : Option Addr) (len : Nat) (z : Nat → Value) : Prop :=
  ∀ k, k < len * n → ∃ b off, a = some ⟨b, off, none⟩ ∧ b < w.heap.size ∧ w.cell? ⟨b, off + k, none⟩ = some (z k)
theorem cell_atV {w : World} {x : Addr} {k : Nat} {v : Value} (h : w.cell? (x.add k) = some v) (h0 : w.cell? (x.add 0) ≠ none) : ∃ b off, x = ⟨b, off, none⟩ ∧ b < w.heap.size ∧ w.cell? ⟨b, off + k, none⟩ = some v := by
  obtain ⟨b, off, spot⟩ := x
  have hspot : spot = none := by
    cases hc : w.cell? ((⟨b, off, spot⟩ : Addr).add 0) with
    | none => exact absurd hc h0
    | some u => simpa [Addr.add] using World.cell?_spot hc
  subst hspot
  have hc : w.cell? ⟨b, off + k, none⟩ = some v := by
    by_cases hk : k = 0
    · subst hk; simpa [Addr.add] using h
    · simpa [Addr.add, hk] using h
  exact ⟨b, off, rfl, lt_of_cell hc, hc⟩
section
variable {H : Type} {enc : TypeId × Value → H} {P : Program} {w : World} {base : Nat} {held : Bool}
theorem flatV_of {t e : TypeId} {fs : Array Field} {n0 : Nat} {v : Value} {y : DataW H × List MemPlace} (ht : P.underlying t = some (.slice e)) (he : P.underlying e = some (.struct fs)) (hone : Deep.oneCellFields P fs = true) (hC : P.cellsOf e = fs.size)
    (hk : ∀ f ∈ fs.toList, P.underlying f.type = some (.int .i64) ∨ P.underlying f.type = some .bool) (h : DataW.trod enc P w base (fun _ => true) held n0 t [v] = some y) :
    ∃ a len cap, v = .slice a len cap ∧ len ≤ cap ∧ len ≤ maxLen ∧ ∃ z : Nat → Value, FlatV w fs.size a len z ∧ ∀ k, k < len * fs.size → ∀ f, fs[k % fs.size]? = some f → FitK (P.underlying f.type) (z k) := by
  rcases Deep.open_slice ht h with ⟨hcs, _⟩ | ⟨x, l, c, m, n, D, Pl, hcs, _, hl, hm, hmm, _, hi⟩
  · simp only [List.cons.injEq, and_true] at hcs
    exact ⟨none, 0, 0, hcs, Nat.le_refl _, Nat.zero_le _, fun _ => undef, fun k hk => absurd hk (by simp), fun k hk => absurd hk (by simp)⟩
  · simp only [List.cons.injEq, and_true] at hcs
    simp only [if_true] at hmm
    subst hmm
    have key : ∀ k, ∃ u : Value, k < m * fs.size → w.cell? (x.add k) = some u ∧ ∀ f, fs[k % fs.size]? = some f → FitK (P.underlying f.type) u := by
      intro k
      by_cases hk2 : k < m * fs.size
      · have hn : 0 < fs.size := by rcases Nat.eq_zero_or_pos fs.size with h0 | h0; · simp [h0] at hk2
                                    · exact h0
        have hj : k % fs.size < fs.size := Nat.mod_lt _ hn
        have hik : k / fs.size < m := Nat.div_lt_of_lt_mul (by rwa [Nat.mul_comm])
        obtain ⟨cs, hc, ht'⟩ := hi _ hik
        obtain ⟨ys, n', _, _, hlen, hyl, hfld⟩ := DataW.trod_struct he ht'
        obtain ⟨_, _, hat⟩ := World.cells?_some hc
        have hfj : fs[k % fs.size]? = some fs[k % fs.size] := Array.getElem?_eq_getElem hj
        obtain ⟨ho, h1⟩ := Deep.hone_of hone _ _ hfj
        have hT := hfld _ _ hfj
        rw [ho, h1] at hT
        have hlt : k % fs.size < cs.length := by omega
        rw [List.drop_eq_getElem_cons hlt, List.take_succ_cons, List.take_zero, List.getElem?_eq_getElem (by omega)] at hT
        refine ⟨cs[k % fs.size], fun _ => ⟨?_, fun f hf => ?_⟩⟩
        · have hcell := hat _ (show k % fs.size < P.cellsOf e by omega)
          rw [Deep.add_add, hC, Nat.mul_comm, Nat.div_add_mod] at hcell
          rw [hcell, List.getElem?_eq_getElem hlt]
        · rw [hfj] at hf
          injection hf with hf
          subst hf
          rcases hk _ (Array.getElem_mem_toList hj) with h2 | h2
          · obtain ⟨v, hv, hv64⟩ := int_of_trod h2 hT
            exact .inl ⟨h2, v, hv, hv64⟩
          · obtain ⟨b, hb⟩ := bool_of_trod h2 hT
            exact .inr ⟨h2, b, hb⟩
      · exact ⟨undef, fun h => absurd h hk2⟩
    obtain ⟨z, hz⟩ := Classical.axiomOfChoice key
    have hkm : ∀ k, k < l * fs.size → k < m * fs.size := fun k hk => Nat.lt_of_lt_of_le hk (Nat.mul_le_mul_right _ hl)
    refine ⟨some x, l, m, hcs, hl, Nat.le_trans hl hm, z, fun k hk => ?_, fun k hk => (hz k (hkm k hk)).2⟩
    obtain ⟨b, off, rfl, hb, hc⟩ := cell_atV (hz k (hkm k hk)).1 (by rw [(hz 0 (by have := hkm k hk; omega)).1]; simp)
    exact ⟨b, off, rfl, hb, hc⟩
end
def boolOf : Value → Bool | .bool b => b | _ => false
def truOf (z : Nat → Value) (len : Nat) : List Tru := (List.range len).map fun i => ⟨intOf (z (i * 8)), intOf (z (i * 8 + 1)), intOf (z (i * 8 + 2)), intOf (z (i * 8 + 3)), intOf (z (i * 8 + 4)), intOf (z (i * 8 + 5)), intOf (z (i * 8 + 6)), boolOf (z (i * 8 + 7))⟩
theorem truOf_len (z : Nat → Value) (len : Nat) : (truOf z len).length = len := by simp [truOf]
theorem truOf_get (z : Nat → Value) {len i : Nat} (h : i < len) : (truOf z len).getD i default = ⟨intOf (z (i * 8)), intOf (z (i * 8 + 1)), intOf (z (i * 8 + 2)), intOf (z (i * 8 + 3)), intOf (z (i * 8 + 4)), intOf (z (i * 8 + 5)), intOf (z (i * 8 + 6)), boolOf (z (i * 8 + 7))⟩ := by
  rw [List.getD_eq_getElem?_getD]; simp [truOf, h]
theorem int_fit {k : Option TypeDesc} {v : Value} (h : FitK k v) (hk : k = some (.int .i64)) : v = .int .i64 (intOf v) ∧ I64 (intOf v) := by
  rcases h with ⟨_, n, rfl, hn⟩ | ⟨h2, _⟩
  · exact ⟨rfl, hn⟩
  · rw [hk] at h2; cases h2
theorem bool_fit {k : Option TypeDesc} {v : Value} (h : FitK k v) (hk : k = some .bool) : v = .bool (boolOf v) := by
  rcases h with ⟨h2, _⟩ | ⟨_, b, rfl⟩
  · rw [hk] at h2; cases h2
  · rfl
def IsTrus (w : World) (a : Option Addr) (len cap : Nat) (L : List Tru) : Prop := Trs w w.heap.size a L ∧ L.length = len ∧ TrusI L ∧ len ≤ maxLen ∧ len ≤ cap
theorem istrus_of_flat {P : Program} {w : World} {a : Option Addr} {len cap : Nat} {fs : Array Field} (hks : fs.toList.map (fun f => P.underlying f.type) = [some (.int .i64), some (.int .i64), some (.int .i64), some (.int .i64), some (.int .i64), some (.int .i64), some (.int .i64), some .bool])
    (h : len ≤ cap ∧ len ≤ maxLen ∧ ∃ z : Nat → Value, FlatV w fs.size a len z ∧ ∀ k, k < len * fs.size → ∀ f, fs[k % fs.size]? = some f → FitK (P.underlying f.type) (z k)) : ∃ L, IsTrus w a len cap L := by
  obtain ⟨hl, hm, z, hz, hf⟩ := h
  have h8 : fs.size = 8 := by have := congrArg List.length hks; simpa using this
  rw [h8] at hz hf
  have hf2 : ∀ i j q, i < len → j < 8 → ([some (.int .i64), some (.int .i64), some (.int .i64), some (.int .i64), some (.int .i64), some (.int .i64), some (.int .i64), some .bool] : List (Option TypeDesc))[j]? = some q → FitK q (z (i * 8 + j)) := by
    intro i j q hi hj hq
    rw [← hks, List.getElem?_map] at hq
    obtain ⟨f, h1, h2⟩ := Option.map_eq_some_iff.1 hq
    rw [← h2]
    refine hf (i * 8 + j) (by omega) f ?_
    rw [show (i * 8 + j) % 8 = j by omega]
    simpa using h1
  refine ⟨truOf z len, fun i hi => ?_, truOf_len _ _, fun i hi => ?_, hm, hl⟩
  · rw [truOf_len] at hi
    rw [truOf_get z hi]
    obtain ⟨b, off, rfl, hb, c0⟩ := hz (i * 8) (by omega)
    refine ⟨b, off, rfl, hb, fun j hj => ?_⟩
    have hc : w.cell? ⟨b, off + (i * 8 + j), none⟩ = some (z (i * 8 + j)) := by
      obtain ⟨b', off', e1, _, c⟩ := hz (i * 8 + j) (by omega)
      simp only [Option.some.injEq, Addr.mk.injEq] at e1
      obtain ⟨rfl, rfl, -⟩ := e1
      exact c
    rw [show off + i * 8 + j = off + (i * 8 + j) by omega, hc]
    match j, hj with
    | 0, _ => exact congrArg some (int_fit (hf2 i 0 _ hi (by omega) rfl) rfl).1
    | 1, _ => exact congrArg some (int_fit (hf2 i 1 _ hi (by omega) rfl) rfl).1
    | 2, _ => exact congrArg some (int_fit (hf2 i 2 _ hi (by omega) rfl) rfl).1
    | 3, _ => exact congrArg some (int_fit (hf2 i 3 _ hi (by omega) rfl) rfl).1
    | 4, _ => exact congrArg some (int_fit (hf2 i 4 _ hi (by omega) rfl) rfl).1
    | 5, _ => exact congrArg some (int_fit (hf2 i 5 _ hi (by omega) rfl) rfl).1
    | 6, _ => exact congrArg some (int_fit (hf2 i 6 _ hi (by omega) rfl) rfl).1
    | 7, _ => exact congrArg some (bool_fit (hf2 i 7 _ hi (by omega) rfl) rfl)
  · rw [truOf_len] at hi
    rw [truOf_get z hi]
    have g := fun j q hj hq => hf2 i j q hi hj hq
    exact ⟨(int_fit (g 0 _ (by omega) rfl) rfl).2, (int_fit (g 1 _ (by omega) rfl) rfl).2, (int_fit (g 2 _ (by omega) rfl) rfl).2, (int_fit (g 3 _ (by omega) rfl) rfl).2, (int_fit (g 4 _ (by omega) rfl) rfl).2, (int_fit (g 5 _ (by omega) rfl) rfl).2, (int_fit (g 6 _ (by omega) rfl) rfl).2⟩
theorem istrus_of_field {P : Program} {w : World} {v : Value} {fs : Array Field} (hks : fs.toList.map (fun f => P.underlying f.type) = [some (.int .i64), some (.int .i64), some (.int .i64), some (.int .i64), some (.int .i64), some (.int .i64), some (.int .i64), some .bool])
    (h : ∃ a len cap, v = .slice a len cap ∧ len ≤ cap ∧ len ≤ maxLen ∧ ∃ z : Nat → Value, FlatV w fs.size a len z ∧ ∀ k, k < len * fs.size → ∀ f, fs[k % fs.size]? = some f → FitK (P.underlying f.type) (z k)) : ∃ a len cap L, v = .slice a len cap ∧ IsTrus w a len cap L := by
  obtain ⟨a, len, cap, e, r⟩ := h
  obtain ⟨L, hL⟩ := istrus_of_flat hks r
  exact ⟨a, len, cap, L, e, hL⟩
def celOf (z : Nat → Value) (len : Nat) : List Ce := (List.range len).map fun i => (intOf (z (i * 2)), intOf (z (i * 2 + 1)))
theorem celOf_len (z : Nat → Value) (len : Nat) : (celOf z len).length = len := by simp [celOf]
theorem celOf_get (z : Nat → Value) {len i : Nat} (h : i < len) : (celOf z len).getD i default = (intOf (z (i * 2)), intOf (z (i * 2 + 1))) := by
  rw [List.getD_eq_getElem?_getD]; simp [celOf, h]
def IsCels (w : World) (a : Option Addr) (len cap : Nat) (L : List Ce) : Prop := Cls w w.heap.size a L ∧ L.length = len ∧ (∀ i, i < L.length → I64 (L.getD i default).1 ∧ I64 (L.getD i default).2) ∧ len ≤ maxLen ∧ len ≤ cap
theorem iscels_of_flat {P : Program} {w : World} {a : Option Addr} {len cap : Nat} {fs : Array Field} (hks : fs.toList.map (fun f => P.underlying f.type) = [some (.int .i64), some (.int .i64)])
    (h : len ≤ cap ∧ len ≤ maxLen ∧ ∃ z : Nat → Value, FlatV w fs.size a len z ∧ ∀ k, k < len * fs.size → ∀ f, fs[k % fs.size]? = some f → FitK (P.underlying f.type) (z k)) : ∃ L, IsCels w a len cap L := by
  obtain ⟨hl, hm, z, hz, hf⟩ := h
  have h8 : fs.size = 2 := by have := congrArg List.length hks; simpa using this
  rw [h8] at hz hf
  have hf2 : ∀ i j q, i < len → j < 2 → ([some (.int .i64), some (.int .i64)] : List (Option TypeDesc))[j]? = some q → FitK q (z (i * 2 + j)) := by
    intro i j q hi hj hq
    rw [← hks, List.getElem?_map] at hq
    obtain ⟨f, h1, h2⟩ := Option.map_eq_some_iff.1 hq
    rw [← h2]
    refine hf (i * 2 + j) (by omega) f ?_
    rw [show (i * 2 + j) % 2 = j by omega]
    simpa using h1
  refine ⟨celOf z len, fun i hi => ?_, celOf_len _ _, fun i hi => ?_, hm, hl⟩
  · rw [celOf_len] at hi
    rw [celOf_get z hi]
    obtain ⟨b, off, rfl, hb, c0⟩ := hz (i * 2) (by omega)
    refine ⟨b, off, rfl, hb, fun j hj => ?_⟩
    have hc : w.cell? ⟨b, off + (i * 2 + j), none⟩ = some (z (i * 2 + j)) := by
      obtain ⟨b', off', e1, _, c⟩ := hz (i * 2 + j) (by omega)
      simp only [Option.some.injEq, Addr.mk.injEq] at e1
      obtain ⟨rfl, rfl, -⟩ := e1
      exact c
    rw [show off + i * 2 + j = off + (i * 2 + j) by omega, hc]
    match j, hj with
    | 0, _ => exact congrArg some (int_fit (hf2 i 0 _ hi (by omega) rfl) rfl).1
    | 1, _ => exact congrArg some (int_fit (hf2 i 1 _ hi (by omega) rfl) rfl).1
  · rw [celOf_len] at hi
    rw [celOf_get z hi]
    exact ⟨(int_fit (hf2 i 0 _ hi (by omega) rfl) rfl).2, (int_fit (hf2 i 1 _ hi (by omega) rfl) rfl).2⟩
theorem iscels_of_field {P : Program} {w : World} {v : Value} {fs : Array Field} (hks : fs.toList.map (fun f => P.underlying f.type) = [some (.int .i64), some (.int .i64)])
    (h : ∃ a len cap, v = .slice a len cap ∧ len ≤ cap ∧ len ≤ maxLen ∧ ∃ z : Nat → Value, FlatV w fs.size a len z ∧ ∀ k, k < len * fs.size → ∀ f, fs[k % fs.size]? = some f → FitK (P.underlying f.type) (z k)) : ∃ a len cap L, v = .slice a len cap ∧ IsCels w a len cap L := by
  obtain ⟨a, len, cap, e, r⟩ := h
  obtain ⟨L, hL⟩ := iscels_of_flat hks r
  exact ⟨a, len, cap, L, e, hL⟩
theorem kinds_of {P : Program} {fs : Array Field} {l : List (Option TypeDesc)} (hks : fs.toList.map (fun f => P.underlying f.type) = l) (hl : ∀ k ∈ l, k = some (.int .i64) ∨ k = some .bool) : ∀ f ∈ fs.toList, P.underlying f.type = some (.int .i64) ∨ P.underlying f.type = some .bool :=
  fun f hf => hl _ (hks ▸ List.mem_map_of_mem (f := fun f : Field => P.underlying f.type) hf)
section
variable {H : Type} {enc : TypeId × Value → H} {P : Program} {w : World} {base : Nat} {held : Bool}
theorem istrus_of_part {t e : TypeId} {fs : Array Field} {n0 : Nat} {v : Value} {y : DataW H × List MemPlace} (ht : P.underlying t = some (.slice e)) (he : P.underlying e = some (.struct fs)) (hone : Deep.oneCellFields P fs = true) (hC : P.cellsOf e = fs.size)
    (hks : fs.toList.map (fun f => P.underlying f.type) = [some (.int .i64), some (.int .i64), some (.int .i64), some (.int .i64), some (.int .i64), some (.int .i64), some (.int .i64), some .bool]) (h : DataW.trod enc P w base (fun _ => true) held n0 t [v] = some y) : ∃ a len cap L, v = .slice a len cap ∧ IsTrus w a len cap L :=
  istrus_of_field hks (flatV_of ht he hone hC (kinds_of hks (by simp)) h)
theorem iscels_of_part {t e : TypeId} {fs : Array Field} {n0 : Nat} {v : Value} {y : DataW H × List MemPlace} (ht : P.underlying t = some (.slice e)) (he : P.underlying e = some (.struct fs)) (hone : Deep.oneCellFields P fs = true) (hC : P.cellsOf e = fs.size)
    (hks : fs.toList.map (fun f => P.underlying f.type) = [some (.int .i64), some (.int .i64)]) (h : DataW.trod enc P w base (fun _ => true) held n0 t [v] = some y) : ∃ a len cap L, v = .slice a len cap ∧ IsCels w a len cap L :=
  iscels_of_field hks (flatV_of ht he hone hC (kinds_of hks (by simp)) h)
end
end Go.Proofs.Ytjbnknccnhdapaa.Mx
namespace Go.Proofs.Ytjbnknccnhdapaa.Mx
open Go.ChangeShapes Go.WideShapes Go.ChangeAt Go.RowKit
set_option linter.unusedVariables false
def SlotTy (P : Program) (t : TypeId) : Prop := ∃ (f0 f1 g0 g1 g2 : Field) (eT eC : TypeId) (fsT fsC : Array Field),
  P.underlying t = some (.struct #[f0, f1]) ∧ (f0.offset = 0 ∧ P.cellsOf f0.type = 3 ∧ f1.offset = 3 ∧ P.cellsOf f1.type = 1) ∧ P.cellsOf t = 4 ∧
  P.underlying f0.type = some (.struct #[g0, g1, g2]) ∧ (g0.offset = 0 ∧ P.cellsOf g0.type = 1 ∧ g1.offset = 1 ∧ P.cellsOf g1.type = 1 ∧ g2.offset = 2 ∧ P.cellsOf g2.type = 1) ∧
  P.underlying g0.type = some (.int .i64) ∧ P.underlying g2.type = some (.int .i64) ∧
  (P.underlying g1.type = some (.slice eT) ∧ P.underlying eT = some (.struct fsT) ∧ Deep.oneCellFields P fsT = true ∧ P.cellsOf eT = fsT.size ∧ fsT.toList.map (fun f => P.underlying f.type) = [some (.int .i64), some (.int .i64), some (.int .i64), some (.int .i64), some (.int .i64), some (.int .i64), some (.int .i64), some .bool]) ∧
  (P.underlying f1.type = some (.slice eC) ∧ P.underlying eC = some (.struct fsC) ∧ Deep.oneCellFields P fsC = true ∧ P.cellsOf eC = fsC.size ∧ fsC.toList.map (fun f => P.underlying f.type) = [some (.int .i64), some (.int .i64)])
theorem four_cells {cs : List Value} (h : cs.length = 4) : ∃ a b c d, cs = [a, b, c, d] := by
  match cs, h with
  | [a, b, c, d], _ => exact ⟨a, b, c, d, rfl⟩
theorem two_some {α : Type} {xs : List α} (h : xs.length = 2) : ∃ x y, xs[0]? = some x ∧ xs[1]? = some y := by
  match xs, h with
  | [x, y], _ => exact ⟨x, y, rfl, rfl⟩
theorem three_some {α : Type} {xs : List α} (h : xs.length = 3) : ∃ x y z, xs[0]? = some x ∧ xs[1]? = some y ∧ xs[2]? = some z := by
  match xs, h with
  | [x, y, z], _ => exact ⟨x, y, z, rfl, rfl, rfl⟩
section
variable {H : Type} {enc : TypeId × Value → H} {P : Program} {w : World} {base : Nat} {held : Bool}
theorem slot_of_cells {t : TypeId} {n0 : Nat} {cs : List Value} {y : DataW H × List MemPlace} (hT : SlotTy P t) (h : DataW.trod enc P w base (fun _ => true) held n0 t cs = some y) :
    ∃ (cnt : Int) (B : Option Addr) (nt tc : Nat) (L : List Tru) (mac : Int) (C : Option Addr) (nc cc : Nat) (M : List Ce), cs = [.int .i64 cnt, .slice B nt tc, .int .i64 mac, .slice C nc cc] ∧ I64 cnt ∧ I64 mac ∧ IsTrus w B nt tc L ∧ IsCels w C nc cc M := by
  obtain ⟨f0, f1, g0, g1, g2, eT, eC, fsT, fsC, hu, ⟨o0, c0, o1, c1⟩, h4, hs, ⟨p0, d0, p1, d1, p2, d2⟩, i0, i2, ⟨u1, u2, u3, u4, u5⟩, ⟨v1, v2, v3, v4, v5⟩⟩ := hT
  obtain ⟨xs, n1, _, _, hlen, hxl, hf⟩ := DataW.trod_struct hu h
  rw [h4] at hlen
  obtain ⟨a, b, c, d, rfl⟩ := four_cells hlen
  obtain ⟨x0, x1, e0, e1⟩ := two_some (show xs.length = 2 from hxl)
  have q0 := hf 0 f0 rfl
  have q1 := hf 1 f1 rfl
  rw [o0, c0, e0] at q0
  rw [o1, c1, e1] at q1
  simp only [List.drop_zero, List.take_succ_cons, List.take_zero, List.drop_succ_cons] at q0 q1
  obtain ⟨ys, n2, _, _, _, hyl, hg⟩ := DataW.trod_struct hs q0
  obtain ⟨y0, y1, y2, r0, r1, r2⟩ := three_some (show ys.length = 3 from hyl)
  have t0 := hg 0 g0 rfl
  have t1 := hg 1 g1 rfl
  have t2 := hg 2 g2 rfl
  rw [p0, d0, r0] at t0
  rw [p1, d1, r1] at t1
  rw [p2, d2, r2] at t2
  simp only [List.drop_zero, List.take_succ_cons, List.take_zero, List.drop_succ_cons] at t0 t1 t2
  obtain ⟨cnt, rfl, hc⟩ := int_of_trod i0 t0
  obtain ⟨mac, rfl, hm⟩ := int_of_trod i2 t2
  obtain ⟨B, nt, tc, L, rfl, hB⟩ := istrus_of_part u1 u2 u3 u4 u5 t1
  obtain ⟨C, nc, cc, M, rfl, hC⟩ := iscels_of_part v1 v2 v3 v4 v5 q1
  exact ⟨cnt, B, nt, tc, L, mac, C, nc, cc, M, rfl, hc, hm, hB, hC⟩
theorem slot_of_trod {r : Reach} {b0 : Nat} {t : TypeId} {v : Value} {d : DataW H} {p : List MemPlace} (hT : SlotTy P t) (hv : Value.okWide P w r b0 t v) (h : DataW.Trod enc P w base (fun _ => true) held t v d p) :
    ∃ (cnt : Int) (B : Option Addr) (nt tc : Nat) (L : List Tru) (mac : Int) (C : Option Addr) (nc cc : Nat) (M : List Ce), v = .agg #[.int .i64 cnt, .slice B nt tc, .int .i64 mac, .slice C nc cc] ∧ I64 cnt ∧ I64 mac ∧ IsTrus w B nt tc L ∧ IsCels w C nc cc M := by
  obtain ⟨cs, rfl, -⟩ := okWide_struct hT.choose_spec.choose_spec.choose_spec.choose_spec.choose_spec.choose_spec.choose_spec.choose_spec.choose_spec.1 hv
  obtain ⟨fuel, hf⟩ := h
  obtain ⟨cnt, B, nt, tc, L, mac, C, nc, cc, M, e, r⟩ := slot_of_cells hT hf
  refine ⟨cnt, B, nt, tc, L, mac, C, nc, cc, M, ?_, r⟩
  have e2 : cs.toList = [.int .i64 cnt, .slice B nt tc, .int .i64 mac, .slice C nc cc] := by simpa [Value.cells] using e
  rw [show cs = cs.toList.toArray from by simp, e2]
def SlN.In (s : SlN) : Prop := I64 s.count ∧ I64 s.mac ∧ TrusI s.trusts ∧ (∀ i, i < s.cells.length → I64 (s.cells.getD i default).1 ∧ I64 (s.cells.getD i default).2) ∧ s.trusts.length ≤ maxLen ∧ s.cells.length ≤ maxLen
def IsSlots (w : World) (a : Option Addr) (len cap : Nat) (S : List SlN) : Prop := Slots w w.heap.size a S ∧ S.length = len ∧ (∀ i, i < S.length → (S.getD i default).In) ∧ len ≤ maxLen ∧ len ≤ cap
theorem isslots_of_part {t e : TypeId} {n0 : Nat} {v : Value} {y : DataW H × List MemPlace} (ht : P.underlying t = some (.slice e)) (hT : SlotTy P e) (h : DataW.trod enc P w base (fun _ => true) held n0 t [v] = some y) :
    ∃ a len cap S, v = .slice a len cap ∧ IsSlots w a len cap S := by
  have h4 : P.cellsOf e = 4 := by obtain ⟨_, _, _, _, _, _, _, _, _, _, _, h4, _⟩ := hT; exact h4
  rcases Deep.open_slice ht h with ⟨hcs, _⟩ | ⟨x, l, c, m, n, D, Pl, hcs, _, hl, hm, hmm, _, hi⟩
  · simp only [List.cons.injEq, and_true] at hcs
    exact ⟨none, 0, 0, [], hcs, fun i hi => by simp at hi, rfl, fun i hi => by simp at hi, Nat.zero_le _, Nat.le_refl _⟩
  · simp only [List.cons.injEq, and_true] at hcs
    simp only [if_true] at hmm
    subst hmm
    have key : ∀ i, ∃ s : SlN, i < m → s.In ∧ ∃ b off, x = ⟨b, off, none⟩ ∧ b < w.heap.size ∧ SlotAt w w.heap.size b (off + i * 4) s := by
      intro i
      by_cases hk : i < m
      · obtain ⟨cs, hc, ht'⟩ := hi i hk
        obtain ⟨cnt, B, nt, tc, L, mac, C, nc, cc, M, rfl, h1, h2, ⟨hB, rfl, hBI, hB1, hB2⟩, ⟨hC, rfl, hCI, hC1, hC2⟩⟩ := slot_of_cells hT ht'
        obtain ⟨_, _, hat⟩ := World.cells?_some hc
        rw [h4] at hat
        obtain ⟨cs0, hc0, _⟩ := hi 0 (by omega)
        obtain ⟨_, hl0, hat0⟩ := World.cells?_some hc0
        rw [h4] at hat0 hl0
        have hz : w.cell? (x.add 0) ≠ none := by
          have := hat0 0 (by omega)
          rw [Deep.add_add, Nat.zero_mul, Nat.zero_add, List.getElem?_eq_getElem (by omega)] at this
          rw [this]; simp
        have hcell : ∀ j u, j < 4 → ([.int .i64 cnt, .slice B L.length tc, .int .i64 mac, .slice C M.length cc] : List Value)[j]? = some u → ∃ b off, x = ⟨b, off, none⟩ ∧ b < w.heap.size ∧ w.cell? ⟨b, off + (i * 4 + j), none⟩ = some u := by
          intro j u hj hu
          have := hat j hj
          rw [Deep.add_add, hu] at this
          exact cell_atV this hz
        obtain ⟨b, off, rfl, hb, k0⟩ := hcell 0 _ (by omega) rfl
        have kk : ∀ j u, j < 4 → ([.int .i64 cnt, .slice B L.length tc, .int .i64 mac, .slice C M.length cc] : List Value)[j]? = some u → w.cell? ⟨b, off + i * 4 + j, none⟩ = some u := by
          intro j u hj hu
          obtain ⟨b', off', e, _, hc⟩ := hcell j u hj hu
          simp only [Addr.mk.injEq] at e
          obtain ⟨rfl, rfl, -⟩ := e
          rw [Nat.add_assoc]; exact hc
        exact ⟨⟨cnt, L, mac, M⟩, fun _ => ⟨⟨h1, h2, hBI, hCI, hB1, hC1⟩, b, off, rfl, hb, B, tc, C, cc, kk 0 _ (by omega) rfl, kk 1 _ (by omega) rfl, kk 2 _ (by omega) rfl, kk 3 _ (by omega) rfl, hB, hC⟩⟩
      · exact ⟨default, fun h => absurd h hk⟩
    obtain ⟨z, hz⟩ := Classical.axiomOfChoice key
    have hlen : ((List.range l).map z).length = l := by simp
    have hget : ∀ i, i < l → ((List.range l).map z).getD i default = z i := fun i hi => by rw [List.getD_eq_getElem?_getD]; simp [hi]
    refine ⟨some x, l, m, (List.range l).map z, hcs, fun i hi => ?_, hlen, fun i hi => ?_, Nat.le_trans hl hm, hl⟩
    · rw [hlen] at hi
      rw [hget i hi]
      obtain ⟨_, b, off, rfl, hb, hs⟩ := hz i (by omega)
      exact ⟨b, off, rfl, hb, hs⟩
    · rw [hlen] at hi
      rw [hget i hi]
      exact (hz i (by omega)).1
theorem isslots_of_trod {t e : TypeId} {a : Option Addr} {len cap : Nat} {d : DataW H} {p : List MemPlace} (ht : P.underlying t = some (.slice e)) (hT : SlotTy P e) (h : DataW.Trod enc P w base (fun _ => true) held t (.slice a len cap) d p) :
    ∃ S, IsSlots w a len cap S := by
  obtain ⟨fuel, hf⟩ := h
  have h2 : DataW.trod enc P w base (fun _ => true) held fuel t [.slice a len cap] = some (d, p) := by simpa [Value.cells] using hf
  obtain ⟨a', len', cap', S, e1, r⟩ := isslots_of_part ht hT h2
  simp only [Value.slice.injEq] at e1
  obtain ⟨rfl, rfl, rfl⟩ := e1
  exact ⟨S, r⟩
end
end Go.Proofs.Ytjbnknccnhdapaa.Mx
namespace Go.Proofs.Ytjbnknccnhdapaa.Mx
open Go.ChangeShapes Go.WideShapes Go.ChangeAt Go.RowKit
set_option linter.unusedVariables false
theorem szInt64S_no (A : Option Addr) (n cap : Nat) (w : World) (hn : n ≤ maxLen) (h : 1048576 < n) :
    Calls Try.prog 18 #[.slice A n cap, .int .i64 1048576] w fun e w' => e = .returned (.int .i64 (-1)) ∧ w = w' := by
  unfold maxLen at hn
  have hs : (1048576 : Int) - n < 0 := by omega
  go_enter Try.func18, Try.ntmps18
  go_wp2
  go_ret
  exact ⟨rfl, rfl⟩
theorem szInt64S_yes (A : Option Addr) (n cap : Nat) (w : World) (h : n ≤ 1048576) :
    Calls Try.prog 18 #[.slice A n cap, .int .i64 1048576] w fun e w' => e = .returned (.int .i64 (1048576 - n)) ∧ w = w' := by
  have hs : ¬ (1048576 : Int) - n < 0 := by omega
  go_enter Try.func18, Try.ntmps18
  go_wp2
  go_ret
  exact ⟨rfl, rfl⟩
theorem szPlan_no (key : Int) (A : Option Addr) (n cap : Nat) (w : World) (hn : n ≤ maxLen) (h : 1048576 < n) :
    Calls Try.prog 5 #[.agg #[.int .i64 key, .slice A n cap], .int .i64 1048576] w fun e w' => e = .returned (.int .i64 (-1)) ∧ Below w.heap.size w w' := by
  have C := Lib.hid (fun w => szInt64S_no A n cap w hn h)
  clear hn h
  go_enter Try.func5, Try.ntmps5
  go_wp2_with fail
  refine (C.out _).mono ?_; rintro e w' ⟨rfl, rfl⟩
  go_wp2_with fail
  go_ret
  exact ⟨rfl, box_below w _⟩
theorem szPlan_yes (key : Int) (A : Option Addr) (n cap : Nat) (w : World) (h : n ≤ 1048576) :
    Calls Try.prog 5 #[.agg #[.int .i64 key, .slice A n cap], .int .i64 1048576] w fun e w' => e = .returned (.int .i64 (1048576 - n)) ∧ Below w.heap.size w w' := by
  have C := Lib.hid (fun w => szInt64S_yes A n cap w h)
  have hs : ¬ (1048576 : Int) - n < 0 := by omega
  clear h
  go_enter Try.func5, Try.ntmps5
  go_wp2_with fail
  refine (C.out _).mono ?_; rintro e w' ⟨rfl, rfl⟩
  go_wp2_with fail
  go_ret
  exact ⟨rfl, box_below w _⟩
def NewRow (w : World) (g : Nat) (l : List Int) : Prop := g < w.heap.size ∧ ∀ i, i < l.length → w.cell? ⟨g, i, none⟩ = some (.int .i64 (l.getD i 0))
theorem NewRow.ints {w : World} {g : Nat} {l : List Int} (h : NewRow w g l) : Ints w .i64 w.heap.size (some ⟨g, 0, none⟩) l := fun i hi => ⟨g, 0, rfl, h.1, by rw [Nat.zero_add]; exact h.2 i hi⟩
theorem NewRow.set {w : World} {g p : Nat} {l : List Int} (h : NewRow w g l) (hne : p ≠ g) (i : Nat) (v : Value) : NewRow (w.setCell ⟨p, i, none⟩ v) g l :=
  ⟨by simpa using h.1, fun k hk => (gb_set (gb_refl w (some p)) i v).cell (h.2 k hk) (by intro e; injection e with e; exact hne e.symm)⟩
theorem toInt64S_new (A : Option Addr) (l : List Int) (cap : Nat) (w : World) (hn : l.length ≤ 1048576) (hA : Ints w .i64 w.heap.size A l) :
    Calls Try.prog 23 #[.slice A l.length cap] w fun e w' => ∃ g, e = .returned (.slice (some ⟨g, 0, none⟩) l.length l.length) ∧ w.heap.size ≤ g ∧ Below w.heap.size w w' ∧ NewRow w' g l := by
  refine (toInt64S_calls A l cap w hn hA).mono ?_
  rintro e w' ⟨rfl, hb, hr⟩
  exact ⟨_, rfl, Nat.le_refl _, hb, hr.lt, fun i hi => hr.cell hi⟩
theorem toPlan_calls (key : Int) (A : Option Addr) (l : List Int) (cap : Nat) (w : World) (hn : l.length ≤ 1048576) (hA : Ints w .i64 w.heap.size A l) :
    Calls Try.prog 8 #[.agg #[.int .i64 key, .slice A l.length cap]] w fun e w' => ∃ C, e = .returned (.agg #[.int .i64 key, .slice C l.length l.length]) ∧ Ints w' .i64 w'.heap.size C l ∧ Below w.heap.size w w' := by
  have T := Lib.hid (fun w hA => toInt64S_new A l cap w hn hA)
  have k0 := (((Kept.refl w).new 24 #[.int .i64 key, .slice A l.length cap]).new 34 #[.int .i64 0, .slice none 0 0]).new 34 #[.int .i64 key, .slice none 0 0]
  rw [show ((w.alloc (.cells #[.int .i64 key, .slice A l.length cap] 24)).alloc (.cells #[.int .i64 0, .slice none 0 0] 34)).heap.size = w.heap.size + 1 + 1 by simp, show (w.alloc (.cells #[.int .i64 key, .slice A l.length cap] 24)).heap.size = w.heap.size + 1 by simp] at k0
  have HA := Lib.hid ((hA.below k0.1 (Nat.le_refl _)).more k0.1.size)
  have K0 := Lib.hid k0
  clear hA k0
  go_enter Try.func8, Try.ntmps8
  go_wp2_with fail
  refine (T.out _ HA.out).mono ?_; rintro e w1 ⟨g, rfl, hg, b1, h1⟩
  have hg2 : w.heap.size + 1 + 1 ≠ g := by simp at hg; omega
  have hg1 : w.heap.size + 1 ≠ g := by simp at hg; omega
  clear hg
  have k1 := K0.out.below b1
  have c20 : w1.cell? ⟨w.heap.size + 1 + 1, 0, none⟩ = some (.int .i64 key) := k1.cell (List.mem_cons_self ..) 0
  have c21 : w1.cell? ⟨w.heap.size + 1 + 1, 1, none⟩ = some (.slice none 0 0) := k1.cell (List.mem_cons_self ..) 1
  have c10 : w1.cell? ⟨w.heap.size + 1, 0, none⟩ = some (.int .i64 0) := k1.tail.cell (List.mem_cons_self ..) 0
  have c11 : w1.cell? ⟨w.heap.size + 1, 1, none⟩ = some (.slice none 0 0) := k1.tail.cell (List.mem_cons_self ..) 1
  have f2 := k1.frozen (List.mem_cons_self ..) 1
  have f10 := k1.tail.frozen (List.mem_cons_self ..) 0
  have f11 := k1.tail.frozen (List.mem_cons_self ..) 1
  have K1 := Lib.hid k1
  have H1 := Lib.hid h1
  clear b1 h1 k1
  go_wp2_with fail
  have k2 := K1.out.set (by intro x hx; simp at hx; rcases hx with rfl | rfl <;> simp <;> omega) 1 (.slice (some ⟨g, 0, none⟩) l.length l.length)
  have k3 := (k2.tail.set (by intro x hx; simp at hx; subst hx; simp) 0 (.int .i64 key)).set (by intro x hx; simp at hx; subst hx; simp) 1 (.slice (some ⟨g, 0, none⟩) l.length l.length)
  have h3 := ((H1.out.set hg2 1 (.slice (some ⟨g, 0, none⟩) l.length l.length)).set hg1 0 (.int .i64 key)).set hg1 1 (.slice (some ⟨g, 0, none⟩) l.length l.length)
  generalize World.setCell _ _ _ = w4 at k3 h3 ⊢
  have d0 : w4.cell? ⟨w.heap.size + 1, 0, none⟩ = some (.int .i64 key) := k3.cell (List.mem_cons_self ..) 0
  have d1 : w4.cell? ⟨w.heap.size + 1, 1, none⟩ = some (.slice (some ⟨g, 0, none⟩) l.length l.length) := k3.cell (List.mem_cons_self ..) 1
  exact bodyPost_ret (v := .agg #[.int .i64 key, .slice (some ⟨g, 0, none⟩) l.length l.length]) (by simp [results, Try.results8, go_sem, d0, d1]) rfl ⟨_, rfl, h3.ints, k3.1⟩
theorem eqPlan_same (key : Int) (A C : Option Addr) (l : List Int) (cap cap' : Nat) (w : World) (hn : l.length ≤ 1048576) (hA : Ints w .i64 w.heap.size A l) (hC : Ints w .i64 w.heap.size C l) :
    Calls Try.prog 11 #[.agg #[.int .i64 key, .slice A l.length cap], .agg #[.int .i64 key, .slice C l.length cap']] w fun e w' => e = .returned (.bool true) ∧ Below w.heap.size w w' := by
  have E := Lib.hid (fun w hA hC => eqInt64S_same A C l cap cap' w hn hA hC)
  have HA := Lib.hid ((hA.boxed (.cells #[.int .i64 key, .slice A l.length cap] 34)).boxed (.cells #[.int .i64 key, .slice C l.length cap'] 34))
  have HC := Lib.hid ((hC.boxed (.cells #[.int .i64 key, .slice A l.length cap] 34)).boxed (.cells #[.int .i64 key, .slice C l.length cap'] 34))
  clear hA hC
  go_enter Try.func11, Try.ntmps11
  go_wp2_with fail
  refine (E.out _ HA.out HC.out).mono ?_; rintro e w1 ⟨rfl, b1⟩
  have B1 := Lib.hid ((((Below.refl w.heap.size w).alloc (Nat.le_refl _) (.cells #[.int .i64 key, .slice A l.length cap] 34)).alloc (by simp) (.cells #[.int .i64 key, .slice C l.length cap'] 34)).trans (b1.mono (by simp; omega)))
  clear b1
  go_wp2_with fail
  go_ret
  exact ⟨rfl, B1.out⟩
end Go.Proofs.Ytjbnknccnhdapaa.Mx
namespace Go.Proofs.Ytjbnknccnhdapaa.Mx
open Go.RowKit
set_option linter.unusedVariables false
def AndC (P Q : (Nat → Bool) → (Nat → Value) → World → Prop) (D : Nat → Bool) (γ : Nat → Value) (u : World) : Prop := P D γ u ∧ Q D γ u
def HoldC (k q : Nat) (P : Value → World → Prop) (D : Nat → Bool) (γ : Nat → Value) (u : World) : Prop := D k = true → D q = false → P (γ k) u
namespace HoldC
variable {k q j : Nat} {P : Value → World → Prop} {D : Nat → Bool} {γ γ' : Nat → Value} {u u' : World} {x : Value}
theorem loc (ha : ∀ i, D i = true → γ i = γ' i) (h : HoldC k q P D γ u) : HoldC k q P D γ' u := fun hk hq => by rw [← ha k hk]; exact h hk hq
theorem start : HoldC k q P (fun _ => false) γ u := fun h => by cases h
theorem step (hP : ∀ v u u', Below u.heap.size u u' → P v u → P v u') (h : HoldC k q P D γ u) (hb : Below u.heap.size u u') (hj : j ≠ k) : HoldC k q P (setD D j) (setG γ j x) u' := by
  intro hk hq
  have hjk : ¬ k = j := fun e => hj e.symm
  have hk' : D k = true := by unfold setD at hk; simpa [hjk] using hk
  have hq' : D q = false := by unfold setD at hq; simp at hq; exact hq.2
  unfold setG
  rw [if_neg hjk]
  exact hP _ _ _ hb (h hk' hq')
theorem put (hx : P x u') : HoldC k q P (setD D k) (setG γ k x) u' := fun _ _ => by unfold setG; rw [if_pos rfl]; exact hx
theorem used : HoldC k q P (setD D q) γ' u' := fun _ h => by unfold setD at h; simp at h
end HoldC
end Go.Proofs.Ytjbnknccnhdapaa.Mx

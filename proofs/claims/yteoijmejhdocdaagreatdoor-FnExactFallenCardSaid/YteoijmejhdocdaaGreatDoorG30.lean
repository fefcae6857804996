import Derived.Test.YteoijmejhdocdaaGreatDoorG03
import Derived.Test.YteoijmejhdocdaaGreatDoorG04
import Derived.OpenShut
import Derived.ShutString
import Derived.ChangeOld
import Derived.Lib.SmallJoins
import Derived.ChangeArms
import Derived.Test.YteoijmejhdocdaaGreatDoorG05
import Derived.Test.YteoijmejhdocdaaGreatDoorG06
import Derived.Deep.Slices
import Derived.Deep.Fields
import Derived.Test.YteoijmejhdocdaaGreatDoorG07
import Derived.Test.YteoijmejhdocdaaGreatDoorG19
import Derived.Test.YteoijmejhdocdaaGreatDoorG20
import Derived.Test.YteoijmejhdocdaaGreatDoorRows
import Derived.LaidLaws
import Derived.LaidMore
import Derived.LaidHandle
import Derived.Test.YteoijmejhdocdaaGreatDoorG21
namespace Go.Proofs.YteoijmejhdocdaaGreatDoor.Mx
open Go.ChangeShapes Go.WideShapes Go.ChangeAt Go.RowKit
set_option linter.unusedVariables false
def IsRow (k : IntKind) (w : World) (a : Option Addr) (len cap : Nat) (zs : List Int) : Prop :=
  (a = none ∧ len = 0 ∧ cap = 0 ∧ zs = []) ∨
  ∃ x, a = some x ∧ len ≤ cap ∧ cap ≤ maxLen ∧ zs.length = cap ∧ (∀ i, i < zs.length → w.cell? (x.add i) = some (.int k (zs.getD i 0))) ∧ ∀ n ∈ zs, (Lit.int k n).wf = true
section
variable {H : Type} {enc : TypeId × Value → H} {P : Program} {w : World} {base : Nat} {spare : Nat → Bool} {held : Bool}
theorem int_of_trod {t : TypeId} {n : Nat} {v : Value} {y : DataW H × List MemPlace} (ht : P.underlying t = some (.int .i64)) (h : DataW.trod enc P w base spare held n t [v] = some y) : ∃ a, v = .int .i64 a ∧ I64 a := by
  obtain ⟨z, hc, hx, hw⟩ := DataW.trod_int ht h
  simp at hc
  exact ⟨z, hc, bounds_i64 hw⟩
end
open Go.ChangeShapes Go.WideShapes Go.ChangeAt Go.RowKit Go.Joins Go.Deep
section
variable {H : Type} {enc : TypeId × Value → H} {P : Program} {w : World} {base : Nat} {spare : Nat → Bool} {held : Bool}
theorem bool_of_trod {t : TypeId} {n : Nat} {v : Value} {y : DataW H × List MemPlace} (ht : P.underlying t = some .bool) (h : DataW.trod enc P w base spare held n t [v] = some y) : ∃ a, v = .bool a := by
  obtain ⟨b, hc, -⟩ := DataW.trod_bool ht h
  exact ⟨b, by simpa using hc⟩
end
def FitK (k : Option TypeDesc) (v : Value) : Prop := (k = some (.int .i64) ∧ ∃ n, v = .int .i64 n ∧ I64 n) ∨ (k = some .bool ∧ ∃ b, v = .bool b)
def FlatV (w : World) (n : Nat) (a : Option Addr) (len : Nat) (z : Nat → Value) : Prop :=
  ∀ k, k < len * n → ∃ b off, a = some ⟨b, off, none⟩ ∧ b < w.heap.size ∧ w.cell? ⟨b, off + k, none⟩ = some (z k)
theorem cell_atV {w : World} {x : Addr} {k : Nat} {v : Value} (h : w.cell? (x.add k) = some v) (h0 : w.cell? (x.add 0) ≠ none) : ∃ b off, x = ⟨b, off, none⟩ ∧ b < w.heap.size ∧ w.cell? ⟨b, off + k, none⟩ = some v := by
  obtain ⟨b, off, spot⟩ := x
  have hspot : spot = none := by
    cases hc : w.cell? ((⟨b, off, spot⟩ : Addr).add 0) with
    | none => exact absurd hc h0
    | some u => simpa [Addr.add] using World.cell?_spot hc
  subst hspot
  have hc : w.cell? ⟨b, off + k, none⟩ = some v := by
    by_cases hk : k = 0
    · subst hk; simpa [Addr.add] using h
    · simpa [Addr.add, hk] using h
  exact ⟨b, off, rfl, lt_of_cell hc, hc⟩
section
variable {H : Type} {enc : TypeId × Value → H} {P : Program} {w : World} {base : Nat} {held : Bool}
theorem flatV_of {t e : TypeId} {fs : Array Field} {n0 : Nat} {v : Value} {y : DataW H × List MemPlace} (ht : P.underlying t = some (.slice e)) (he : P.underlying e = some (.struct fs)) (hone : Deep.oneCellFields P fs = true) (hC : P.cellsOf e = fs.size)
    (hk : ∀ f ∈ fs.toList, P.underlying f.type = some (.int .i64) ∨ P.underlying f.type = some .bool) (h : DataW.trod enc P w base (fun _ => true) held n0 t [v] = some y) :
    ∃ a len cap, v = .slice a len cap ∧ len ≤ cap ∧ len ≤ maxLen ∧ ∃ z : Nat → Value, FlatV w fs.size a len z ∧ ∀ k, k < len * fs.size → ∀ f, fs[k % fs.size]? = some f → FitK (P.underlying f.type) (z k) := by
  rcases Deep.open_slice ht h with ⟨hcs, _⟩ | ⟨x, l, c, m, n, D, Pl, hcs, _, hl, hm, hmm, _, hi⟩
  · simp only [List.cons.injEq, and_true] at hcs
    exact ⟨none, 0, 0, hcs, Nat.le_refl _, Nat.zero_le _, fun _ => undef, fun k hk => absurd hk (by simp), fun k hk => absurd hk (by simp)⟩
  · simp only [List.cons.injEq, and_true] at hcs
    simp only [if_true] at hmm
    subst hmm
    have key : ∀ k, ∃ u : Value, k < m * fs.size → w.cell? (x.add k) = some u ∧ ∀ f, fs[k % fs.size]? = some f → FitK (P.underlying f.type) u := by
      intro k
      by_cases hk2 : k < m * fs.size
      · have hn : 0 < fs.size := by rcases Nat.eq_zero_or_pos fs.size with h0 | h0; · simp [h0] at hk2
                                    · exact h0
        have hj : k % fs.size < fs.size := Nat.mod_lt _ hn
        have hik : k / fs.size < m := Nat.div_lt_of_lt_mul (by rwa [Nat.mul_comm])
        obtain ⟨cs, hc, ht'⟩ := hi _ hik
        obtain ⟨ys, n', _, _, hlen, hyl, hfld⟩ := DataW.trod_struct he ht'
        obtain ⟨_, _, hat⟩ := World.cells?_some hc
        have hfj : fs[k % fs.size]? = some fs[k % fs.size] := Array.getElem?_eq_getElem hj
        obtain ⟨ho, h1⟩ := Deep.hone_of hone _ _ hfj
        have hT := hfld _ _ hfj
        rw [ho, h1] at hT
        have hlt : k % fs.size < cs.length := by omega
        rw [List.drop_eq_getElem_cons hlt, List.take_succ_cons, List.take_zero, List.getElem?_eq_getElem (by omega)] at hT
        refine ⟨cs[k % fs.size], fun _ => ⟨?_, fun f hf => ?_⟩⟩
        · have hcell := hat _ (show k % fs.size < P.cellsOf e by omega)
          rw [Deep.add_add, hC, Nat.mul_comm, Nat.div_add_mod] at hcell
          rw [hcell, List.getElem?_eq_getElem hlt]
        · rw [hfj] at hf
          injection hf with hf
          subst hf
          rcases hk _ (Array.getElem_mem_toList hj) with h2 | h2
          · obtain ⟨v, hv, hv64⟩ := int_of_trod h2 hT
            exact .inl ⟨h2, v, hv, hv64⟩
          · obtain ⟨b, hb⟩ := bool_of_trod h2 hT
            exact .inr ⟨h2, b, hb⟩
      · exact ⟨undef, fun h => absurd h hk2⟩
    obtain ⟨z, hz⟩ := Classical.axiomOfChoice key
    have hkm : ∀ k, k < l * fs.size → k < m * fs.size := fun k hk => Nat.lt_of_lt_of_le hk (Nat.mul_le_mul_right _ hl)
    refine ⟨some x, l, m, hcs, hl, Nat.le_trans hl hm, z, fun k hk => ?_, fun k hk => (hz k (hkm k hk)).2⟩
    obtain ⟨b, off, rfl, hb, hc⟩ := cell_atV (hz k (hkm k hk)).1 (by rw [(hz 0 (by have := hkm k hk; omega)).1]; simp)
    exact ⟨b, off, rfl, hb, hc⟩
end
def boolOf : Value → Bool | .bool b => b | _ => false
def truOf (z : Nat → Value) (len : Nat) : List Tru := (List.range len).map fun i => ⟨intOf (z (i * 8)), intOf (z (i * 8 + 1)), intOf (z (i * 8 + 2)), intOf (z (i * 8 + 3)), intOf (z (i * 8 + 4)), intOf (z (i * 8 + 5)), intOf (z (i * 8 + 6)), boolOf (z (i * 8 + 7))⟩
theorem truOf_len (z : Nat → Value) (len : Nat) : (truOf z len).length = len := by simp [truOf]
theorem truOf_get (z : Nat → Value) {len i : Nat} (h : i < len) : (truOf z len).getD i default = ⟨intOf (z (i * 8)), intOf (z (i * 8 + 1)), intOf (z (i * 8 + 2)), intOf (z (i * 8 + 3)), intOf (z (i * 8 + 4)), intOf (z (i * 8 + 5)), intOf (z (i * 8 + 6)), boolOf (z (i * 8 + 7))⟩ := by
  rw [List.getD_eq_getElem?_getD]; simp [truOf, h]
theorem int_fit {k : Option TypeDesc} {v : Value} (h : FitK k v) (hk : k = some (.int .i64)) : v = .int .i64 (intOf v) ∧ I64 (intOf v) := by
  rcases h with ⟨_, n, rfl, hn⟩ | ⟨h2, _⟩
  · exact ⟨rfl, hn⟩
  · rw [hk] at h2; cases h2
theorem bool_fit {k : Option TypeDesc} {v : Value} (h : FitK k v) (hk : k = some .bool) : v = .bool (boolOf v) := by
  rcases h with ⟨h2, _⟩ | ⟨_, b, rfl⟩
  · rw [hk] at h2; cases h2
  · rfl
def IsTrus (w : World) (a : Option Addr) (len cap : Nat) (L : List Tru) : Prop := Trs w w.heap.size a L ∧ L.length = len ∧ TrusI L ∧ len ≤ maxLen ∧ len ≤ cap
theorem istrus_of_flat {P : Program} {w : World} {a : Option Addr} {len cap : Nat} {fs : Array Field} (hks : fs.toList.map (fun f => P.underlying f.type) = [some (.int .i64), some (.int .i64), some (.int .i64), some (.int .i64), some (.int .i64), some (.int .i64), some (.int .i64), some .bool])
    (h : len ≤ cap ∧ len ≤ maxLen ∧ ∃ z : Nat → Value, FlatV w fs.size a len z ∧ ∀ k, k < len * fs.size → ∀ f, fs[k % fs.size]? = some f → FitK (P.underlying f.type) (z k)) : ∃ L, IsTrus w a len cap L := by
  obtain ⟨hl, hm, z, hz, hf⟩ := h
  have h8 : fs.size = 8 := by have := congrArg List.length hks; simpa using this
  rw [h8] at hz hf
  have hf2 : ∀ i j q, i < len → j < 8 → ([some (.int .i64), some (.int .i64), some (.int .i64), some (.int .i64), some (.int .i64), some (.int .i64), some (.int .i64), some .bool] : List (Option TypeDesc))[j]? = some q → FitK q (z (i * 8 + j)) := by
    intro i j q hi hj hq
    rw [← hks, List.getElem?_map] at hq
    obtain ⟨f, h1, h2⟩ := Option.map_eq_some_iff.1 hq
    rw [← h2]
    refine hf (i * 8 + j) (by omega) f ?_
    rw [show (i * 8 + j) % 8 = j by omega]
    simpa using h1
  refine ⟨truOf z len, fun i hi => ?_, truOf_len _ _, fun i hi => ?_, hm, hl⟩
  · rw [truOf_len] at hi
    rw [truOf_get z hi]
    obtain ⟨b, off, rfl, hb, c0⟩ := hz (i * 8) (by omega)
    refine ⟨b, off, rfl, hb, fun j hj => ?_⟩
    have hc : w.cell? ⟨b, off + (i * 8 + j), none⟩ = some (z (i * 8 + j)) := by
      obtain ⟨b', off', e1, _, c⟩ := hz (i * 8 + j) (by omega)
      simp only [Option.some.injEq, Addr.mk.injEq] at e1
      obtain ⟨rfl, rfl, -⟩ := e1
      exact c
    rw [show off + i * 8 + j = off + (i * 8 + j) by omega, hc]
    match j, hj with
    | 0, _ => exact congrArg some (int_fit (hf2 i 0 _ hi (by omega) rfl) rfl).1
    | 1, _ => exact congrArg some (int_fit (hf2 i 1 _ hi (by omega) rfl) rfl).1
    | 2, _ => exact congrArg some (int_fit (hf2 i 2 _ hi (by omega) rfl) rfl).1
    | 3, _ => exact congrArg some (int_fit (hf2 i 3 _ hi (by omega) rfl) rfl).1
    | 4, _ => exact congrArg some (int_fit (hf2 i 4 _ hi (by omega) rfl) rfl).1
    | 5, _ => exact congrArg some (int_fit (hf2 i 5 _ hi (by omega) rfl) rfl).1
    | 6, _ => exact congrArg some (int_fit (hf2 i 6 _ hi (by omega) rfl) rfl).1
    | 7, _ => exact congrArg some (bool_fit (hf2 i 7 _ hi (by omega) rfl) rfl)
  · rw [truOf_len] at hi
    rw [truOf_get z hi]
    have g := fun j q hj hq => hf2 i j q hi hj hq
    exact ⟨(int_fit (g 0 _ (by omega) rfl) rfl).2, (int_fit (g 1 _ (by omega) rfl) rfl).2, (int_fit (g 2 _ (by omega) rfl) rfl).2, (int_fit (g 3 _ (by omega) rfl) rfl).2, (int_fit (g 4 _ (by omega) rfl) rfl).2, (int_fit (g 5 _ (by omega) rfl) rfl).2, (int_fit (g 6 _ (by omega) rfl) rfl).2⟩
theorem istrus_of_field {P : Program} {w : World} {v : Value} {fs : Array Field} (hks : fs.toList.map (fun f => P.underlying f.type) = [some (.int .i64), some (.int .i64), some (.int .i64), some (.int .i64), some (.int .i64), some (.int .i64), some (.int .i64), some .bool])
    (h : ∃ a len cap, v = .slice a len cap ∧ len ≤ cap ∧ len ≤ maxLen ∧ ∃ z : Nat → Value, FlatV w fs.size a len z ∧ ∀ k, k < len * fs.size → ∀ f, fs[k % fs.size]? = some f → FitK (P.underlying f.type) (z k)) : ∃ a len cap L, v = .slice a len cap ∧ IsTrus w a len cap L := by
  obtain ⟨a, len, cap, e, r⟩ := h
  obtain ⟨L, hL⟩ := istrus_of_flat hks r
  exact ⟨a, len, cap, L, e, hL⟩
def celOf (z : Nat → Value) (len : Nat) : List Ce := (List.range len).map fun i => (intOf (z (i * 2)), intOf (z (i * 2 + 1)))
theorem celOf_len (z : Nat → Value) (len : Nat) : (celOf z len).length = len := by simp [celOf]
theorem celOf_get (z : Nat → Value) {len i : Nat} (h : i < len) : (celOf z len).getD i default = (intOf (z (i * 2)), intOf (z (i * 2 + 1))) := by
  rw [List.getD_eq_getElem?_getD]; simp [celOf, h]
def IsCels (w : World) (a : Option Addr) (len cap : Nat) (L : List Ce) : Prop := Cls w w.heap.size a L ∧ L.length = len ∧ (∀ i, i < L.length → I64 (L.getD i default).1 ∧ I64 (L.getD i default).2) ∧ len ≤ maxLen ∧ len ≤ cap
theorem iscels_of_flat {P : Program} {w : World} {a : Option Addr} {len cap : Nat} {fs : Array Field} (hks : fs.toList.map (fun f => P.underlying f.type) = [some (.int .i64), some (.int .i64)])
    (h : len ≤ cap ∧ len ≤ maxLen ∧ ∃ z : Nat → Value, FlatV w fs.size a len z ∧ ∀ k, k < len * fs.size → ∀ f, fs[k % fs.size]? = some f → FitK (P.underlying f.type) (z k)) : ∃ L, IsCels w a len cap L := by
  obtain ⟨hl, hm, z, hz, hf⟩ := h
  have h8 : fs.size = 2 := by have := congrArg List.length hks; simpa using this
  rw [h8] at hz hf
  have hf2 : ∀ i j q, i < len → j < 2 → ([some (.int .i64), some (.int .i64)] : List (Option TypeDesc))[j]? = some q → FitK q (z (i * 2 + j)) := by
    intro i j q hi hj hq
    rw [← hks, List.getElem?_map] at hq
    obtain ⟨f, h1, h2⟩ := Option.map_eq_some_iff.1 hq
    rw [← h2]
    refine hf (i * 2 + j) (by omega) f ?_
    rw [show (i * 2 + j) % 2 = j by omega]
    simpa using h1
  refine ⟨celOf z len, fun i hi => ?_, celOf_len _ _, fun i hi => ?_, hm, hl⟩
  · rw [celOf_len] at hi
    rw [celOf_get z hi]
    obtain ⟨b, off, rfl, hb, c0⟩ := hz (i * 2) (by omega)
    refine ⟨b, off, rfl, hb, fun j hj => ?_⟩
    have hc : w.cell? ⟨b, off + (i * 2 + j), none⟩ = some (z (i * 2 + j)) := by
      obtain ⟨b', off', e1, _, c⟩ := hz (i * 2 + j) (by omega)
      simp only [Option.some.injEq, Addr.mk.injEq] at e1
      obtain ⟨rfl, rfl, -⟩ := e1
      exact c
    rw [show off + i * 2 + j = off + (i * 2 + j) by omega, hc]
    match j, hj with
    | 0, _ => exact congrArg some (int_fit (hf2 i 0 _ hi (by omega) rfl) rfl).1
    | 1, _ => exact congrArg some (int_fit (hf2 i 1 _ hi (by omega) rfl) rfl).1
  · rw [celOf_len] at hi
    rw [celOf_get z hi]
    exact ⟨(int_fit (hf2 i 0 _ hi (by omega) rfl) rfl).2, (int_fit (hf2 i 1 _ hi (by omega) rfl) rfl).2⟩
theorem iscels_of_field {P : Program} {w : World} {v : Value} {fs : Array Field} (hks : fs.toList.map (fun f => P.underlying f.type) = [some (.int .i64), some (.int .i64)])
    (h : ∃ a len cap, v = .slice a len cap ∧ len ≤ cap ∧ len ≤ maxLen ∧ ∃ z : Nat → Value, FlatV w fs.size a len z ∧ ∀ k, k < len * fs.size → ∀ f, fs[k % fs.size]? = some f → FitK (P.underlying f.type) (z k)) : ∃ a len cap L, v = .slice a len cap ∧ IsCels w a len cap L := by
  obtain ⟨a, len, cap, e, r⟩ := h
  obtain ⟨L, hL⟩ := iscels_of_flat hks r
  exact ⟨a, len, cap, L, e, hL⟩
theorem kinds_of {P : Program} {fs : Array Field} {l : List (Option TypeDesc)} (hks : fs.toList.map (fun f => P.underlying f.type) = l) (hl : ∀ k ∈ l, k = some (.int .i64) ∨ k = some .bool) : ∀ f ∈ fs.toList, P.underlying f.type = some (.int .i64) ∨ P.underlying f.type = some .bool :=
  fun f hf => hl _ (hks ▸ List.mem_map_of_mem (f := fun f : Field => P.underlying f.type) hf)
section
variable {H : Type} {enc : TypeId × Value → H} {P : Program} {w : World} {base : Nat} {held : Bool}
theorem istrus_of_part {t e : TypeId} {fs : Array Field} {n0 : Nat} {v : Value} {y : DataW H × List MemPlace} (ht : P.underlying t = some (.slice e)) (he : P.underlying e = some (.struct fs)) (hone : Deep.oneCellFields P fs = true) (hC : P.cellsOf e = fs.size)
    (hks : fs.toList.map (fun f => P.underlying f.type) = [some (.int .i64), some (.int .i64), some (.int .i64), some (.int .i64), some (.int .i64), some (.int .i64), some (.int .i64), some .bool]) (h : DataW.trod enc P w base (fun _ => true) held n0 t [v] = some y) : ∃ a len cap L, v = .slice a len cap ∧ IsTrus w a len cap L :=
  istrus_of_field hks (flatV_of ht he hone hC (kinds_of hks (by simp)) h)
theorem iscels_of_part {t e : TypeId} {fs : Array Field} {n0 : Nat} {v : Value} {y : DataW H × List MemPlace} (ht : P.underlying t = some (.slice e)) (he : P.underlying e = some (.struct fs)) (hone : Deep.oneCellFields P fs = true) (hC : P.cellsOf e = fs.size)
    (hks : fs.toList.map (fun f => P.underlying f.type) = [some (.int .i64), some (.int .i64)]) (h : DataW.trod enc P w base (fun _ => true) held n0 t [v] = some y) : ∃ a len cap L, v = .slice a len cap ∧ IsCels w a len cap L :=
  iscels_of_field hks (flatV_of ht he hone hC (kinds_of hks (by simp)) h)
end
def SlotTy (P : Program) (t : TypeId) : Prop := ∃ (f0 f1 g0 g1 g2 : Field) (eT eC : TypeId) (fsT fsC : Array Field),
  P.underlying t = some (.struct #[f0, f1]) ∧ (f0.offset = 0 ∧ P.cellsOf f0.type = 3 ∧ f1.offset = 3 ∧ P.cellsOf f1.type = 1) ∧ P.cellsOf t = 4 ∧
  P.underlying f0.type = some (.struct #[g0, g1, g2]) ∧ (g0.offset = 0 ∧ P.cellsOf g0.type = 1 ∧ g1.offset = 1 ∧ P.cellsOf g1.type = 1 ∧ g2.offset = 2 ∧ P.cellsOf g2.type = 1) ∧
  P.underlying g0.type = some (.int .i64) ∧ P.underlying g2.type = some (.int .i64) ∧
  (P.underlying g1.type = some (.slice eT) ∧ P.underlying eT = some (.struct fsT) ∧ Deep.oneCellFields P fsT = true ∧ P.cellsOf eT = fsT.size ∧ fsT.toList.map (fun f => P.underlying f.type) = [some (.int .i64), some (.int .i64), some (.int .i64), some (.int .i64), some (.int .i64), some (.int .i64), some (.int .i64), some .bool]) ∧
  (P.underlying f1.type = some (.slice eC) ∧ P.underlying eC = some (.struct fsC) ∧ Deep.oneCellFields P fsC = true ∧ P.cellsOf eC = fsC.size ∧ fsC.toList.map (fun f => P.underlying f.type) = [some (.int .i64), some (.int .i64)])
theorem four_cells {cs : List Value} (h : cs.length = 4) : ∃ a b c d, cs = [a, b, c, d] := by
  match cs, h with
  | [a, b, c, d], _ => exact ⟨a, b, c, d, rfl⟩
theorem two_some {α : Type} {xs : List α} (h : xs.length = 2) : ∃ x y, xs[0]? = some x ∧ xs[1]? = some y := by
  match xs, h with
  | [x, y], _ => exact ⟨x, y, rfl, rfl⟩
theorem three_some {α : Type} {xs : List α} (h : xs.length = 3) : ∃ x y z, xs[0]? = some x ∧ xs[1]? = some y ∧ xs[2]? = some z := by
  match xs, h with
  | [x, y, z], _ => exact ⟨x, y, z, rfl, rfl, rfl⟩
section
variable {H : Type} {enc : TypeId × Value → H} {P : Program} {w : World} {base : Nat} {held : Bool}
theorem slot_of_cells {t : TypeId} {n0 : Nat} {cs : List Value} {y : DataW H × List MemPlace} (hT : SlotTy P t) (h : DataW.trod enc P w base (fun _ => true) held n0 t cs = some y) :
    ∃ (cnt : Int) (B : Option Addr) (nt tc : Nat) (L : List Tru) (mac : Int) (C : Option Addr) (nc cc : Nat) (M : List Ce), cs = [.int .i64 cnt, .slice B nt tc, .int .i64 mac, .slice C nc cc] ∧ I64 cnt ∧ I64 mac ∧ IsTrus w B nt tc L ∧ IsCels w C nc cc M := by
  obtain ⟨f0, f1, g0, g1, g2, eT, eC, fsT, fsC, hu, ⟨o0, c0, o1, c1⟩, h4, hs, ⟨p0, d0, p1, d1, p2, d2⟩, i0, i2, ⟨u1, u2, u3, u4, u5⟩, ⟨v1, v2, v3, v4, v5⟩⟩ := hT
  obtain ⟨xs, n1, _, _, hlen, hxl, hf⟩ := DataW.trod_struct hu h
  rw [h4] at hlen
  obtain ⟨a, b, c, d, rfl⟩ := four_cells hlen
  obtain ⟨x0, x1, e0, e1⟩ := two_some (show xs.length = 2 from hxl)
  have q0 := hf 0 f0 rfl
  have q1 := hf 1 f1 rfl
  rw [o0, c0, e0] at q0
  rw [o1, c1, e1] at q1
  simp only [List.drop_zero, List.take_succ_cons, List.take_zero, List.drop_succ_cons] at q0 q1
  obtain ⟨ys, n2, _, _, _, hyl, hg⟩ := DataW.trod_struct hs q0
  obtain ⟨y0, y1, y2, r0, r1, r2⟩ := three_some (show ys.length = 3 from hyl)
  have t0 := hg 0 g0 rfl
  have t1 := hg 1 g1 rfl
  have t2 := hg 2 g2 rfl
  rw [p0, d0, r0] at t0
  rw [p1, d1, r1] at t1
  rw [p2, d2, r2] at t2
  simp only [List.drop_zero, List.take_succ_cons, List.take_zero, List.drop_succ_cons] at t0 t1 t2
  obtain ⟨cnt, rfl, hc⟩ := int_of_trod i0 t0
  obtain ⟨mac, rfl, hm⟩ := int_of_trod i2 t2
  obtain ⟨B, nt, tc, L, rfl, hB⟩ := istrus_of_part u1 u2 u3 u4 u5 t1
  obtain ⟨C, nc, cc, M, rfl, hC⟩ := iscels_of_part v1 v2 v3 v4 v5 q1
  exact ⟨cnt, B, nt, tc, L, mac, C, nc, cc, M, rfl, hc, hm, hB, hC⟩
def SlN.In (s : SlN) : Prop := I64 s.count ∧ I64 s.mac ∧ TrusI s.trusts ∧ (∀ i, i < s.cells.length → I64 (s.cells.getD i default).1 ∧ I64 (s.cells.getD i default).2) ∧ s.trusts.length ≤ maxLen ∧ s.cells.length ≤ maxLen
def IsSlots (w : World) (a : Option Addr) (len cap : Nat) (S : List SlN) : Prop := Slots w w.heap.size a S ∧ S.length = len ∧ (∀ i, i < S.length → (S.getD i default).In) ∧ len ≤ maxLen ∧ len ≤ cap
theorem isslots_of_part {t e : TypeId} {n0 : Nat} {v : Value} {y : DataW H × List MemPlace} (ht : P.underlying t = some (.slice e)) (hT : SlotTy P e) (h : DataW.trod enc P w base (fun _ => true) held n0 t [v] = some y) :
    ∃ a len cap S, v = .slice a len cap ∧ IsSlots w a len cap S := by
  have h4 : P.cellsOf e = 4 := by obtain ⟨_, _, _, _, _, _, _, _, _, _, _, h4, _⟩ := hT; exact h4
  rcases Deep.open_slice ht h with ⟨hcs, _⟩ | ⟨x, l, c, m, n, D, Pl, hcs, _, hl, hm, hmm, _, hi⟩
  · simp only [List.cons.injEq, and_true] at hcs
    exact ⟨none, 0, 0, [], hcs, fun i hi => by simp at hi, rfl, fun i hi => by simp at hi, Nat.zero_le _, Nat.le_refl _⟩
  · simp only [List.cons.injEq, and_true] at hcs
    simp only [if_true] at hmm
    subst hmm
    have key : ∀ i, ∃ s : SlN, i < m → s.In ∧ ∃ b off, x = ⟨b, off, none⟩ ∧ b < w.heap.size ∧ SlotAt w w.heap.size b (off + i * 4) s := by
      intro i
      by_cases hk : i < m
      · obtain ⟨cs, hc, ht'⟩ := hi i hk
        obtain ⟨cnt, B, nt, tc, L, mac, C, nc, cc, M, rfl, h1, h2, ⟨hB, rfl, hBI, hB1, hB2⟩, ⟨hC, rfl, hCI, hC1, hC2⟩⟩ := slot_of_cells hT ht'
        obtain ⟨_, _, hat⟩ := World.cells?_some hc
        rw [h4] at hat
        obtain ⟨cs0, hc0, _⟩ := hi 0 (by omega)
        obtain ⟨_, hl0, hat0⟩ := World.cells?_some hc0
        rw [h4] at hat0 hl0
        have hz : w.cell? (x.add 0) ≠ none := by
          have := hat0 0 (by omega)
          rw [Deep.add_add, Nat.zero_mul, Nat.zero_add, List.getElem?_eq_getElem (by omega)] at this
          rw [this]; simp
        have hcell : ∀ j u, j < 4 → ([.int .i64 cnt, .slice B L.length tc, .int .i64 mac, .slice C M.length cc] : List Value)[j]? = some u → ∃ b off, x = ⟨b, off, none⟩ ∧ b < w.heap.size ∧ w.cell? ⟨b, off + (i * 4 + j), none⟩ = some u := by
          intro j u hj hu
          have := hat j hj
          rw [Deep.add_add, hu] at this
          exact cell_atV this hz
        obtain ⟨b, off, rfl, hb, k0⟩ := hcell 0 _ (by omega) rfl
        have kk : ∀ j u, j < 4 → ([.int .i64 cnt, .slice B L.length tc, .int .i64 mac, .slice C M.length cc] : List Value)[j]? = some u → w.cell? ⟨b, off + i * 4 + j, none⟩ = some u := by
          intro j u hj hu
          obtain ⟨b', off', e, _, hc⟩ := hcell j u hj hu
          simp only [Addr.mk.injEq] at e
          obtain ⟨rfl, rfl, -⟩ := e
          rw [Nat.add_assoc]; exact hc
        exact ⟨⟨cnt, L, mac, M⟩, fun _ => ⟨⟨h1, h2, hBI, hCI, hB1, hC1⟩, b, off, rfl, hb, B, tc, C, cc, kk 0 _ (by omega) rfl, kk 1 _ (by omega) rfl, kk 2 _ (by omega) rfl, kk 3 _ (by omega) rfl, hB, hC⟩⟩
      · exact ⟨default, fun h => absurd h hk⟩
    obtain ⟨z, hz⟩ := Classical.axiomOfChoice key
    have hlen : ((List.range l).map z).length = l := by simp
    have hget : ∀ i, i < l → ((List.range l).map z).getD i default = z i := fun i hi => by rw [List.getD_eq_getElem?_getD]; simp [hi]
    refine ⟨some x, l, m, (List.range l).map z, hcs, fun i hi => ?_, hlen, fun i hi => ?_, Nat.le_trans hl hm, hl⟩
    · rw [hlen] at hi
      rw [hget i hi]
      obtain ⟨_, b, off, rfl, hb, hs⟩ := hz i (by omega)
      exact ⟨b, off, rfl, hb, hs⟩
    · rw [hlen] at hi
      rw [hget i hi]
      exact (hz i (by omega)).1
end
section
variable {H : Type} {enc : TypeId × Value → H} {P : Program} {w : World} {base : Nat} {held : Bool}
theorem row_of_field {t e : TypeId} {k : IntKind} {n : Nat} {v : Value} {y : DataW H × List MemPlace} (ht : P.underlying t = some (.slice e)) (he : P.underlying e = some (.int k)) (hc : P.cellsOf e = 1)
    (h : DataW.trod enc P w base (fun _ => true) held n t [v] = some y) : ∃ a len cap zs, v = .slice a len cap ∧ IsRow k w a len cap zs := by
  rcases open_ints ht he hc h with ⟨hcs, _⟩ | ⟨x, l, c, zs, hcs, _, hl, hm, hz, _, hcell, hwz⟩
  · simp only [List.cons.injEq, and_true] at hcs
    exact ⟨none, 0, 0, [], hcs, .inl ⟨rfl, rfl, rfl, rfl⟩⟩
  · simp only [List.cons.injEq, and_true] at hcs
    exact ⟨some x, l, c, zs, hcs, .inr ⟨_, rfl, hl, hm, by simpa using hz, hcell, hwz⟩⟩
end
theorem IsRow.list {k : IntKind} {w : World} {a : Option Addr} {len cap : Nat} {zs : List Int} (h : IsRow k w a len cap zs) : ∃ l : List Int, len = l.length ∧ Ints w k w.heap.size a l ∧ l.length ≤ maxLen ∧ l.length ≤ cap := by
  rcases h with ⟨rfl, rfl, rfl, rfl⟩ | ⟨x, rfl, hl, hm, hz, hcell, hwz⟩
  · exact ⟨[], rfl, Ints.nil, by simp [maxLen], Nat.le_refl _⟩
  · have hlen : (zs.take len).length = len := by rw [List.length_take]; omega
    exact ⟨zs.take len, hlen.symm, ints_of_row (by omega) hcell, by omega, by omega⟩
def VolTy (P : Program) (t : TypeId) : Prop := ∃ (f0 f1 f2 f3 f4 p0 p1 : Field) (eI eT eC eS : TypeId) (fsT fsC : Array Field),
  P.underlying t = some (.struct #[f0, f1, f2, f3, f4]) ∧ (f0.offset = 0 ∧ P.cellsOf f0.type = 2 ∧ f1.offset = 2 ∧ P.cellsOf f1.type = 1 ∧ f2.offset = 3 ∧ P.cellsOf f2.type = 1 ∧ f3.offset = 4 ∧ P.cellsOf f3.type = 1 ∧ f4.offset = 5 ∧ P.cellsOf f4.type = 1) ∧ P.cellsOf t = 6 ∧
  P.underlying f0.type = some (.struct #[p0, p1]) ∧ (p0.offset = 0 ∧ P.cellsOf p0.type = 1 ∧ p1.offset = 1 ∧ P.cellsOf p1.type = 1) ∧ P.underlying p0.type = some (.int .i64) ∧
  (P.underlying p1.type = some (.slice eI) ∧ P.underlying eI = some (.int .i64) ∧ P.cellsOf eI = 1) ∧ P.underlying f4.type = some (.int .i64) ∧
  (P.underlying f1.type = some (.slice eT) ∧ P.underlying eT = some (.struct fsT) ∧ Deep.oneCellFields P fsT = true ∧ P.cellsOf eT = fsT.size ∧ fsT.toList.map (fun f => P.underlying f.type) = [some (.int .i64), some (.int .i64), some (.int .i64), some (.int .i64), some (.int .i64), some (.int .i64), some (.int .i64), some .bool]) ∧
  (P.underlying f2.type = some (.slice eC) ∧ P.underlying eC = some (.struct fsC) ∧ Deep.oneCellFields P fsC = true ∧ P.cellsOf eC = fsC.size ∧ fsC.toList.map (fun f => P.underlying f.type) = [some (.int .i64), some (.int .i64)]) ∧
  (P.underlying f3.type = some (.slice eS) ∧ SlotTy P eS)
theorem six_cells {cs : List Value} (h : cs.length = 6) : ∃ a b c d e f, cs = [a, b, c, d, e, f] := by
  match cs, h with
  | [a, b, c, d, e, f], _ => exact ⟨a, b, c, d, e, f, rfl⟩
theorem five_some {α : Type} {xs : List α} (h : xs.length = 5) : ∃ x y z u v, xs[0]? = some x ∧ xs[1]? = some y ∧ xs[2]? = some z ∧ xs[3]? = some u ∧ xs[4]? = some v := by
  match xs, h with
  | [x, y, z, u, v], _ => exact ⟨x, y, z, u, v, rfl, rfl, rfl, rfl, rfl⟩
section
variable {H : Type} {enc : TypeId × Value → H} {P : Program} {w : World} {base : Nat} {held : Bool}
theorem vol_of_cells {t : TypeId} {n0 : Nat} {cs : List Value} {y : DataW H × List MemPlace} (hT : VolTy P t) (h : DataW.trod enc P w base (fun _ => true) held n0 t cs = some y) :
    ∃ (key : Int) (A : Option Addr) (na ca : Nat) (zs : List Int) (B : Option Addr) (nt tc : Nat) (L : List Tru) (C : Option Addr) (nc cc : Nat) (M : List Ce) (D : Option Addr) (ns sc : Nat) (S : List SlN) (cnt : Int),
      cs = [.int .i64 key, .slice A na ca, .slice B nt tc, .slice C nc cc, .slice D ns sc, .int .i64 cnt] ∧ I64 key ∧ IsRow .i64 w A na ca zs ∧ IsTrus w B nt tc L ∧ IsCels w C nc cc M ∧ IsSlots w D ns sc S ∧ I64 cnt := by
  obtain ⟨f0, f1, f2, f3, f4, p0, p1, eI, eT, eC, eS, fsT, fsC, hu, ⟨o0, c0, o1, c1, o2, c2, o3, c3, o4, c4⟩, h6, hs, ⟨q0, d0, q1, d1⟩, i0, ⟨r1, r2, r3⟩, i4, ⟨u1, u2, u3, u4, u5⟩, ⟨v1, v2, v3, v4, v5⟩, ⟨s1, s2⟩⟩ := hT
  obtain ⟨xs, n1, _, _, hlen, hxl, hf⟩ := DataW.trod_struct hu h
  rw [h6] at hlen
  obtain ⟨a, b, c, d, e, f, rfl⟩ := six_cells hlen
  obtain ⟨x0, x1, x2, x3, x4, e0, e1, e2, e3, e4⟩ := five_some (show xs.length = 5 from hxl)
  have g0 := hf 0 f0 rfl
  have g1 := hf 1 f1 rfl
  have g2 := hf 2 f2 rfl
  have g3 := hf 3 f3 rfl
  have g4 := hf 4 f4 rfl
  rw [o0, c0, e0] at g0
  rw [o1, c1, e1] at g1
  rw [o2, c2, e2] at g2
  rw [o3, c3, e3] at g3
  rw [o4, c4, e4] at g4
  simp only [List.drop_zero, List.take_succ_cons, List.take_zero, List.drop_succ_cons] at g0 g1 g2 g3 g4
  obtain ⟨ys, n2, _, _, _, hyl, hg⟩ := DataW.trod_struct hs g0
  obtain ⟨y0, y1, w0, w1⟩ := two_some (show ys.length = 2 from hyl)
  have t0 := hg 0 p0 rfl
  have t1 := hg 1 p1 rfl
  rw [q0, d0, w0] at t0
  rw [q1, d1, w1] at t1
  simp only [List.drop_zero, List.take_succ_cons, List.take_zero, List.drop_succ_cons] at t0 t1
  obtain ⟨key, rfl, hk⟩ := int_of_trod i0 t0
  obtain ⟨A, na, ca, zs, rfl, hA⟩ := row_of_field r1 r2 r3 t1
  obtain ⟨B, nt, tc, L, rfl, hB⟩ := istrus_of_part u1 u2 u3 u4 u5 g1
  obtain ⟨C, nc, cc, M, rfl, hC⟩ := iscels_of_part v1 v2 v3 v4 v5 g2
  obtain ⟨D, ns, sc, S, rfl, hD⟩ := isslots_of_part s1 s2 g3
  obtain ⟨cnt, rfl, hc⟩ := int_of_trod i4 g4
  exact ⟨key, A, na, ca, zs, B, nt, tc, L, C, nc, cc, M, D, ns, sc, S, cnt, rfl, hk, hA, hB, hC, hD, hc⟩
theorem vol_of_trod {r : Reach} {b0 : Nat} {t : TypeId} {v : Value} {d : DataW H} {p : List MemPlace} (hT : VolTy P t) (hv : Value.okWide P w r b0 t v) (h : DataW.Trod enc P w base (fun _ => true) held t v d p) :
    ∃ (key : Int) (A : Option Addr) (na ca : Nat) (zs : List Int) (B : Option Addr) (nt tc : Nat) (L : List Tru) (C : Option Addr) (nc cc : Nat) (M : List Ce) (D : Option Addr) (ns sc : Nat) (S : List SlN) (cnt : Int),
      v = .agg #[.int .i64 key, .slice A na ca, .slice B nt tc, .slice C nc cc, .slice D ns sc, .int .i64 cnt] ∧ I64 key ∧ IsRow .i64 w A na ca zs ∧ IsTrus w B nt tc L ∧ IsCels w C nc cc M ∧ IsSlots w D ns sc S ∧ I64 cnt := by
  have hu : ∃ fs, P.underlying t = some (.struct fs) := by obtain ⟨_, _, _, _, _, _, _, _, _, _, _, _, _, hu, _⟩ := hT; exact ⟨_, hu⟩
  obtain ⟨fs, hu⟩ := hu
  obtain ⟨cs, rfl, -⟩ := okWide_struct hu hv
  obtain ⟨fuel, hf⟩ := h
  obtain ⟨key, A, na, ca, zs, B, nt, tc, L, C, nc, cc, M, D, ns, sc, S, cnt, e, r⟩ := vol_of_cells hT hf
  refine ⟨key, A, na, ca, zs, B, nt, tc, L, C, nc, cc, M, D, ns, sc, S, cnt, ?_, r⟩
  have e2 : cs.toList = [.int .i64 key, .slice A na ca, .slice B nt tc, .slice C nc cc, .slice D ns sc, .int .i64 cnt] := by simpa [Value.cells] using e
  rw [show cs = cs.toList.toArray from by simp, e2]
end
theorem law_vol {w : World} {key : Int} {A : Option Addr} {na ca : Nat} {zs : List Int} {B : Option Addr} {nt tc : Nat} {L : List Tru} {C : Option Addr} {nc cc : Nat} {M : List Ce} {D : Option Addr} {ns sc : Nat} {S : List SlN} {cnt : Int}
    (h1 : IsRow .i64 w A na ca zs) (h2 : IsTrus w B nt tc L) (h3 : IsCels w C nc cc M) (h4 : IsSlots w D ns sc S) (h5 : I64 cnt) :
    ∃ x : VolG, LawVol w x (.agg #[.int .i64 key, .slice A na ca, .slice B nt tc, .slice C nc cc, .slice D ns sc, .int .i64 cnt]) := by
  obtain ⟨l, rfl, hA, hn, hcap⟩ := h1.list
  obtain ⟨hB, rfl, hBi, hBm, hBc⟩ := h2
  obtain ⟨hC, rfl, hCi, hCm, hCc⟩ := h3
  obtain ⟨hD, rfl, hDi, hDm, hDc⟩ := h4
  refine ⟨⟨key, l, L, M, S, cnt⟩, ⟨A, ca, B, tc, C, cc, D, sc, rfl, hA, hB, hC, hD, hcap, hDc⟩, fun hx => ⟨hBi, fun i hi => ?_, h5⟩, hn, hBm, hCm, hDm, fun i hi => ?_⟩
  · obtain ⟨a, b, c, -, -, -⟩ := hDi i hi
    obtain ⟨e, f⟩ := hx.2.2.2.2 i hi
    exact ⟨⟨e, f, c, a⟩, b⟩
  · obtain ⟨-, -, -, -, e, f⟩ := hDi i hi
    exact ⟨e, f⟩
open Go.ChangeShapes Go.WideShapes Go.RowKit
theorem xStar : "*" ++ "errors.errorString" = "*errors.errorString" := by decide
theorem xRowES (u : TypeId) (h : Tryz.prog.typeName? 3 u = some "*errors.errorString") : u = 280 :=
  typeName_ptr_named (nm := "errors.errorString") (by rw [xStar]; kernel_rfl) (by kernel_rfl) (by decide) u (by rw [xStar]; exact h)
theorem xCellsE : Tryz.prog.cellsOf 302 = 1 := by kernel_rfl
theorem xCellsS : Tryz.prog.cellsOf 9 = 1 := by kernel_rfl
theorem xG0 : Tryz.prog.globalNamed "loop.example/g00775/impl.errBad" = some 0 := by kernel_rfl
theorem xT0 : (Tryz.prog.globals[0]?).map (·.type) = some 137 := by kernel_rfl
set_option maxRecDepth 100000 in
theorem sentinel_one {W : World} {n : String} {g : Nat} {text : List UInt8} {r : List (String × DataW Unit)} {ps : List MemPlace} (hg : Tryz.prog.globalNamed n = some g) (ht : (Tryz.prog.globals[g]?).map (·.type) = some 137)
    (h : DataW.LaidVars Tryz.prog W ((n, .iface "*errors.errorString" (.ptr (.agg [.lit (.string text)]))) :: r) ps)
    (hrows : ∀ b off, MemPlace.cell b off ∈ ps → (∃ c t, W.heap[b]? = some (.cells c t (0, 0))) ∧ ∀ u v, W.cell? ⟨b, off, none⟩ = some (.iface u v) → Value.okWide Tryz.prog W .any 0 u v) :
    ∃ a q n0, W.cell? ⟨g, 0, none⟩ = some (.iface 280 (.pointer (some a))) ∧ ps = n0 ++ MemPlace.row a 1 ++ q ∧ (∃ c t, W.heap[a.block]? = some (.cells c t (0, 0))) ∧ DataW.LaidVars Tryz.prog W r q := by
  obtain ⟨g', t', cs, f, p, q, hg', ht', hv, hd, hr, rfl⟩ := h
  obtain rfl := Option.some.inj (hg.symm.trans hg')
  obtain rfl := Option.some.inj (ht.symm.trans ht')
  obtain ⟨l0⟩ := cs
  have ok0 : ∀ u v, l0 = [.iface u v] → Value.okWide Tryz.prog W .any 0 u v := fun u v e => by
    subst e
    exact (hrows g 0 (by simp [MemPlace.row])).2 u v (by simpa using World.var?_cell hg' hv 0)
  obtain ⟨a0, s0, rfl, hc0, hs0, hz0, rfl⟩ := errorString_of_trod Tryz.underlying137 xRowES Tryz.underlying280 Tryz.underlying302 rfl rfl Tryz.underlying9 xCellsE xCellsS hd ok0
  exact ⟨a0, q, _, by simpa using World.var?_cell hg' hv 0, rfl, (hrows a0.block a0.off (by simp [MemPlace.row])).1, hr⟩
def Laid1 : List (String × DataW Unit) := [("loop.example/g00775/impl.errBad", Rows.laid_loop_example_g00775_impl_errBad)]
set_option maxRecDepth 100000 in
theorem bad_of_laid {W : World} (h : laidMetH Tryz.prog Laid1 W) : ∃ a0, Bad1 W a0 := by
  have h' : laidMet Tryz.prog [("loop.example/g00775/impl.errBad", Rows.laid_loop_example_g00775_impl_errBad)] W := h
  obtain ⟨ps, hv, hnd, hrows⟩ := h'
  obtain ⟨a0, q0, n0, c0, -, -, -⟩ := sentinel_one xG0 xT0 hv hrows
  exact ⟨a0, c0⟩
theorem trodVars_one {H : Type} {enc : TypeId × Value → H} {P : Program} {W : World} {sp : Nat → Bool} {n0 : String} {gs : List (DataW H)} {ps : List MemPlace} (h : DataW.TrodVars enc P W sp [n0] gs ps) : ∃ d0, gs = [d0] := by
  match gs, h with
  | [], h => exact h.elim
  | [a], _ => exact ⟨a, rfl⟩
  | _ :: _ :: _, h => obtain ⟨_, _, _, _, _, _, _, _, _, _, h, _⟩ := h; exact h.elim
theorem door_met1 (os : Os) (args : Array Value) : laidMetH Tryz.prog Laid1 ((World.doorLaid Tryz.prog 400 os).forCall (fun _ _ => 0) ⟨#[], args, []⟩).memory :=
  show laidMet Tryz.prog Laid1 _ from laidMet_of_run' 8 (by kernel_rfl) (by kernel_rfl)
end Go.Proofs.YteoijmejhdocdaaGreatDoor.Mx

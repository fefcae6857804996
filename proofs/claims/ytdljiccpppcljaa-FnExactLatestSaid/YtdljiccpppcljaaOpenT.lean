/- WHAT AN ARGUMENT THAT IS A SLICE OF STRUCTS OF int64 FIELDS READS AS: its cells one after the other; a slice of triples. -/
import Derived.Test.YtdljiccpppcljaaOpen
import Derived.Test.YtdljiccpppcljaaTripB
import Derived.Deep.Slices
import Derived.Deep.Fields
namespace Go.Proofs.Ytdljiccpppcljaa.Mx
open Go.ChangeShapes Go.WideShapes Go.ChangeAt Go.RowKit
set_option linter.unusedVariables false

/-- Each element of a slice at address a has n cells; together they read as z. -/
def Flat (w : World) (n : Nat) (a : Option Addr) (len : Nat) (z : Nat → Int) : Prop :=
  ∀ k, k < len * n → ∃ b off, a = some ⟨b, off, none⟩ ∧ b < w.heap.size ∧ w.cell? ⟨b, off + k, none⟩ = some (.int .i64 (z k))

theorem cell_at {w : World} {x : Addr} {k : Nat} {v : Int} (h : w.cell? (x.add k) = some (.int .i64 v)) (h0 : w.cell? (x.add 0) ≠ none) : ∃ b off, x = ⟨b, off, none⟩ ∧ b < w.heap.size ∧ w.cell? ⟨b, off + k, none⟩ = some (.int .i64 v) := by
  obtain ⟨b, off, spot⟩ := x
  have hspot : spot = none := by
    cases hc : w.cell? ((⟨b, off, spot⟩ : Addr).add 0) with
    | none => exact absurd hc h0
    | some u => simpa [Addr.add] using World.cell?_spot hc
  subst hspot
  have hc : w.cell? ⟨b, off + k, none⟩ = some (.int .i64 v) := by
    by_cases hk : k = 0
    · subst hk; simpa [Addr.add] using h
    · simpa [Addr.add, hk] using h
  exact ⟨b, off, rfl, lt_of_cell hc, hc⟩

section
variable {H : Type} {enc : TypeId × Value → H} {P : Program} {w : World} {base : Nat} {held : Bool}
theorem flat_of_trod {t e : TypeId} {fs : Array Field} {a : Option Addr} {len cap : Nat} {d : DataW H} {p : List MemPlace} (ht : P.underlying t = some (.slice e)) (he : P.underlying e = some (.struct fs)) (hone : Deep.oneCellFields P fs = true) (hC : P.cellsOf e = fs.size)
    (hint : ∀ f ∈ fs.toList, P.underlying f.type = some (.int .i64)) (h : DataW.Trod enc P w base (fun _ => true) held t (.slice a len cap) d p) :
    ∃ z : Nat → Int, (∀ k, I64 (z k)) ∧ len ≤ maxLen ∧ Flat w fs.size a len z := by
  obtain ⟨fuel, hf⟩ := h
  rcases Deep.open_slice ht hf with ⟨hcs, _⟩ | ⟨x, l, c, m, n, D, Pl, hcs, _, hl, hm, hmm, _, hi⟩
  · simp [Value.cells] at hcs
    obtain ⟨rfl, rfl, rfl⟩ := hcs
    exact ⟨fun _ => 0, fun _ => ⟨by show (-9223372036854775808 : Int) ≤ 0; omega, by show (0 : Int) ≤ 9223372036854775807; omega⟩, Nat.zero_le _, fun k hk => absurd hk (by simp)⟩
  · simp [Value.cells] at hcs
    obtain ⟨rfl, rfl, rfl⟩ := hcs
    simp only [if_true] at hmm
    subst hmm
    have key : ∀ k, ∃ v : Int, I64 v ∧ (k < m * fs.size → w.cell? (x.add k) = some (.int .i64 v)) := by
      intro k
      by_cases hk : k < m * fs.size
      · have hn : 0 < fs.size := by rcases Nat.eq_zero_or_pos fs.size with h0 | h0; · simp [h0] at hk
                                    · exact h0
        have hj : k % fs.size < fs.size := Nat.mod_lt _ hn
        have hik : k / fs.size < m := Nat.div_lt_of_lt_mul (by rwa [Nat.mul_comm])
        obtain ⟨cs, hc, ht'⟩ := hi _ hik
        obtain ⟨ys, n', _, _, hlen, hyl, hfld⟩ := DataW.trod_struct he ht'
        obtain ⟨_, _, hat⟩ := World.cells?_some hc
        have hfj : fs[k % fs.size]? = some fs[k % fs.size] := Array.getElem?_eq_getElem hj
        obtain ⟨ho, h1⟩ := Deep.hone_of hone _ _ hfj
        have hT := hfld _ _ hfj
        rw [ho, h1] at hT
        have hlt : k % fs.size < cs.length := by omega
        rw [List.drop_eq_getElem_cons hlt, List.take_succ_cons, List.take_zero, List.getElem?_eq_getElem (by omega)] at hT
        obtain ⟨v, hv, hv64⟩ := int_of_trod (hint _ (Array.getElem_mem_toList hj)) hT
        refine ⟨v, hv64, fun _ => ?_⟩
        have hcell := hat _ (show k % fs.size < P.cellsOf e by omega)
        rw [Deep.add_add, hC, Nat.mul_comm, Nat.div_add_mod] at hcell
        rw [hcell, List.getElem?_eq_getElem hlt, hv]
      · exact ⟨0, ⟨by omega, by omega⟩, fun h => absurd h hk⟩
    obtain ⟨z, hz⟩ := Classical.axiomOfChoice key
    refine ⟨z, fun k => (hz k).1, Nat.le_trans hl hm, fun k hk => ?_⟩
    have hkm : k < m * fs.size := Nat.lt_of_lt_of_le hk (Nat.mul_le_mul_right _ hl)
    obtain ⟨b, off, rfl, hb, hc⟩ := cell_at ((hz k).2 hkm) (by rw [(hz 0).2 (by omega)]; simp)
    exact ⟨b, off, rfl, hb, hc⟩
end

/-- The triples of a row of numbers. -/
def triOf (z : Nat → Int) (len : Nat) : List Tri := (List.range len).map fun i => (z (i * 3), z (i * 3 + 1), z (i * 3 + 2))
theorem triOf_len (z : Nat → Int) (len : Nat) : (triOf z len).length = len := by simp [triOf]
theorem triOf_get (z : Nat → Int) {len i : Nat} (h : i < len) : (triOf z len).getD i (0, 0, 0) = (z (i * 3), z (i * 3 + 1), z (i * 3 + 2)) := by
  rw [List.getD_eq_getElem?_getD]; simp [triOf, h]
theorem Flat.tris {w : World} {a : Option Addr} {len : Nat} {z : Nat → Int} (h : Flat w 3 a len z) : Tris w w.heap.size a (triOf z len) := by
  intro i hi
  rw [triOf_len] at hi
  rw [triOf_get z hi]
  obtain ⟨b, off, rfl, hb, c0⟩ := h (i * 3) (by omega)
  obtain ⟨b1, off1, e1, _, c1⟩ := h (i * 3 + 1) (by omega)
  obtain ⟨b2, off2, e2, _, c2⟩ := h (i * 3 + 2) (by omega)
  simp only [Option.some.injEq, Addr.mk.injEq] at e1 e2
  obtain ⟨rfl, rfl, -⟩ := e1
  obtain ⟨rfl, rfl, -⟩ := e2
  exact ⟨b, off, rfl, hb, c0, c1, c2⟩
/-- A slice of triples that came in. -/
def IsTris (w : World) (a : Option Addr) (len : Nat) (L : List Tri) : Prop := Tris w w.heap.size a L ∧ L.length = len ∧ TriI L ∧ len ≤ maxLen
theorem istris_of_flat {w : World} {a : Option Addr} {len : Nat} (h : ∃ z : Nat → Int, (∀ k, I64 (z k)) ∧ len ≤ maxLen ∧ Flat w 3 a len z) : ∃ L, IsTris w a len L := by
  obtain ⟨z, hz, hm, hf⟩ := h
  refine ⟨triOf z len, hf.tris, triOf_len _ _, fun i hi => ?_, hm⟩
  rw [triOf_len] at hi
  rw [triOf_get z hi]
  exact ⟨hz _, hz _, hz _⟩
end Go.Proofs.Ytdljiccpppcljaa.Mx

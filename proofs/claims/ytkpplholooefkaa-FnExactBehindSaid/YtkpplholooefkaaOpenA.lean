/- WHAT A STRUCT ARGUMENT READS AS, whatever the number of its one-cell fields: its cells, each of which reads as its field. -/
import Derived.Test.YtkpplholooefkaaOpen
import Derived.Lib.SmallJoins
import Derived.ChangeArms
namespace Go.Proofs.Ytkpplholooefkaa.Mx
open Go.ChangeShapes Go.WideShapes Go.ChangeAt Go.RowKit Go.Joins Go.Deep
set_option linter.unusedVariables false

section
variable {H : Type} {enc : TypeId × Value → H} {P : Program} {w : World} {base : Nat} {spare : Nat → Bool} {held : Bool}
theorem agg_of_trod {r : Reach} {b0 : Nat} {t : TypeId} {fs : Array Field} {v : Value} {d : DataW H} {p : List MemPlace} (hs : P.underlying t = some (.struct fs)) (hone : oneCellFields P fs = true) (hC : P.cellsOf t = fs.size)
    (hv : Value.okWide P w r b0 t v) (h : DataW.Trod enc P w base spare held t v d p) :
    ∃ cs : Array Value, v = .agg cs ∧ cs.size = fs.size ∧ ∀ (j : Nat) (f : Field), fs[j]? = some f → ∃ x n y, cs[j]? = some x ∧ DataW.trod enc P w base spare held n f.type [x] = some y := by
  obtain ⟨cs, rfl, hsz⟩ := okWide_struct hs hv
  obtain ⟨fuel, hf⟩ := h
  obtain ⟨ys, n, hn, hy, hlen, hyl, hg⟩ := DataW.trod_struct hs hf
  refine ⟨cs, rfl, hsz.trans hC, fun j f hj => ?_⟩
  have hjc : j < cs.size := by have := (Array.getElem?_eq_some_iff.1 hj).1; omega
  have hjy : j < ys.length := by rw [hyl]; exact (Array.getElem?_eq_some_iff.1 hj).1
  have h1 := hg j f hj
  rw [(hone_of hone j f hj).1, (hone_of hone j f hj).2] at h1
  have hd : ((Value.cells (.agg cs)).toList.drop j).take 1 = [cs[j]] := by
    rw [show Value.cells (.agg cs) = cs by simp [Value.cells], List.drop_eq_getElem_cons (by simpa using hjc)]
    simp
  rw [hd, List.getElem?_eq_getElem hjy] at h1
  exact ⟨_, _, _, Array.getElem?_eq_getElem hjc, h1⟩
theorem bool_of_trod {t : TypeId} {n : Nat} {v : Value} {y : DataW H × List MemPlace} (ht : P.underlying t = some .bool) (h : DataW.trod enc P w base spare held n t [v] = some y) : ∃ a, v = .bool a := by
  obtain ⟨b, hc, -⟩ := DataW.trod_bool ht h
  exact ⟨b, by simpa using hc⟩
/-- Eight cells, one by one. -/
theorem eight {cs : Array Value} {x0 x1 x2 x3 x4 x5 x6 x7 : Value} (hz : cs.size = 8) (h0 : cs[0]? = some x0) (h1 : cs[1]? = some x1) (h2 : cs[2]? = some x2) (h3 : cs[3]? = some x3) (h4 : cs[4]? = some x4) (h5 : cs[5]? = some x5) (h6 : cs[6]? = some x6) (h7 : cs[7]? = some x7) : cs = #[x0, x1, x2, x3, x4, x5, x6, x7] := by
  apply Array.ext_getElem?
  intro i
  rcases Nat.lt_or_ge i 8 with h | h
  · match i, h with
    | 0, _ => simpa using h0
    | 1, _ => simpa using h1
    | 2, _ => simpa using h2
    | 3, _ => simpa using h3
    | 4, _ => simpa using h4
    | 5, _ => simpa using h5
    | 6, _ => simpa using h6
    | 7, _ => simpa using h7
  · rw [Array.getElem?_eq_none (by omega), Array.getElem?_eq_none (by simpa using h)]
end
end Go.Proofs.Ytkpplholooefkaa.Mx

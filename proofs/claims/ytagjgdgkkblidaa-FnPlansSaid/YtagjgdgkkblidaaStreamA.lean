/- CONTRACTS OF impl.isValue, spec.l2Value, impl.StreamOf, spec.StreamOf: what each call answers; nothing that was there is written. -/
import Derived.Test.YtagjgdgkkblidaaMixD
import Derived.Outline
namespace Go.Proofs.Ytagjgdgkkblidaa.Mx
open Go.ChangeShapes Go.WideShapes Go.ChangeAt Go.RowKit
set_option linter.unusedVariables false

/-- A number of type int64. -/
def I64 (x : Int) : Prop := -9223372036854775808 ≤ x ∧ x ≤ 9223372036854775807
/-- What chapter 2 asks of StreamOf. -/
noncomputable def streamOf (key at_ time : Int) : Int := if mixOf key [1, at_, time] < 0 then -1 else mixOf key [1, at_, time] % 10007
/-- Is it a value? -/
def isVal (v : Int) : Prop := 0 ≤ v ∧ v ≤ 10006

theorem i64s_three {x y z : Int} (a : I64 x) (b : I64 y) (c : I64 z) : I64s [x, y, z] := I64s.cons a.1 a.2 (I64s.cons b.1 b.2 (I64s.cons c.1 c.2 I64s.nil))

/-- What is mixed: -1, or from 0 to MixMod less 1. -/
theorem mixOf_bd (key : Int) (l : List Int) : -1 ≤ mixOf key l ∧ mixOf key l ≤ 4611686018427387903 := by
  by_cases hk : 1 ≤ key ∧ key ≤ 1000000
  · by_cases hf : Fine l
    · rw [mixOf_yes hk.1 hk.2 hf]
      have X := roll_bd 131 2147483647 (7 + key) l (by omega) (by omega) (by omega)
      have Y := roll_bd 137 2147483629 (11 + 2 * key) l (by omega) (by omega) (by omega)
      omega
    · rw [mixOf_neg hf]; omega
  · rw [mixOf_key (by omega)]; omega
theorem mixOf_nat {key : Int} {l : List Int} (h0 : 1 ≤ key) (h1 : key ≤ 1000000) (hf : Fine l) : 0 ≤ mixOf key l := by
  rw [mixOf_yes h0 h1 hf]
  have X := roll_bd 131 2147483647 (7 + key) l (by omega) (by omega) (by omega)
  have Y := roll_bd 137 2147483629 (11 + 2 * key) l (by omega) (by omega) (by omega)
  omega
theorem streamOf_bd (key at_ time : Int) : -1 ≤ streamOf key at_ time ∧ streamOf key at_ time ≤ 10006 := by
  unfold streamOf
  split <;> omega
theorem fine_three {x y z : Int} (hx : 0 ≤ x) (hy : 0 ≤ y) (hz : 0 ≤ z) : Fine [x, y, z] := by
  intro i hi
  match i, hi with
  | 0, _ => exact hx
  | 1, _ => exact hy
  | 2, _ => exact hz
theorem streamOf_nat {key at_ time : Int} (h0 : 1 ≤ key) (h1 : key ≤ 1000000) (ha : 0 ≤ at_) (ht : 0 ≤ time) : 0 ≤ streamOf key at_ time := by
  have := mixOf_nat h0 h1 (fine_three (x := 1) (by omega) ha ht)
  unfold streamOf
  rw [if_neg (by omega)]; omega

theorem one_i64 : I64 1 := ⟨by omega, by omega⟩

end Go.Proofs.Ytagjgdgkkblidaa.Mx

/- PLAIN WORDS FOR MEMORY, no program in sight: a slice that reads as a list of integers, the nil slice let in; the fold of chapter 1 and its bounds. -/
import Derived.WalkKit
import Derived.ProofKit
import Derived.Below
namespace Go.Proofs.Ytafeagffaeiggaa.Mx
open Go.RowKit
set_option linter.unusedVariables false

/-- 'Ints w k B A l': a slice at address A of length l.length reads as l, and lies below block B. -/
def Ints (w : World) (k : IntKind) (B : Nat) (A : Option Addr) (l : List Int) : Prop :=
  ∀ i, i < l.length → ∃ b off, A = some ⟨b, off, none⟩ ∧ b < B ∧ w.cell? ⟨b, off + i, none⟩ = some (.int k (l.getD i 0))

theorem Ints.below {w w' : World} {k : IntKind} {B B' : Nat} {A : Option Addr} {l : List Int} (h : Ints w k B A l) (hb : Below B' w w') (hB : B ≤ B') : Ints w' k B A l := by
  intro i hi
  obtain ⟨b, off, rfl, hlt, hc⟩ := h i hi
  exact ⟨b, off, rfl, hlt, (hb.cell (p := ⟨b, off + i, none⟩) (Nat.lt_of_lt_of_le hlt hB)).trans hc⟩

theorem Ints.more {w : World} {k : IntKind} {B B' : Nat} {A : Option Addr} {l : List Int} (h : Ints w k B A l) (hB : B ≤ B') : Ints w k B' A l := by
  intro i hi
  obtain ⟨b, off, rfl, hlt, hc⟩ := h i hi
  exact ⟨b, off, rfl, by omega, hc⟩

theorem Ints.nil {w : World} {k : IntKind} {B : Nat} {A : Option Addr} : Ints w k B A [] := by
  intro i hi; simp at hi

/-- Each number of the list fits an int64 and is not below 0. -/
def Fine (l : List Int) : Prop := ∀ i, i < l.length → 0 ≤ l.getD i 0
/-- Each number of the list fits an int64. -/
def I64s (l : List Int) : Prop := ∀ i, i < l.length → -9223372036854775808 ≤ l.getD i 0 ∧ l.getD i 0 ≤ 9223372036854775807

def roll (f m s : Int) (l : List Int) : Int := l.foldl (fun s n => (s * f + n % m + 1) % m) s

theorem roll_take (f m s : Int) (l : List Int) (k : Nat) (h : k < l.length) : roll f m s (l.take (k + 1)) = (roll f m s (l.take k) * f + l.getD k 0 % m + 1) % m := by
  unfold roll
  rw [List.take_succ_eq_append_getElem h, List.foldl_append]
  simp [List.getD_eq_getElem?_getD, h]

theorem roll_bd (f m s : Int) (l : List Int) (hm : 0 < m) (h0 : 0 ≤ s) (h1 : s < m) : 0 ≤ roll f m s l ∧ roll f m s l < m := by
  unfold roll
  induction l generalizing s with
  | nil => exact ⟨h0, h1⟩
  | cons a l ih => exact ih _ (Int.emod_nonneg _ (by omega)) (Int.emod_lt_of_pos _ hm)

theorem roll_all (f m s : Int) (l : List Int) : roll f m s (l.take l.length) = roll f m s l := by rw [List.take_length]

open Classical in
/-- What chapter 1 asks of MixOf. -/
noncomputable def mixOf (key : Int) (l : List Int) : Int :=
  if (1 ≤ key ∧ key ≤ 1000000) ∧ Fine l then roll 131 2147483647 (7 + key) l * 2147483648 + roll 137 2147483629 (11 + 2 * key) l else -1

theorem mixOf_yes {key : Int} {l : List Int} (h0 : 1 ≤ key) (h1 : key ≤ 1000000) (hf : Fine l) : mixOf key l = roll 131 2147483647 (7 + key) l * 2147483648 + roll 137 2147483629 (11 + 2 * key) l := by
  unfold mixOf; rw [if_pos ⟨⟨h0, h1⟩, hf⟩]
theorem mixOf_key {key : Int} {l : List Int} (h : key < 1 ∨ 1000000 < key) : mixOf key l = -1 := by
  unfold mixOf; rw [if_neg (by omega)]
theorem mixOf_neg {key : Int} {l : List Int} (h : ¬ Fine l) : mixOf key l = -1 := by
  unfold mixOf; rw [if_neg (fun h' => h h'.2)]
theorem not_fine {l : List Int} (h : ¬ Fine l) : ∃ i, i < l.length ∧ l.getD i 0 < 0 := by
  refine Classical.byContradiction fun hn => h fun i hi => ?_
  refine Classical.byContradiction fun hc => hn ⟨i, hi, by omega⟩
end Go.Proofs.Ytafeagffaeiggaa.Mx

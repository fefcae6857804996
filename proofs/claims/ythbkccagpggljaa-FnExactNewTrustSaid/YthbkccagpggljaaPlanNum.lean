/- PLANS AS PLAIN NUMBERS, no program in sight: what chapter 5 asks of PlanOk, SectorsOf, RegionOf, FirstOf, on a key and a list of counts; each sector is in one region. -/
import Derived.Test.YthbkccagpggljaaMem
namespace Go.Proofs.Ythbkccagpggljaa.Mx
set_option linter.unusedVariables false

/-- How many sectors the first k regions have. -/
def upTo (l : List Int) (k : Nat) : Int := (l.take k).foldl (· + ·) 0
theorem foldl_add (l : List Int) (s : Int) : l.foldl (· + ·) s = s + l.foldl (· + ·) 0 := by
  induction l generalizing s with
  | nil => simp
  | cons a l ih => simp only [List.foldl_cons]; rw [ih (s + a), ih (0 + a)]; omega
theorem upTo_zero (l : List Int) : upTo l 0 = 0 := by simp [upTo]
theorem upTo_succ (l : List Int) {k : Nat} (h : k < l.length) : upTo l (k + 1) = upTo l k + l.getD k 0 := by
  unfold upTo
  rw [List.take_succ_eq_append_getElem h, List.foldl_append, List.getD_eq_getElem?_getD, List.getElem?_eq_getElem h]
  rfl
theorem upTo_all (l : List Int) {k : Nat} (h : l.length ≤ k) : upTo l k = upTo l l.length := by
  unfold upTo; rw [List.take_of_length_le h, List.take_length]
/-- Each region has from 1 to 8 sectors. -/
def CountsOk (l : List Int) : Prop := ∀ i, i < l.length → 1 ≤ l.getD i 0 ∧ l.getD i 0 ≤ 8
/-- A right plan. -/
def planOk (key : Int) (l : List Int) : Prop := (1 ≤ key ∧ key ≤ 1000000) ∧ (1 ≤ l.length ∧ l.length ≤ 4) ∧ CountsOk l ∧ upTo l l.length ≤ 24
theorem upTo_mono {l : List Int} (h : CountsOk l) {i j : Nat} (hij : i ≤ j) (hj : j ≤ l.length) : upTo l i + ((j - i : Nat) : Int) ≤ upTo l j := by
  induction j with
  | zero => obtain rfl : i = 0 := by omega
            simp
  | succ j ih =>
    rcases Nat.lt_or_ge j i with hlt | hge
    · obtain rfl : i = j + 1 := by omega
      simp
    · have h1 := ih hge (by omega)
      have h2 := (h j (by omega)).1
      rw [upTo_succ l (by omega)]
      omega
theorem upTo_bd {l : List Int} (h : CountsOk l) {k : Nat} (hk : k ≤ l.length) : 0 ≤ upTo l k ∧ upTo l k ≤ 8 * k := by
  induction k with
  | zero => rw [upTo_zero]; omega
  | succ k ih =>
    have h1 := ih (by omega)
    have h2 := h k (by omega)
    rw [upTo_succ l (by omega)]
    omega

open Classical in
noncomputable def sectorsOf (key : Int) (l : List Int) : Int := if planOk key l then upTo l l.length else -1
open Classical in
noncomputable def firstOf (key : Int) (l : List Int) (r : Int) : Int := if planOk key l ∧ 0 ≤ r ∧ r < l.length then upTo l r.toNat else -1
/-- r is the region of the sector 'at_', or -1 where there is no such one. -/
def IsRegion (l : List Int) (at_ r : Int) : Prop := (∃ i : Nat, i < l.length ∧ r = i ∧ upTo l i ≤ at_ ∧ at_ < upTo l (i + 1)) ∨ (r = -1 ∧ upTo l l.length ≤ at_)
theorem IsRegion.one {l : List Int} (h : CountsOk l) {at_ r r' : Int} (h1 : IsRegion l at_ r) (h2 : IsRegion l at_ r') : r = r' := by
  have lem : ∀ i j : Nat, i < l.length → j < l.length → upTo l i ≤ at_ → at_ < upTo l (j + 1) → i ≤ j := by
    intro i j hi hj a b
    refine Nat.le_of_not_lt fun hlt => ?_
    have := upTo_mono h (show j + 1 ≤ i by omega) (by omega)
    omega
  rcases h1 with ⟨i, hi, rfl, a, b⟩ | ⟨rfl, a⟩
  · rcases h2 with ⟨j, hj, rfl, c, d⟩ | ⟨rfl, c⟩
    · have := lem i j hi hj a d
      have := lem j i hj hi c b
      omega
    · have := upTo_mono h (show i + 1 ≤ l.length by omega) (Nat.le_refl _)
      omega
  · rcases h2 with ⟨j, hj, rfl, c, d⟩ | ⟨rfl, c⟩
    · have := upTo_mono h (show j + 1 ≤ l.length by omega) (Nat.le_refl _)
      omega
    · rfl
/-- The first region that ends behind 'at_', from region i on. -/
def regionFrom (l : List Int) (at_ : Int) : Nat → Nat → Int
  | _, 0 => -1
  | i, n + 1 => if at_ < upTo l (i + 1) then i else regionFrom l at_ (i + 1) n
theorem regionFrom_is {l : List Int} {at_ : Int} : ∀ (n i : Nat), i + n = l.length → upTo l i ≤ at_ → IsRegion l at_ (regionFrom l at_ i n) := by
  intro n
  induction n with
  | zero => intro i hi h; obtain rfl : i = l.length := by omega
            exact .inr ⟨rfl, h⟩
  | succ n ih =>
    intro i hi h
    unfold regionFrom
    by_cases hlt : at_ < upTo l (i + 1)
    · rw [if_pos hlt]; exact .inl ⟨i, by omega, rfl, h, hlt⟩
    · rw [if_neg hlt]; exact ih (i + 1) (by omega) (by omega)
open Classical in
noncomputable def regionOf (key : Int) (l : List Int) (at_ : Int) : Int := if planOk key l ∧ 0 ≤ at_ then regionFrom l at_ 0 l.length else -1
theorem regionOf_yes {key : Int} {l : List Int} {at_ r : Int} (h : planOk key l) (h0 : 0 ≤ at_) (hr : IsRegion l at_ r) : regionOf key l at_ = r := by
  unfold regionOf
  rw [if_pos ⟨h, h0⟩]
  exact (regionFrom_is l.length 0 (by omega) (by rw [upTo_zero]; exact h0)).one h.2.2.1 hr
theorem regionOf_no {key : Int} {l : List Int} {at_ : Int} (h : ¬ (planOk key l ∧ 0 ≤ at_)) : regionOf key l at_ = -1 := by unfold regionOf; rw [if_neg h]
theorem firstOf_yes {key : Int} {l : List Int} {r : Nat} (h : planOk key l) (hr : r < l.length) : firstOf key l r = upTo l r := by
  unfold firstOf; rw [if_pos ⟨h, by omega, by omega⟩]; simp
theorem firstOf_no {key : Int} {l : List Int} {r : Int} (h : ¬ (planOk key l ∧ 0 ≤ r ∧ r < l.length)) : firstOf key l r = -1 := by unfold firstOf; rw [if_neg h]
theorem sectorsOf_yes {key : Int} {l : List Int} (h : planOk key l) : sectorsOf key l = upTo l l.length := by unfold sectorsOf; rw [if_pos h]
theorem sectorsOf_no {key : Int} {l : List Int} (h : ¬ planOk key l) : sectorsOf key l = -1 := by unfold sectorsOf; rw [if_neg h]
/-- EACH SECTOR IS IN ONE REGION: the k-th sector of region i is in region i. -/
theorem regionOf_in {key : Int} {l : List Int} {i : Nat} {k : Int} (h : planOk key l) (hi : i < l.length) (h0 : 0 ≤ k) (h1 : k < l.getD i 0) : regionOf key l (upTo l i + k) = i := by
  have hb := upTo_bd h.2.2.1 (show i ≤ l.length by omega)
  exact regionOf_yes h (by omega) (.inl ⟨i, hi, rfl, by omega, by rw [upTo_succ l hi]; omega⟩)
theorem regionOf_end {key : Int} {l : List Int} (h : planOk key l) : regionOf key l (upTo l l.length) = -1 := by
  have hb := upTo_bd h.2.2.1 (Nat.le_refl l.length)
  exact regionOf_yes h hb.1 (.inr ⟨rfl, by omega⟩)
end Go.Proofs.Ythbkccagpggljaa.Mx

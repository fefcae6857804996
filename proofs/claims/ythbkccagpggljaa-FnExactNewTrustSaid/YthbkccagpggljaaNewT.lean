/- THE LAW OF NewTrust, OF THE CODE THAT LANDED (stage 7 at 32f50ec). -/
import Derived.Test.YthbkccagpggljaaNewL
import Derived.Test.YthbkccagpggljaaNewI
namespace Go.Proofs.Ythbkccagpggljaa.Mx
open Go.ChangeShapes Go.WideShapes Go.ChangeAt Go.RowKit
set_option linter.unusedVariables false

theorem firstOf_bd {key : Int} {l : List Int} {x : Int} (h : planOk key l ∧ 0 ≤ x ∧ x < l.length) : 0 ≤ firstOf key l x := by
  unfold firstOf
  rw [if_pos h]
  exact (upTo_bd h.1.2.2.1 (k := x.toNat) (by omega)).1
theorem newLaw_full (key x : Int) (A : Option Addr) (l : List Int) (cap : Nat) (w : World) (hn : l.length ≤ maxLen) (hA : Ints w .i64 w.heap.size A l) :
    Calls Try.prog 3 #[.agg #[.int .i64 key, .slice A l.length cap], .int .i64 x] w fun e w' => e = .returned (.bool true) ∧ Below w.heap.size w w' := by
  by_cases h : planOk key l ∧ 0 ≤ x ∧ x < l.length
  · obtain ⟨hp, hx0, hx1⟩ := h
    obtain ⟨r, rfl⟩ : ∃ r : Nat, x = r := ⟨x.toNat, by omega⟩
    have hr : r < l.length := by omega
    have hv := hp.2.2.1 r hr
    refine newLaw_calls key r (l.getD r 0) (sumOf key (trisNew key (upTo l r) (l.getD r 0).toNat)) (cellsNew key (upTo l r) (l.getD r 0).toNat) A l cap w hn (by rw [cellsNew_length]; omega) hA ?_ ?_
    · intro hs D u hD
      exact newI_yes key D l r u hs hD hp hr
    · intro D u hD
      exact specNew_yes key D l l.length r u hn (Nat.le_refl _) hD hp hr
  · have hf : firstOf key l x < 0 := by rw [firstOf_no h]; decide
    refine newLaw_calls key x 0 0 [] A l cap w hn (by simp) hA ?_ ?_
    · intro hs D u hD
      refine (newI_no key x D l u hs hD hf).mono ?_
      rintro e w' ⟨rfl, hb⟩
      exact ⟨_, rfl, ⟨rfl, .inl ⟨rfl, rfl⟩⟩, hb⟩
    · intro D u hD
      exact specNew_no key x D l l.length u hn (Nat.le_refl _) hD hf
end Go.Proofs.Ythbkccagpggljaa.Mx

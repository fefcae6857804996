/- CONTRACTS OF laws.toInt64S (a copy of a list of int64, in new memory) AND laws.eqInt64S (at two slices that read as one list: true). -/
import Derived.Test.YthbkccagpggljaaRows
import Derived.Test.YthbkccagpggljaaMem
import Derived.Deep.OwnRows
import Derived.Lib.Hide
import Derived.Deep.QuietTactic
import Derived.BigQuiet
namespace Go.Proofs.Ythbkccagpggljaa.Mx
open Go.ChangeShapes Go.WideShapes Go.ChangeAt Go.RowKit
set_option linter.unusedVariables false

theorem info_i64 : (Try.prog.info? 2).map (fun i => (i.zero, i.size, i.bytes)) = some (some (.int .i64 0), 1, 8) := by kernel_rfl

/-- A row of the call's own, read as a list. -/
theorem ints_row {w : World} {g t : Nat} {l : List Int} (h : w.rowIs g t l.length (fun i => .int .i64 (l.getD i 0))) : Ints w .i64 (g + 1) (some ⟨g, 0, none⟩) l := by
  intro i hi
  exact ⟨g, 0, rfl, by omega, by rw [Nat.zero_add]; exact h.cell hi⟩

theorem toInt64S_calls (A : Option Addr) (l : List Int) (cap : Nat) (w : World) (hn : l.length ≤ 1048576) (hA : Ints w .i64 w.heap.size A l) :
    Calls Try.prog 19 #[.slice A l.length cap] w fun e w' => e = .returned (.slice (some ⟨w.heap.size, 0, none⟩) l.length l.length) ∧ Below w.heap.size w w' ∧ w'.rowIs w.heap.size 2 l.length (fun i => .int .i64 (l.getD i 0)) := by
  have hmk := run_make_row' (P := Try.prog) 22 2 (.int .i64 0) 8 Try.underlying22 info_i64 rfl .i64 .i64 l.length (by omega) (by omega)
  go_enter Try.func19, Try.ntmps19
  go_wp2
  clear hmk
  go_loopw [4] (fun i wr => ∃ k : Nat, k ≤ l.length ∧ i = .int .i64 k ∧ Below w.heap.size w wr ∧ wr.rowIs w.heap.size 2 l.length (fun j => if j < k then .int .i64 (l.getD j 0) else .int .i64 0)) (fun i _ => l.length - (intOf i).toNat)
  case atStart =>
    refine ⟨0, Nat.zero_le _, rfl, (Below.refl _ _).alloc (Nat.le_refl _) _, ?_⟩
    exact (World.rowIs_made w (.int .i64 0) l.length 2).congr (by intro i hi; simp)
  case round =>
    obtain ⟨k, hk, rfl, hbel, hrow⟩ := hrel
    by_cases hlt : k < l.length
    · obtain ⟨b, off, rfl, hb, hc⟩ := (hA.below hbel (Nat.le_refl _)) k hlt
      have ho := hrow.cell hlt
      rw [if_neg (by omega)] at ho
      have hz := hrow.frozen k
      have hst := fun v => hrow.set k (Value.int .i64 v)
      have HST := Lib.hid hst
      have HB := Lib.hid hbel
      clear hst hrow hA hbel
      generalize hv : l.getD k 0 = v at hc
      have HV := Lib.hid hv
      clear hv
      go_wp2
      go_roundw
      case rel =>
        refine ⟨k + 1, by omega, by go_num, HB.out.setCell (Nat.le_refl _) _, (HST.out v).congr ?_⟩
        intro i hi
        by_cases hik : i = k
        · subst hik
          simp only [if_true]
          rw [if_pos (by omega), HV.out]
        · rw [if_neg hik]
          by_cases h3 : i < k
          · rw [if_pos h3, if_pos (by omega)]
          · rw [if_neg h3, if_neg (by omega)]
      case measure => simp [intOf]; omega
    · have hk' : k = l.length := by omega
      have HR := Lib.hid hrow
      have HB := Lib.hid hbel
      clear hrow hA hbel
      go_wp2
      go_ret
      refine ⟨rfl, HB.out, HR.out.congr ?_⟩
      intro i hi
      rw [if_pos (by omega)]

theorem eqInt64S_same (A C : Option Addr) (l : List Int) (cap cap' : Nat) (w : World) (hn : l.length ≤ 1048576) (hA : Ints w .i64 w.heap.size A l) (hC : Ints w .i64 w.heap.size C l) :
    Calls Try.prog 24 #[.slice A l.length cap, .slice C l.length cap'] w fun e w' => e = .returned (.bool true) ∧ Below w.heap.size w w' := by
  go_enter Try.func24, Try.ntmps24
  go_wp2
  go_loopw [5] (fun i wr => ∃ k : Nat, k ≤ l.length ∧ i = .int .i64 k ∧ Below w.heap.size w wr) (fun i _ => l.length - (intOf i).toNat)
  case atStart => exact ⟨0, Nat.zero_le _, rfl, Below.refl _ _⟩
  case round =>
    obtain ⟨k, hk, rfl, hbel⟩ := hrel
    by_cases hlt : k < l.length
    · obtain ⟨b, off, rfl, hb, hc⟩ := (hA.below hbel (Nat.le_refl _)) k hlt
      obtain ⟨b', off', rfl, hb', hc'⟩ := (hC.below hbel (Nat.le_refl _)) k hlt
      have HB := Lib.hid hbel
      clear hA hC hbel
      generalize hv : l.getD k 0 = v at hc hc'
      clear hv
      have hlt' : (k : Int) < l.length := by omega
      have hk0 : (0 : Int) ≤ k := by omega
      go_wp2
      go_quiet (fail)
      go_wp2
      go_roundw
      case rel => exact ⟨k + 1, by omega, by go_num, ⟨HB.out.os, HB.out.tape, HB.out.output, HB.out.size, HB.out.block⟩⟩
      case measure => simp [intOf]; omega
    · have HB := Lib.hid hbel
      clear hA hC hbel
      go_wp2
      go_ret
      exact ⟨rfl, HB.out⟩
end Go.Proofs.Ythbkccagpggljaa.Mx

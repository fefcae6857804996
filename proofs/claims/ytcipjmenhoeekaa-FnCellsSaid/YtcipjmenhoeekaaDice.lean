/- CONTRACTS OF laws.roll AND (*laws.dice).below: a dice over the bytes, in new memory; a number from 0 to n - 1, only the dice's own block is written. -/
import Derived.Test.YtcipjmenhoeekaaRows
import Derived.Test.YtcipjmenhoeekaaMem
import Derived.Deep.OwnRows
import Derived.Lib.Hide
import Derived.Deep.QuietTactic
import Derived.BigQuiet
import Derived.Outline
import Derived.RegionTactic
namespace Go.Proofs.Ytcipjmenhoeekaa.Mx
open Go.ChangeShapes Go.WideShapes Go.ChangeAt Go.RowKit
set_option linter.unusedVariables false

/-- THE DICE: block g holds the bytes' slice, a place in it, and some number; the bytes lie below it. -/
def Dice (w : World) (g : Nat) (A : Option Addr) (l : List Int) (cap : Nat) : Prop :=
  Ints w .u8 g A l ∧ ∃ (i : Nat) (h : Int), i ≤ l.length ∧ CellsAt w g 65 #[.slice A l.length cap, .int .i64 i, .int .u64 h]

/-- of 65 -/
theorem Dice.lt {w : World} {g : Nat} {A : Option Addr} {l : List Int} {cap : Nat} (h : Dice w g A l cap) : g < w.heap.size := by
  obtain ⟨_, i, x, _, hb⟩ := h
  exact hb.lt
/-- of 65 -/
theorem Dice.below {w w' : World} {g B : Nat} {A : Option Addr} {l : List Int} {cap : Nat} (h : Dice w g A l cap) (hb : Below B w w') (hg : g < B) : Dice w' g A l cap := by
  obtain ⟨hA, i, x, hi, hc⟩ := h
  exact ⟨hA.below hb (by omega), i, x, hi, hc.below hb hg⟩

/-- A number from 0 to n - 1 is answered; of what was there only block g is written, and it is a dice again. (of 65) -/
def Thrown (n : Int) (w : World) (g : Nat) (A : Option Addr) (l : List Int) (cap : Nat) (e : Ending) (w' : World) : Prop :=
  ∃ v : Int, e = .returned (.int .i64 v) ∧ (0 ≤ v ∧ v ≤ n - 1) ∧ w.grownBy w' (some g) ∧ Dice w' g A l cap

set_option maxHeartbeats 400000 in
theorem roll_calls (A : Option Addr) (l : List Int) (cap : Nat) (s : Int) (w : World) (hn : l.length ≤ maxLen) (hA : Ints w .u8 w.heap.size A l) :
    Calls Try.prog 20 #[.slice A l.length cap, .int .u64 s] w fun e w' => e = .returned (.pointer (some ⟨w.heap.size, 0, none⟩)) ∧ Below w.heap.size w w' ∧ Dice w' w.heap.size A l cap := by
  unfold maxLen at hn
  have HA := Lib.hid hA
  clear hA
  go_enter Try.func20, Try.ntmps20
  go_wp2_with fail
  go_loopw [6] (fun i wr => ∃ (k : Nat) (h : Int), k ≤ l.length ∧ i = .int .i64 k ∧ Below w.heap.size w wr ∧ CellsAt wr w.heap.size 65 #[.slice A l.length cap, .int .i64 0, .int .u64 h]) (fun i _ => l.length - (intOf i).toNat)
  case atStart => exact ⟨0, _, Nat.zero_le _, rfl, (Below.refl _ _).alloc (Nat.le_refl _) _, CellsAt.new _ _ _⟩
  case round =>
    obtain ⟨k, h, hk, rfl, hbel, hblk⟩ := hrel
    have HB := Lib.hid hbel
    have HK := Lib.hid hblk
    have c2 : wr.cell? ⟨w.heap.size, 2, none⟩ = some (.int .u64 h) := hblk.cell 2
    have f2 := hblk.frozen 2
    have hAr := HA.out.below hbel (Nat.le_refl _)
    clear hbel hblk
    by_cases hlt : k < l.length
    · obtain ⟨b, off, rfl, hb, hc⟩ := hAr k hlt
      have hlt' : (k : Int) < l.length := by omega
      have hk0 : (0 : Int) ≤ k := by omega
      clear hAr
      generalize l.getD k 0 = v at hc
      go_wp2_with fail
      go_region
      all_goals
        go_wp2_with fail
        go_roundw
        case rel =>
          exact ⟨k + 1, IntKind.u64.wrap (IntKind.u64.wrap (IntKind.u64.wrap (h * 1099511628211) + IntKind.u64.wrap v) + 3), by omega, by go_num, (HB.out.setCell (Nat.le_refl _) _).drew, (HK.out.set_ 2 _).drew⟩
        case measure => simp [intOf]; omega
    · clear hAr
      go_wp2_with fail
      go_ret
      exact ⟨rfl, HB.out, HA.out.below HB.out (Nat.le_refl _), 0, h, Nat.zero_le _, HK.out⟩

theorem tmod_bd {x n : Int} (hx : 0 ≤ x) (hn : 1 ≤ n) : 0 ≤ x % n ∧ x % n ≤ n - 1 := ⟨Int.emod_nonneg _ (by omega), by have := Int.emod_lt_of_pos x (show 0 < n by omega); omega⟩

set_option maxHeartbeats 400000 in
theorem throw_calls (g : Nat) (A : Option Addr) (l : List Int) (cap : Nat) (n : Int) (w : World) (hn : l.length ≤ maxLen) (hc : Dice w g A l cap) (h8 : ∀ i, i < l.length → 0 ≤ l.getD i 0 ∧ l.getD i 0 ≤ 255) (n1 : 1 ≤ n) :
    Calls Try.prog 21 #[.pointer (some ⟨g, 0, none⟩), .int .i64 n] w (Thrown n w g A l cap) := by
  unfold maxLen at hn
  obtain ⟨hA, i, h, hi, hb⟩ := hc
  have c0 : w.cell? ⟨g, 0, none⟩ = some (.slice A l.length cap) := hb.cell 0
  have c1 : w.cell? ⟨g, 1, none⟩ = some (.int .i64 i) := hb.cell 1
  have c2 : w.cell? ⟨g, 2, none⟩ = some (.int .u64 h) := hb.cell 2
  have f1 := hb.frozen 1
  have f2 := hb.frozen 2
  have HB := Lib.hid hb
  have HA := Lib.hid hA
  have H8 := Lib.hid h8
  clear hb hA h8
  go_enter Try.func21, Try.ntmps21
  go_wp2_with fail
  generalize IntKind.u64.wrap (IntKind.u64.wrap (h * 6364136223846793005) + 1442695040888963407) = h2
  have hx := and_bd_u64 (h2 / 8589934592) 16777215 (by omega)
  rw [show ((16777215 : Nat) : Int) = 16777215 from rfl] at hx
  generalize bits BinOp.and IntKind.u64 (h2 / 8589934592) 16777215 = x at hx
  obtain ⟨x0, x1⟩ := hx
  rw [IntWalk.wrap64_in x (by omega)]
  by_cases hlt : i < l.length
  · obtain ⟨b, off, rfl, hbg, hcb⟩ := HA.out i hlt
    have hi' : (i : Int) < l.length := by omega
    have hi0 : (0 : Int) ≤ i := by omega
    have hcb' : (w.setCell ⟨g, 2, none⟩ (Value.int .u64 h2)).cell? ⟨b, off + i, none⟩ = some (.int .u8 (l.getD i 0)) := by
      rw [World.cell?_setCell_other _ _ _ _ (by intro h; injection h with h1; omega)]; exact hcb
    have hv := H8.out i hlt
    clear hcb
    generalize l.getD i 0 = v at hcb' hv
    obtain ⟨v0, v1⟩ := hv
    go_quiet (fail)
    go_wp2_with fail
    go_quiet (fail)
    go_wp2_with fail
    go_ret
    refine ⟨_, rfl, tmod_bd (x := x + v) (by omega) n1, ?_, HA.out.gb (g := g) ?_ (Nat.le_of_lt HB.out.lt) (Nat.le_refl _), i + 1, h2, by omega, ?_⟩
    · repeat (first | exact gb_refl _ _ | refine gb_set ?_ _ _ | refine gb_drewN ?_ _)
    · repeat (first | exact gb_refl _ _ | refine gb_set ?_ _ _ | refine gb_drewN ?_ _)
    · exact ((HB.out.set_ 2 (.int .u64 h2)).set_ 1 (.int .i64 ((i + 1 : Nat) : Int)))
  · have hi' : ¬ (i : Int) < l.length := by omega
    go_quiet (fail)
    go_wp2_with fail
    go_ret
    refine ⟨_, rfl, tmod_bd x0 n1, ?_, HA.out.gb (g := g) ?_ (Nat.le_of_lt HB.out.lt) (Nat.le_refl _), i, h2, by omega, ?_⟩
    · repeat (first | exact gb_refl _ _ | refine gb_set ?_ _ _ | refine gb_drewN ?_ _)
    · repeat (first | exact gb_refl _ _ | refine gb_set ?_ _ _ | refine gb_drewN ?_ _)
    · exact HB.out.set_ 2 (.int .u64 h2)
end Go.Proofs.Ytcipjmenhoeekaa.Mx

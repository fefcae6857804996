/- CONTRACTS OF THE DRAWS' CURSOR (spec.l1New, l1Byte, l1Below, l1Once ..): each answers some number within its bounds; nothing that was there is written but the cursor's own block. -/
import Derived.Test.YtcipjmenhoeekaaRows
import Derived.Test.YtcipjmenhoeekaaMem
import Derived.Deep.OwnRows
import Derived.Lib.Hide
import Derived.Deep.QuietTactic
import Derived.BigQuiet
import Derived.Outline
namespace Go.Proofs.Ytcipjmenhoeekaa.Mx
open Go.ChangeShapes Go.WideShapes Go.ChangeAt Go.RowKit
set_option linter.unusedVariables false

/-- THE CURSOR: block g holds the bytes' slice, a place in it, and some number; the bytes lie below it. -/
def Cur (w : World) (g : Nat) (A : Option Addr) (l : List Int) (cap : Nat) : Prop :=
  Ints w .u8 g A l ∧ ∃ (i : Nat) (h : Int), i ≤ l.length ∧ CellsAt w g 74 #[.slice A l.length cap, .int .i64 i, .int .i64 h]

theorem Cur.lt {w : World} {g : Nat} {A : Option Addr} {l : List Int} {cap : Nat} (h : Cur w g A l cap) : g < w.heap.size := by
  obtain ⟨_, i, x, _, hb⟩ := h
  exact hb.lt
theorem Cur.below {w w' : World} {g B : Nat} {A : Option Addr} {l : List Int} {cap : Nat} (h : Cur w g A l cap) (hb : Below B w w') (hg : g < B) : Cur w' g A l cap := by
  obtain ⟨hA, i, x, hi, hc⟩ := h
  exact ⟨hA.below hb (by omega), i, x, hi, hc.below hb hg⟩
theorem Cur.gb {w w' : World} {g g' : Nat} {A : Option Addr} {l : List Int} {cap : Nat} (h : Cur w g A l cap) (hb : w.grownBy w' (some g')) (hg : g < g') : Cur w' g A l cap := by
  obtain ⟨hA, i, x, hi, hc⟩ := h
  exact ⟨hA.gb hb (by have := hc.lt; omega) (by omega), i, x, hi, hc.grown hb (by intro e; injection e with e; omega)⟩

/-- A number from lo to hi is answered; of what was there only block g is written, and it is a cursor again. -/
def Num (lo hi : Int) (w : World) (g : Nat) (A : Option Addr) (l : List Int) (cap : Nat) (e : Ending) (w' : World) : Prop :=
  ∃ v : Int, e = .returned (.int .i64 v) ∧ (lo ≤ v ∧ v ≤ hi) ∧ w.grownBy w' (some g) ∧ Cur w' g A l cap

theorem Num.after {lo hi : Int} {w w1 w' : World} {g : Nat} {A : Option Addr} {l : List Int} {cap : Nat} {e : Ending} (h : Num lo hi w1 g A l cap e w') (hb : w.grownBy w1 (some g)) : Num lo hi w g A l cap e w' := by
  obtain ⟨v, he, hv, hg, hc⟩ := h
  exact ⟨v, he, hv, gb_trans hb hg, hc⟩
theorem Num.wide {lo hi lo' hi' : Int} {w w' : World} {g : Nat} {A : Option Addr} {l : List Int} {cap : Nat} {e : Ending} (h : Num lo hi w g A l cap e w') (h0 : lo' ≤ lo) (h1 : hi ≤ hi') : Num lo' hi' w g A l cap e w' := by
  obtain ⟨v, he, hv, hg, hc⟩ := h
  exact ⟨v, he, ⟨by omega, by omega⟩, hg, hc⟩

set_option maxHeartbeats 400000 in
theorem byte_calls (g : Nat) (A : Option Addr) (l : List Int) (cap : Nat) (w : World) (hn : l.length ≤ maxLen) (hc : Cur w g A l cap) :
    Calls Try.prog 63 #[.pointer (some ⟨g, 0, none⟩)] w (Num 0 255 w g A l cap) := by
  unfold maxLen at hn
  obtain ⟨hA, i, h, hi, hb⟩ := hc
  have c0 : w.cell? ⟨g, 0, none⟩ = some (.slice A l.length cap) := hb.cell 0
  have c1 : w.cell? ⟨g, 1, none⟩ = some (.int .i64 i) := hb.cell 1
  have c2 : w.cell? ⟨g, 2, none⟩ = some (.int .i64 h) := hb.cell 2
  have f1 := hb.frozen 1
  have f2 := hb.frozen 2
  have HB := Lib.hid hb
  have HA := Lib.hid hA
  clear hb hA
  go_enter Try.func63, Try.ntmps63
  go_wp2_with fail
  generalize wrap64 (wrap64 (h * 6364136223846793005) + 1442695040888963407) = h2
  go_quiet (fail)
  go_wp2_with fail
  have hx := and_bd_i64 (bits BinOp.xor IntKind.i64 (h2 / 8589934592) (h2 / 35184372088832)) 255 (by omega)
  rw [show ((255 : Nat) : Int) = 255 from rfl] at hx
  generalize bits BinOp.and IntKind.i64 (bits BinOp.xor IntKind.i64 (h2 / 8589934592) (h2 / 35184372088832)) 255 = x at hx
  obtain ⟨x0, x1⟩ := hx
  by_cases hlt : i < l.length
  · obtain ⟨b, off, rfl, hbg, hcb⟩ := HA.out i hlt
    have hi' : (i : Int) < l.length := by omega
    have hi0 : (0 : Int) ≤ i := by omega
    have hcb' : (w.setCell ⟨g, 2, none⟩ (Value.int .i64 h2)).cell? ⟨b, off + i, none⟩ = some (.int .u8 (l.getD i 0)) := by
      rw [World.cell?_setCell_other _ _ _ _ (by intro h; injection h with h1; omega)]; exact hcb
    clear hcb
    generalize l.getD i 0 = v at hcb'
    go_quiet (fail)
    go_wp2_with fail
    go_quiet (fail)
    go_wp2_with fail
    go_ret
    refine ⟨_, rfl, and_bd_i64 _ 255 (by omega), ?_, HA.out.gb (g := g) ?_ (Nat.le_of_lt HB.out.lt) (Nat.le_refl _), i + 1, h2, by omega, ?_⟩
    · repeat (first | exact gb_refl _ _ | refine gb_set ?_ _ _ | refine gb_drewN ?_ _)
    · repeat (first | exact gb_refl _ _ | refine gb_set ?_ _ _ | refine gb_drewN ?_ _)
    · exact ((HB.out.set_ 2 (.int .i64 h2)).set_ 1 (.int .i64 ((i + 1 : Nat) : Int)))
  · have hi' : ¬ (i : Int) < l.length := by omega
    go_quiet (fail)
    go_wp2_with fail
    go_ret
    refine ⟨_, rfl, ⟨x0, x1⟩, ?_, HA.out.gb (g := g) ?_ (Nat.le_of_lt HB.out.lt) (Nat.le_refl _), i, h2, by omega, ?_⟩
    · repeat (first | exact gb_refl _ _ | refine gb_set ?_ _ _ | refine gb_drewN ?_ _)
    · repeat (first | exact gb_refl _ _ | refine gb_set ?_ _ _ | refine gb_drewN ?_ _)
    · exact HB.out.set_ 2 (.int .i64 h2)

theorem emod_bd {x n : Int} (hx : 0 ≤ x) (hn : 1 ≤ n) : 0 ≤ x % n ∧ x % n ≤ n - 1 := ⟨Int.emod_nonneg _ (by omega), by have := Int.emod_lt_of_pos x (show 0 < n by omega); omega⟩

set_option maxHeartbeats 400000 in
theorem below_calls (g : Nat) (A : Option Addr) (l : List Int) (cap : Nat) (n : Int) (w : World) (hn : l.length ≤ maxLen) (hc : Cur w g A l cap) (h1 : 1 ≤ n) :
    Calls Try.prog 51 #[.pointer (some ⟨g, 0, none⟩), .int .i64 n] w (Num 0 (n - 1) w g A l cap) := by
  have HC := Lib.hid hc
  have HN := Lib.hid hn
  clear hc hn
  by_cases hs : n ≤ 256
  · go_enter Try.func51, Try.ntmps51
    go_wp2_with fail
    refine (byte_calls g A l cap w HN.out HC.out).mono ?_; rintro e w1 ⟨x, rfl, ⟨x0, x1⟩, gb1, c1⟩
    have G := Lib.hid gb1
    have C := Lib.hid c1
    clear gb1 c1
    go_wp2_with fail
    go_ret
    exact ⟨_, rfl, emod_bd x0 h1, G.out, C.out⟩
  · go_enter Try.func51, Try.ntmps51
    go_wp2_with fail
    refine (byte_calls g A l cap w HN.out HC.out).mono ?_; rintro e w1 ⟨x, rfl, ⟨x0, x1⟩, gb1, c1⟩
    have G1 := Lib.hid gb1
    have C1 := Lib.hid c1
    clear gb1 c1
    go_wp2_with fail
    refine (byte_calls g A l cap w1 HN.out C1.out).mono ?_; rintro e w2 ⟨y, rfl, ⟨y0, y1⟩, gb2, c2⟩
    have G2 := Lib.hid gb2
    have C2 := Lib.hid c2
    clear gb2 c2
    go_wp2_with fail
    refine (byte_calls g A l cap w2 HN.out C2.out).mono ?_; rintro e w3 ⟨z, rfl, ⟨z0, z1⟩, gb3, c3⟩
    have G3 := Lib.hid gb3
    have C3 := Lib.hid c3
    clear gb3 c3
    go_wp2_with fail
    refine (byte_calls g A l cap w3 HN.out C3.out).mono ?_; rintro e w4 ⟨v, rfl, ⟨v0, v1⟩, gb4, c4⟩
    have G4 := Lib.hid gb4
    have C4 := Lib.hid c4
    clear gb4 c4
    go_wp2_with fail
    go_ret
    exact ⟨_, rfl, emod_bd (by omega) h1, gb_trans (gb_trans G1.out G2.out) (gb_trans G3.out G4.out), C4.out⟩

theorem min_calls (a b : Int) (w : World) :
    Calls Try.prog 62 #[.int .i64 a, .int .i64 b] w fun e w' => e = .returned (.int .i64 (min a b)) ∧ w = w' := by
  by_cases h : a < b
  · rw [show min a b = a from by omega]
    go_enter Try.func62, Try.ntmps62
    go_wp2
    go_ret
    exact ⟨rfl, rfl⟩
  · rw [show min a b = b from by omega]
    go_enter Try.func62, Try.ntmps62
    go_wp2
    go_ret
    exact ⟨rfl, rfl⟩

/-- True or false is answered; of what was there only block g is written, and it is a cursor again. -/
def Bit (w : World) (g : Nat) (A : Option Addr) (l : List Int) (cap : Nat) (e : Ending) (w' : World) : Prop :=
  ∃ v : Bool, e = .returned (.bool v) ∧ w.grownBy w' (some g) ∧ Cur w' g A l cap

theorem once_calls (g : Nat) (A : Option Addr) (l : List Int) (cap : Nat) (n : Int) (w : World) (hn : l.length ≤ maxLen) (hc : Cur w g A l cap) (h1 : 1 ≤ n) :
    Calls Try.prog 49 #[.pointer (some ⟨g, 0, none⟩), .int .i64 n] w (Bit w g A l cap) := by
  have HC := Lib.hid hc
  have HN := Lib.hid hn
  clear hc hn
  go_enter Try.func49, Try.ntmps49
  go_wp2_with fail
  refine (below_calls g A l cap n w HN.out HC.out h1).mono ?_; rintro e w1 ⟨x, rfl, ⟨x0, x1⟩, gb1, c1⟩
  have G := Lib.hid gb1
  have C := Lib.hid c1
  clear gb1 c1
  go_wp2_with fail
  go_ret
  exact ⟨_, rfl, G.out, C.out⟩
end Go.Proofs.Ytcipjmenhoeekaa.Mx

/- CONTRACTS OF spec.DrawTripleOk, DrawTagOf: each answers a triple of numbers of type int64 (and a key); nothing that was there is written. -/
import Derived.Test.YthkkdgfgcidpoaaDrawF
namespace Go.Proofs.Ythkkdgfgcidpoaa.Mx
open Go.ChangeShapes Go.WideShapes Go.ChangeAt Go.RowKit
set_option linter.unusedVariables false

def TriW (w : World) (e : Ending) (w' : World) : Prop :=
  ∃ a t z : Int, e = .returned (.agg #[.int .i64 a, .int .i64 t, .int .i64 z]) ∧ I64 a ∧ I64 t ∧ I64 z ∧ Below w.heap.size w w'
def KeyTriW (w : World) (e : Ending) (w' : World) : Prop :=
  ∃ k a t z : Int, e = .returned (.tuple #[.int .i64 k, .agg #[.int .i64 a, .int .i64 t, .int .i64 z]]) ∧ I64 a ∧ I64 t ∧ I64 z ∧ Below w.heap.size w w'

/-- The result's three cells are written at the end: nothing that was there has turned. -/
theorem tri_out {w w3 : World} {h : Nat} {x y z p q r : Int} (hw : w.heap.size ≤ h) (hk : CellsAt w3 h 25 #[.int .i64 p, .int .i64 q, .int .i64 r]) (hb : Below w.heap.size w w3) :
    ∃ w4, ((w3.setCell ⟨h, 0, none⟩ (.int .i64 x)).setCell ⟨h, 1, none⟩ (.int .i64 y)).setCell ⟨h, 2, none⟩ (.int .i64 z) = w4 ∧ (w4.cell? ⟨h, 0, none⟩ = some (.int .i64 x) ∧ w4.cell? ⟨h, 1, none⟩ = some (.int .i64 y) ∧ w4.cell? ⟨h, 2, none⟩ = some (.int .i64 z)) ∧ Below w.heap.size w w4 := by
  have hk' := ((hk.set_ 0 (.int .i64 x)).set_ 1 (.int .i64 y)).set_ 2 (.int .i64 z)
  exact ⟨_, rfl, ⟨hk'.cell 0, hk'.cell 1, hk'.cell 2⟩, ((hb.setCell hw _).setCell hw _).setCell hw _⟩

set_option maxHeartbeats 1000000 in
theorem drawTripleOk_calls (A : Option Addr) (l : List Int) (cap : Nat) (w : World) (hn : l.length ≤ maxLen) (hA : Ints w .u8 w.heap.size A l) :
    Calls Try.prog 8 #[.slice A l.length cap] w (TriW w) := by
  have HA := Lib.hid ((hA.below ((Below.refl w.heap.size w).alloc (Nat.le_refl _) (.cells #[.int .i64 0, .int .i64 0, .int .i64 0] 25)) (Nat.le_refl _)).more (show w.heap.size ≤ (w.alloc (.cells #[.int .i64 0, .int .i64 0, .int .i64 0] 25)).heap.size by simp))
  have HN := Lib.hid hn
  clear hA hn
  go_enter Try.func8, Try.ntmps8
  go_wp2_with fail
  refine (new_calls A l cap _ HN.out HA.out).mono ?_; rintro e w1 ⟨rfl, b1, c1⟩
  have S1 := Lib.hid (St.new b1 c1)
  clear b1 c1 HA
  have z0 : w.heap.size < (w.alloc (.cells #[.int .i64 0, .int .i64 0, .int .i64 0] 25)).heap.size := by simp
  have K0 := Lib.hid (CellsAt.new w 25 #[.int .i64 0, .int .i64 0, .int .i64 0])
  have B0 := Lib.hid ((Below.refl w.heap.size w).alloc (Nat.le_refl _) (.cells #[.int .i64 0, .int .i64 0, .int .i64 0] 25))
  generalize w.alloc (.cells #[.int .i64 0, .int .i64 0, .int .i64 0] 25) = v at S1 z0 K0 B0 ⊢
  obtain ⟨g, hg⟩ : ∃ g, g = v.heap.size := ⟨_, rfl⟩
  rw [← hg] at S1 z0 ⊢
  have HG := Lib.hid hg
  clear hg
  go_wp2_with fail
  refine (draw3Any_calls v g A l cap w1 HN.out S1.out).mono ?_; rintro e w2 ⟨x, y, z, rfl, ix, iy, iz, s2, -⟩
  have hk := K0.out.below s2.1 z0
  have B2 := Lib.hid (B0.out.trans (s2.1.mono (Nat.le_of_lt z0)))
  have IX := Lib.hid ix
  have IY := Lib.hid iy
  have IZ := Lib.hid iz
  have f0 := hk.frozen 0
  have f1 := hk.frozen 1
  have f2 := hk.frozen 2
  have c0 : w2.cell? ⟨w.heap.size, 0, none⟩ = some (.int .i64 0) := hk.cell 0
  have c1 : w2.cell? ⟨w.heap.size, 1, none⟩ = some (.int .i64 0) := hk.cell 1
  have c2 : w2.cell? ⟨w.heap.size, 2, none⟩ = some (.int .i64 0) := hk.cell 2
  have HK := Lib.hid hk
  clear s2 ix iy iz hk
  go_wp2_with fail
  obtain ⟨w9, e9, ⟨d0, d1, d2⟩, b9⟩ := tri_out (x := x) (y := y) (z := z) (Nat.le_refl _) HK.out B2.out
  rw [e9]
  have BB := Lib.hid b9
  clear e9 b9
  exact bodyPost_ret (v := .agg #[.int .i64 x, .int .i64 y, .int .i64 z]) (by simp [results, Try.results8, go_sem, d0, d1, d2]) rfl ⟨_, _, _, rfl, IX.out, IY.out, IZ.out, BB.out⟩

set_option maxHeartbeats 1000000 in
theorem drawTagOf_calls (A : Option Addr) (l : List Int) (cap : Nat) (w : World) (hn : l.length ≤ maxLen) (hA : Ints w .u8 w.heap.size A l) :
    Calls Try.prog 7 #[.slice A l.length cap] w (KeyTriW w) := by
  have HA := Lib.hid ((hA.below ((Below.refl w.heap.size w).alloc (Nat.le_refl _) (.cells #[.int .i64 0, .int .i64 0, .int .i64 0] 25)) (Nat.le_refl _)).more (show w.heap.size ≤ (w.alloc (.cells #[.int .i64 0, .int .i64 0, .int .i64 0] 25)).heap.size by simp))
  have HN := Lib.hid hn
  clear hA hn
  go_enter Try.func7, Try.ntmps7
  go_wp2_with fail
  refine (new_calls A l cap _ HN.out HA.out).mono ?_; rintro e w1 ⟨rfl, b1, c1⟩
  have S1 := Lib.hid (St.new b1 c1)
  clear b1 c1 HA
  have z0 : w.heap.size < (w.alloc (.cells #[.int .i64 0, .int .i64 0, .int .i64 0] 25)).heap.size := by simp
  have K0 := Lib.hid (CellsAt.new w 25 #[.int .i64 0, .int .i64 0, .int .i64 0])
  have B0 := Lib.hid ((Below.refl w.heap.size w).alloc (Nat.le_refl _) (.cells #[.int .i64 0, .int .i64 0, .int .i64 0] 25))
  generalize w.alloc (.cells #[.int .i64 0, .int .i64 0, .int .i64 0] 25) = v at S1 z0 K0 B0 ⊢
  obtain ⟨g, hg⟩ : ∃ g, g = v.heap.size := ⟨_, rfl⟩
  rw [← hg] at S1 z0 ⊢
  have HG := Lib.hid hg
  clear hg
  go_wp2_with fail
  refine (drawKey_st v g A l cap w1 HN.out S1.out).mono ?_; rintro e wk ⟨k, rfl, k0, sk, -⟩
  have SK := Lib.hid sk
  clear sk k0
  go_wp2_with fail
  refine (draw3Any_calls v g A l cap wk HN.out SK.out).mono ?_; rintro e w2 ⟨x, y, z, rfl, ix, iy, iz, s2, -⟩
  have hk := K0.out.below s2.1 z0
  have B2 := Lib.hid (B0.out.trans (s2.1.mono (Nat.le_of_lt z0)))
  have IX := Lib.hid ix
  have IY := Lib.hid iy
  have IZ := Lib.hid iz
  have f0 := hk.frozen 0
  have f1 := hk.frozen 1
  have f2 := hk.frozen 2
  have c0 : w2.cell? ⟨w.heap.size, 0, none⟩ = some (.int .i64 0) := hk.cell 0
  have c1 : w2.cell? ⟨w.heap.size, 1, none⟩ = some (.int .i64 0) := hk.cell 1
  have c2 : w2.cell? ⟨w.heap.size, 2, none⟩ = some (.int .i64 0) := hk.cell 2
  have HK := Lib.hid hk
  clear s2 ix iy iz hk
  go_wp2_with fail
  obtain ⟨w9, e9, ⟨d0, d1, d2⟩, b9⟩ := tri_out (x := x) (y := y) (z := z) (Nat.le_refl _) HK.out B2.out
  rw [e9]
  have BB := Lib.hid b9
  clear e9 b9
  exact bodyPost_ret (v := .tuple #[.int .i64 k, .agg #[.int .i64 x, .int .i64 y, .int .i64 z]]) (by simp [results, Try.results7, go_sem, d0, d1, d2]) rfl ⟨_, _, _, _, rfl, IX.out, IY.out, IZ.out, BB.out⟩
end Go.Proofs.Ythkkdgfgcidpoaa.Mx

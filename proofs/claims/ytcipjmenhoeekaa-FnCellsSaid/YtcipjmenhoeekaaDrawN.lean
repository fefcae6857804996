/- CONTRACTS OF spec.l6Draw, l6DrawAny, DrawCellOf, DrawValueIn, DrawTripleIn: a cell of two numbers of type int64 (and numbers); nothing that was there is written. -/
import Derived.Test.YtcipjmenhoeekaaDrawS
import Derived.Test.YtcipjmenhoeekaaCellS
namespace Go.Proofs.Ytcipjmenhoeekaa.Mx
open Go.ChangeShapes Go.WideShapes Go.ChangeAt Go.RowKit
set_option linter.unusedVariables false

theorem dfrom_st (v : World) (g : Nat) (A : Option Addr) (l : List Int) (cap : Nat) (lo hi : Int) (w : World) (hn : l.length ≤ maxLen) (h : St v g A l cap w) (h0 : -100 ≤ lo) (h1 : lo ≤ hi) (h2 : hi ≤ 100) :
    Calls Try.prog 30 #[.pointer (some ⟨g, 0, none⟩), .int .i64 lo, .int .i64 hi] w (NumS lo hi v w g A l cap) := by
  have C := Lib.hid (fun w h => below_st v g A l cap (hi - lo + 1) w hn h (by omega))
  have HS := Lib.hid h
  clear hn h
  go_enter Try.func30, Try.ntmps30
  go_wp2_with fail
  refine (C.out _ HS.out).mono ?_; rintro e w1 ⟨x, rfl, ⟨x0, x1⟩, s1, g1⟩
  have S1 := Lib.hid s1
  have G1 := Lib.hid g1
  clear s1 g1
  go_wp2_with fail
  go_ret
  exact ⟨_, rfl, ⟨by omega, by omega⟩, S1.out, G1.out⟩

/-- A cell is answered, and the state stands. -/
def CelS (v w : World) (g : Nat) (A : Option Addr) (l : List Int) (cap : Nat) (e : Ending) (w' : World) : Prop :=
  ∃ t z : Int, e = .returned (.agg #[.int .i64 t, .int .i64 z]) ∧ I64 t ∧ I64 z ∧ St v g A l cap w' ∧ w.grownBy w' (some g)

/-- A new cell's two numbers are written at the end. -/
theorem cel_end {v w w3 : World} {g h : Nat} {A : Option Addr} {l : List Int} {cap : Nat} {x y p q : Int} (hg : g < h) (hw : w.heap.size ≤ h) (hk : CellsAt w3 h 27 #[.int .i64 p, .int .i64 q]) (hs : St v g A l cap w3) (hG : w.grownBy w3 (some g)) :
    ∃ w4, (w3.setCell ⟨h, 0, none⟩ (.int .i64 x)).setCell ⟨h, 1, none⟩ (.int .i64 y) = w4 ∧ (w4.cell? ⟨h, 0, none⟩ = some (.int .i64 x) ∧ w4.cell? ⟨h, 1, none⟩ = some (.int .i64 y)) ∧ St v g A l cap w4 ∧ w.grownBy w4 (some g) := by
  have hk' := (hk.set_ 0 (.int .i64 x)).set_ 1 (.int .i64 y)
  exact ⟨_, rfl, ⟨hk'.cell 0, hk'.cell 1⟩, (hs.set hg 0 (.int .i64 x)).set hg 1 (.int .i64 y), gb_new (gb_new hG hw 0 (.int .i64 x)) hw 1 (.int .i64 y)⟩

set_option maxHeartbeats 1000000 in
theorem draw6_calls (v : World) (g : Nat) (A : Option Addr) (l : List Int) (cap : Nat) (w : World) (hn : l.length ≤ maxLen) (h : St v g A l cap w) :
    Calls Try.prog 52 #[.pointer (some ⟨g, 0, none⟩)] w (CelS v w g A l cap) := by
  have HN := Lib.hid hn
  have HS := Lib.hid h
  have HL := h.2.lt
  clear hn h
  go_enter Try.func52, Try.ntmps52
  go_wp2_with fail
  refine (below_st v g A l cap 12 _ HN.out (HS.out.alloc _) (by omega)).mono ?_; rintro e w1 ⟨x, rfl, ⟨x0, x1⟩, s1, g1⟩
  have S1 := Lib.hid s1
  have G1 := Lib.hid (gb_trans (gb_alloc (gb_refl w (some g)) _) g1)
  have K1 := Lib.hid ((CellsAt.new w 27 #[.int .i64 0, .int .i64 0]).grown g1 (by intro e; injection e with e; omega))
  clear s1 g1
  go_wp2_with fail
  refine (below_st v g A l cap 10007 _ HN.out S1.out (by omega)).mono ?_; rintro e w2 ⟨y, rfl, ⟨y0, y1⟩, s2, g2⟩
  have S2 := Lib.hid s2
  have G2 := Lib.hid (gb_trans G1.out g2)
  have hb := K1.out.grown g2 (by intro e; injection e with e; omega)
  have K2 := Lib.hid hb
  have f0 := hb.frozen 0
  have f1 := hb.frozen 1
  have c0 : w2.cell? ⟨w.heap.size, 0, none⟩ = some (.int .i64 0) := hb.cell 0
  have c1 : w2.cell? ⟨w.heap.size, 1, none⟩ = some (.int .i64 0) := hb.cell 1
  clear s2 g2 hb
  go_wp2_with fail
  obtain ⟨w9, e9, ⟨d0, d1⟩, S9, G9⟩ := cel_end (x := x) (y := y) HL (Nat.le_refl _) K2.out S2.out G2.out
  rw [e9]
  exact bodyPost_ret (v := .agg #[.int .i64 x, .int .i64 y]) (by simp [results, Try.results52, go_sem, d0, d1]) rfl ⟨x, y, rfl, ⟨by omega, by omega⟩, ⟨by omega, by omega⟩, S9, G9⟩

set_option maxHeartbeats 2000000 in
theorem draw6Any_calls (v : World) (g : Nat) (A : Option Addr) (l : List Int) (cap : Nat) (w : World) (hn : l.length ≤ maxLen) (h : St v g A l cap w) :
    Calls Try.prog 31 #[.pointer (some ⟨g, 0, none⟩)] w (CelS v w g A l cap) := by
  have HN := Lib.hid hn
  have HS := Lib.hid h
  have HL := h.2.lt
  clear hn h
  go_enter Try.func31, Try.ntmps31
  go_wp2_with fail
  refine (draw6_calls v g A l cap _ HN.out (HS.out.alloc _)).mono ?_; rintro e w1 ⟨x, y, rfl, ix, iy, s1, g1⟩
  have S1 := Lib.hid s1
  have G1 := Lib.hid (gb_trans (gb_alloc (gb_refl w (some g)) _) g1)
  have K1 := Lib.hid ((CellsAt.new w 27 #[.int .i64 0, .int .i64 0]).grown g1 (by intro e; injection e with e; omega))
  have z1 : w.heap.size < w1.heap.size := by have := g1.size; simp at this; omega
  have IX := Lib.hid ix
  have IY := Lib.hid iy
  clear s1 g1 ix iy
  go_wp2_with fail
  refine (once_st v g A l cap 6 _ HN.out (S1.out.alloc _) (by omega)).mono ?_; rintro e w2 ⟨b, rfl, s2, g2⟩
  have S2 := Lib.hid s2
  have G2 := Lib.hid (gb_trans (gb_alloc G1.out _) g2)
  have K2 := Lib.hid ((CellsAt.grown K1.out (World.grownBy_alloc w1 _ none) (by simp)).grown g2 (by intro e; injection e with e; omega))
  have T2 := Lib.hid ((CellsAt.new w1 27 #[.int .i64 x, .int .i64 y]).grown g2 (by intro e; injection e with e; omega))
  clear s2 g2
  rcases b with _ | _
  · have f0 := K2.out.frozen 0
    have f1 := K2.out.frozen 1
    have c0 : w2.cell? ⟨w1.heap.size, 0, none⟩ = some (.int .i64 x) := T2.out.cell 0
    have c1 : w2.cell? ⟨w1.heap.size, 1, none⟩ = some (.int .i64 y) := T2.out.cell 1
    have r0 : w2.cell? ⟨w.heap.size, 0, none⟩ = some (.int .i64 0) := K2.out.cell 0
    have r1 : w2.cell? ⟨w.heap.size, 1, none⟩ = some (.int .i64 0) := K2.out.cell 1
    go_wp2_with fail
    obtain ⟨w9, e9, ⟨d0, d1⟩, S9, G9⟩ := cel_end (x := x) (y := y) HL (Nat.le_refl _) K2.out S2.out G2.out
    rw [e9]
    have SS := Lib.hid S9
    have GG := Lib.hid G9
    clear e9 S9 G9 HL
    exact bodyPost_ret (v := .agg #[.int .i64 x, .int .i64 y]) (by simp [results, Try.results31, go_sem, d0, d1]) rfl ⟨_, _, rfl, IX.out, IY.out, SS.out, GG.out⟩
  · go_wp2_with fail
    refine (once_st v g A l cap 2 w2 HN.out S2.out (by omega)).mono ?_; rintro e w3 ⟨k, rfl, s3, g3⟩
    have S3 := Lib.hid s3
    have G3 := Lib.hid (gb_trans G2.out g3)
    have K3 := Lib.hid (K2.out.grown g3 (by intro e; injection e with e; omega))
    have T3 := Lib.hid (T2.out.grown g3 (by intro e; injection e with e; omega))
    clear s3 g3 S2 G2 K2 T2 S1 G1 K1
    rcases k with _ | _
    · go_wp2_with fail
      refine (num_st v g A l cap 10006 w3 HN.out S3.out (by omega) (by omega)).mono ?_; rintro e w4 ⟨u, rfl, iu, s4, g4⟩
      have IU := Lib.hid (show I64 u from iu)
      have KK := Lib.hid (K3.out.grown g4 (by intro e; injection e with e; omega))
      have TT := Lib.hid (T3.out.grown g4 (by intro e; injection e with e; omega))
      have K5 := Lib.hid (KK.out.grown (gb_set (gb_refl w4 (some w1.heap.size)) 1 (.int .i64 u)) (by intro e; injection e with e; omega))
      have S5 := Lib.hid (s4.set (Nat.lt_trans HL z1) 1 (.int .i64 u))
      have G5 := Lib.hid (gb_new (gb_trans G3.out g4) (Nat.le_of_lt z1) 1 (.int .i64 u))
      have f0 := KK.out.frozen 0
      have f1 := KK.out.frozen 1
      have q0 := TT.out.frozen 1
      have c0 : w4.cell? ⟨w1.heap.size, 0, none⟩ = some (.int .i64 x) := TT.out.cell 0
      have c1 : w4.cell? ⟨w1.heap.size, 1, none⟩ = some (.int .i64 y) := TT.out.cell 1
      have r0 : w4.cell? ⟨w.heap.size, 0, none⟩ = some (.int .i64 0) := KK.out.cell 0
      have r1 : w4.cell? ⟨w.heap.size, 1, none⟩ = some (.int .i64 0) := KK.out.cell 1
      clear s4 g4 iu
      go_wp2_with fail
      obtain ⟨w9, e9, ⟨d0, d1⟩, S9, G9⟩ := cel_end (x := x) (y := u) HL (Nat.le_refl _) K5.out S5.out G5.out
      rw [e9]
      have SS := Lib.hid S9
      have GG := Lib.hid G9
      clear e9 S9 G9 HL
      exact bodyPost_ret (v := .agg #[.int .i64 x, .int .i64 u]) (by simp [results, Try.results31, go_sem, d0, d1]) rfl ⟨_, _, rfl, IX.out, IU.out, SS.out, GG.out⟩
    · go_wp2_with fail
      refine (num_st v g A l cap 100000 w3 HN.out S3.out (by omega) (by omega)).mono ?_; rintro e w4 ⟨u, rfl, iu, s4, g4⟩
      have IU := Lib.hid (show I64 u from iu)
      have KK := Lib.hid (K3.out.grown g4 (by intro e; injection e with e; omega))
      have TT := Lib.hid (T3.out.grown g4 (by intro e; injection e with e; omega))
      have K5 := Lib.hid (KK.out.grown (gb_set (gb_refl w4 (some w1.heap.size)) 0 (.int .i64 u)) (by intro e; injection e with e; omega))
      have S5 := Lib.hid (s4.set (Nat.lt_trans HL z1) 0 (.int .i64 u))
      have G5 := Lib.hid (gb_new (gb_trans G3.out g4) (Nat.le_of_lt z1) 0 (.int .i64 u))
      have f0 := KK.out.frozen 0
      have f1 := KK.out.frozen 1
      have q0 := TT.out.frozen 0
      have c0 : w4.cell? ⟨w1.heap.size, 0, none⟩ = some (.int .i64 x) := TT.out.cell 0
      have c1 : w4.cell? ⟨w1.heap.size, 1, none⟩ = some (.int .i64 y) := TT.out.cell 1
      have r0 : w4.cell? ⟨w.heap.size, 0, none⟩ = some (.int .i64 0) := KK.out.cell 0
      have r1 : w4.cell? ⟨w.heap.size, 1, none⟩ = some (.int .i64 0) := KK.out.cell 1
      clear s4 g4 iu
      go_wp2_with fail
      obtain ⟨w9, e9, ⟨d0, d1⟩, S9, G9⟩ := cel_end (x := u) (y := y) HL (Nat.le_refl _) K5.out S5.out G5.out
      rw [e9]
      have SS := Lib.hid S9
      have GG := Lib.hid G9
      clear e9 S9 G9 HL
      exact bodyPost_ret (v := .agg #[.int .i64 u, .int .i64 y]) (by simp [results, Try.results31, go_sem, d0, d1]) rfl ⟨_, _, rfl, IU.out, IY.out, SS.out, GG.out⟩

theorem drawCellOf_calls (A : Option Addr) (l : List Int) (cap : Nat) (w : World) (hn : l.length ≤ maxLen) (hA : Ints w .u8 w.heap.size A l) :
    Calls Try.prog 9 #[.slice A l.length cap] w (FourNums w) := by
  have HA := Lib.hid hA
  have HN := Lib.hid hn
  clear hA hn
  go_enter Try.func9, Try.ntmps9
  go_wp2_with fail
  refine (drawHidden_calls A l cap w HN.out HA.out).mono ?_; rintro e w1 ⟨a, b, c, d, rfl, a0, b0, c0, d0, b1⟩
  go_wp2_with fail
  exact bodyPost_ret (results_tmp4 rfl _ _ _) rfl ⟨_, _, _, _, rfl, a0, b0, c0, d0, b1⟩

/-- A key, a number and a cell are answered; nothing that was there is written. -/
def NumsCelW (w : World) (e : Ending) (w' : World) : Prop :=
  ∃ k i t z : Int, e = .returned (.tuple #[.int .i64 k, .int .i64 i, .agg #[.int .i64 t, .int .i64 z]]) ∧ I64 k ∧ I64 i ∧ I64 t ∧ I64 z ∧ Below w.heap.size w w'
/-- A number and a cell are answered; nothing that was there is written. -/
def NumCelW (w : World) (e : Ending) (w' : World) : Prop :=
  ∃ i t z : Int, e = .returned (.tuple #[.int .i64 i, .agg #[.int .i64 t, .int .i64 z]]) ∧ I64 i ∧ I64 t ∧ I64 z ∧ Below w.heap.size w w'

set_option maxHeartbeats 1000000 in
theorem drawValueIn_calls (A : Option Addr) (l : List Int) (cap : Nat) (w : World) (hn : l.length ≤ maxLen) (hA : Ints w .u8 w.heap.size A l) :
    Calls Try.prog 11 #[.slice A l.length cap] w (NumsCelW w) := by
  have HA := Lib.hid ((hA.below ((Below.refl w.heap.size w).alloc (Nat.le_refl _) (.cells #[.int .i64 0, .int .i64 0] 27)) (Nat.le_refl _)).more (show w.heap.size ≤ (w.alloc (.cells #[.int .i64 0, .int .i64 0] 27)).heap.size by simp))
  have HN := Lib.hid hn
  clear hA hn
  go_enter Try.func11, Try.ntmps11
  go_wp2_with fail
  refine (new_calls A l cap _ HN.out HA.out).mono ?_; rintro e w1 ⟨rfl, b1, c1⟩
  have S1 := Lib.hid (St.new b1 c1)
  clear b1 c1 HA
  have z0 : w.heap.size < (w.alloc (.cells #[.int .i64 0, .int .i64 0] 27)).heap.size := by simp
  have K0 := Lib.hid (CellsAt.new w 27 #[.int .i64 0, .int .i64 0])
  have B0 := Lib.hid ((Below.refl w.heap.size w).alloc (Nat.le_refl _) (.cells #[.int .i64 0, .int .i64 0] 27))
  generalize w.alloc (.cells #[.int .i64 0, .int .i64 0] 27) = v at S1 z0 K0 B0 ⊢
  obtain ⟨g, hg⟩ : ∃ g, g = v.heap.size := ⟨_, rfl⟩
  rw [← hg] at S1 z0 ⊢
  have HG := Lib.hid hg
  clear hg
  go_wp2_with fail
  refine (drawKey_st v g A l cap w1 HN.out S1.out).mono ?_; rintro e wk ⟨k, rfl, k0, sk, -⟩
  have SK := Lib.hid sk
  have IK := Lib.hid (show I64 k from k0)
  clear sk k0
  go_wp2_with fail
  refine (dfrom_st v g A l cap (-1) 24 wk HN.out SK.out (by omega) (by omega) (by omega)).mono ?_; rintro e wi ⟨i, rfl, i0, si, -⟩
  have SI := Lib.hid si
  have II := Lib.hid (show I64 i from ⟨by omega, by omega⟩)
  clear si i0
  go_wp2_with fail
  refine (draw6Any_calls v g A l cap wi HN.out SI.out).mono ?_; rintro e w2 ⟨x, y, rfl, ix, iy, s2, -⟩
  have hk := K0.out.below s2.1 z0
  have B2 := Lib.hid (B0.out.trans (s2.1.mono (Nat.le_of_lt z0)))
  have IX := Lib.hid ix
  have IY := Lib.hid iy
  have f0 := hk.frozen 0
  have f1 := hk.frozen 1
  have c0 : w2.cell? ⟨w.heap.size, 0, none⟩ = some (.int .i64 0) := hk.cell 0
  have c1 : w2.cell? ⟨w.heap.size, 1, none⟩ = some (.int .i64 0) := hk.cell 1
  have HK := Lib.hid hk
  clear s2 ix iy hk
  go_wp2_with fail
  obtain ⟨w9, e9, ⟨d0, d1⟩, b9⟩ := cell_end (x := .int .i64 x) (y := .int .i64 y) HK.out B2.out (Nat.le_refl _)
  rw [e9]
  have BB := Lib.hid b9
  clear e9 b9
  exact bodyPost_ret (v := .tuple #[.int .i64 k, .int .i64 i, .agg #[.int .i64 x, .int .i64 y]]) (by simp [results, Try.results11, go_sem, d0, d1]) rfl ⟨_, _, _, _, rfl, IK.out, II.out, IX.out, IY.out, BB.out⟩

set_option maxHeartbeats 1000000 in
theorem drawTripleIn_calls (A : Option Addr) (l : List Int) (cap : Nat) (w : World) (hn : l.length ≤ maxLen) (hA : Ints w .u8 w.heap.size A l) :
    Calls Try.prog 12 #[.slice A l.length cap] w (NumCelW w) := by
  have HA := Lib.hid ((hA.below ((Below.refl w.heap.size w).alloc (Nat.le_refl _) (.cells #[.int .i64 0, .int .i64 0] 27)) (Nat.le_refl _)).more (show w.heap.size ≤ (w.alloc (.cells #[.int .i64 0, .int .i64 0] 27)).heap.size by simp))
  have HN := Lib.hid hn
  clear hA hn
  go_enter Try.func12, Try.ntmps12
  go_wp2_with fail
  refine (new_calls A l cap _ HN.out HA.out).mono ?_; rintro e w1 ⟨rfl, b1, c1⟩
  have S1 := Lib.hid (St.new b1 c1)
  clear b1 c1 HA
  have z0 : w.heap.size < (w.alloc (.cells #[.int .i64 0, .int .i64 0] 27)).heap.size := by simp
  have K0 := Lib.hid (CellsAt.new w 27 #[.int .i64 0, .int .i64 0])
  have B0 := Lib.hid ((Below.refl w.heap.size w).alloc (Nat.le_refl _) (.cells #[.int .i64 0, .int .i64 0] 27))
  generalize w.alloc (.cells #[.int .i64 0, .int .i64 0] 27) = v at S1 z0 K0 B0 ⊢
  obtain ⟨g, hg⟩ : ∃ g, g = v.heap.size := ⟨_, rfl⟩
  rw [← hg] at S1 z0 ⊢
  have HG := Lib.hid hg
  clear hg
  go_wp2_with fail
  refine (dfrom_st v g A l cap (-1) 24 w1 HN.out S1.out (by omega) (by omega) (by omega)).mono ?_; rintro e wi ⟨i, rfl, i0, si, -⟩
  have SI := Lib.hid si
  have II := Lib.hid (show I64 i from ⟨by omega, by omega⟩)
  clear si i0
  go_wp2_with fail
  refine (draw6Any_calls v g A l cap wi HN.out SI.out).mono ?_; rintro e w2 ⟨x, y, rfl, ix, iy, s2, -⟩
  have hk := K0.out.below s2.1 z0
  have B2 := Lib.hid (B0.out.trans (s2.1.mono (Nat.le_of_lt z0)))
  have IX := Lib.hid ix
  have IY := Lib.hid iy
  have f0 := hk.frozen 0
  have f1 := hk.frozen 1
  have c0 : w2.cell? ⟨w.heap.size, 0, none⟩ = some (.int .i64 0) := hk.cell 0
  have c1 : w2.cell? ⟨w.heap.size, 1, none⟩ = some (.int .i64 0) := hk.cell 1
  have HK := Lib.hid hk
  clear s2 ix iy hk
  go_wp2_with fail
  obtain ⟨w9, e9, ⟨d0, d1⟩, b9⟩ := cell_end (x := .int .i64 x) (y := .int .i64 y) HK.out B2.out (Nat.le_refl _)
  rw [e9]
  have BB := Lib.hid b9
  clear e9 b9
  exact bodyPost_ret (v := .tuple #[.int .i64 i, .agg #[.int .i64 x, .int .i64 y]]) (by simp [results, Try.results12, go_sem, d0, d1]) rfl ⟨_, _, _, rfl, II.out, IX.out, IY.out, BB.out⟩
end Go.Proofs.Ytcipjmenhoeekaa.Mx

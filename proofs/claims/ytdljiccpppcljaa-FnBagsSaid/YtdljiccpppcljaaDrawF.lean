/- CONTRACTS OF spec.l3Draw, l3DrawAny, DrawTripleOk, DrawTagOf: each answers a triple of numbers of type int64; nothing that was there is written. -/
import Derived.Test.YtdljiccpppcljaaDrawE
import Derived.Test.YtdljiccpppcljaaTripA
namespace Go.Proofs.Ytdljiccpppcljaa.Mx
open Go.ChangeShapes Go.WideShapes Go.ChangeAt Go.RowKit
set_option linter.unusedVariables false

theorem Cur.set {w : World} {g : Nat} {A : Option Addr} {l : List Int} {cap : Nat} (h : Cur w g A l cap) {b : Nat} (hb : g < b) (i : Nat) (u : Value) : Cur (w.setCell ⟨b, i, none⟩ u) g A l cap :=
  h.gb (gb_set (gb_refl w (some b)) i u) hb
theorem St.set {v w : World} {g : Nat} {A : Option Addr} {l : List Int} {cap : Nat} (h : St v g A l cap w) {b : Nat} (hb : g < b) (i : Nat) (u : Value) : St v g A l cap (w.setCell ⟨b, i, none⟩ u) :=
  ⟨bgb h.1 (gb_set (gb_refl w (some b)) i u) (Nat.le_of_lt h.2.lt) (Nat.le_of_lt hb), h.2.set hb i u⟩
/-- A write to a block that is newer than w. -/
theorem gb_new {w w' : World} {g b : Nat} (h : w.grownBy w' (some g)) (hb : w.heap.size ≤ b) (i : Nat) (u : Value) : w.grownBy (w'.setCell ⟨b, i, none⟩ u) (some g) :=
  ⟨h.os, h.tape, h.output, by simpa [World.setCell] using h.size, fun k hk hr => (Below.heap_setCell _ _ _ _ (by simp; omega)).trans (h.block k hk hr)⟩

/-- A triple is answered, and the state stands. -/
def TriS (v w : World) (g : Nat) (A : Option Addr) (l : List Int) (cap : Nat) (e : Ending) (w' : World) : Prop :=
  ∃ a t z : Int, e = .returned (.agg #[.int .i64 a, .int .i64 t, .int .i64 z]) ∧ I64 a ∧ I64 t ∧ I64 z ∧ St v g A l cap w' ∧ w.grownBy w' (some g)

set_option maxHeartbeats 1000000 in
theorem draw3_calls (v : World) (g : Nat) (A : Option Addr) (l : List Int) (cap : Nat) (w : World) (hn : l.length ≤ maxLen) (h : St v g A l cap w) :
    Calls Try.prog 41 #[.pointer (some ⟨g, 0, none⟩)] w (TriS v w g A l cap) := by
  have HN := Lib.hid hn
  have HS := Lib.hid h
  have HL := h.2.lt
  clear hn h
  go_enter Try.func41, Try.ntmps41
  go_wp2_with fail
  refine (below_st v g A l cap 4 _ HN.out (HS.out.alloc _) (by omega)).mono ?_; rintro e w1 ⟨x, rfl, ⟨x0, x1⟩, s1, g1⟩
  have S1 := Lib.hid s1
  have G1 := Lib.hid (gb_trans (gb_alloc (gb_refl w (some g)) _) g1)
  have K1 := Lib.hid ((CellsAt.new w 32 #[.int .i64 0, .int .i64 0, .int .i64 0]).grown g1 (by intro e; injection e with e; omega))
  clear s1 g1
  go_wp2_with fail
  refine (below_st v g A l cap 6 _ HN.out S1.out (by omega)).mono ?_; rintro e w2 ⟨y, rfl, ⟨y0, y1⟩, s2, g2⟩
  have S2 := Lib.hid s2
  have G2 := Lib.hid (gb_trans G1.out g2)
  have K2 := Lib.hid (K1.out.grown g2 (by intro e; injection e with e; omega))
  clear s2 g2
  go_wp2_with fail
  refine (below_st v g A l cap 4 _ HN.out S2.out (by omega)).mono ?_; rintro e w3 ⟨z, rfl, ⟨z0, z1⟩, s3, g3⟩
  have S3 := Lib.hid s3
  have G3 := Lib.hid (gb_trans G2.out g3)
  have hb := K2.out.grown g3 (by intro e; injection e with e; omega)
  have K3 := Lib.hid hb
  have f0 := hb.frozen 0
  have f1 := hb.frozen 1
  have f2 := hb.frozen 2
  have c0 : w3.cell? ⟨w.heap.size, 0, none⟩ = some (.int .i64 0) := hb.cell 0
  have c1 : w3.cell? ⟨w.heap.size, 1, none⟩ = some (.int .i64 0) := hb.cell 1
  have c2 : w3.cell? ⟨w.heap.size, 2, none⟩ = some (.int .i64 0) := hb.cell 2
  clear s3 g3 hb
  go_wp2_with fail
  have S4 := Lib.hid (((S3.out.set HL 0 (.int .i64 x)).set HL 1 (.int .i64 y)).set HL 2 (.int .i64 z))
  have G4 := Lib.hid (gb_new (gb_new (gb_new G3.out (Nat.le_refl _) 0 (.int .i64 x)) (Nat.le_refl _) 1 (.int .i64 y)) (Nat.le_refl _) 2 (.int .i64 z))
  have hk := ((K3.out.set_ 0 (.int .i64 x)).set_ 1 (.int .i64 y)).set_ 2 (.int .i64 z)
  generalize ((w3.setCell ⟨w.heap.size, 0, none⟩ (.int .i64 x)).setCell ⟨w.heap.size, 1, none⟩ (.int .i64 y)).setCell ⟨w.heap.size, 2, none⟩ (.int .i64 z) = w4 at S4 G4 hk ⊢
  have d0 : w4.cell? ⟨w.heap.size, 0, none⟩ = some (.int .i64 x) := hk.cell 0
  have d1 : w4.cell? ⟨w.heap.size, 1, none⟩ = some (.int .i64 y) := hk.cell 1
  have d2 : w4.cell? ⟨w.heap.size, 2, none⟩ = some (.int .i64 z) := hk.cell 2
  exact bodyPost_ret (v := .agg #[.int .i64 x, .int .i64 y, .int .i64 z]) (by simp [results, Try.results41, go_sem, d0, d1, d2]) rfl ⟨x, y, z, rfl, ⟨by omega, by omega⟩, ⟨by omega, by omega⟩, ⟨by omega, by omega⟩, S4.out, G4.out⟩

/-- What the end of l3DrawAny does: the result's cells are written, and read. -/
theorem tri_end {v w w3 : World} {g h : Nat} {A : Option Addr} {l : List Int} {cap : Nat} {x y z p q r : Int} (hg : g < h) (hw : w.heap.size ≤ h) (hk : CellsAt w3 h 32 #[.int .i64 p, .int .i64 q, .int .i64 r]) (hs : St v g A l cap w3) (hG : w.grownBy w3 (some g)) :
    ∃ w4, ((w3.setCell ⟨h, 0, none⟩ (.int .i64 x)).setCell ⟨h, 1, none⟩ (.int .i64 y)).setCell ⟨h, 2, none⟩ (.int .i64 z) = w4 ∧ (w4.cell? ⟨h, 0, none⟩ = some (.int .i64 x) ∧ w4.cell? ⟨h, 1, none⟩ = some (.int .i64 y) ∧ w4.cell? ⟨h, 2, none⟩ = some (.int .i64 z)) ∧ St v g A l cap w4 ∧ w.grownBy w4 (some g) := by
  have hk' := ((hk.set_ 0 (.int .i64 x)).set_ 1 (.int .i64 y)).set_ 2 (.int .i64 z)
  exact ⟨_, rfl, ⟨hk'.cell 0, hk'.cell 1, hk'.cell 2⟩, ((hs.set hg 0 (.int .i64 x)).set hg 1 (.int .i64 y)).set hg 2 (.int .i64 z),
    gb_new (gb_new (gb_new hG hw 0 (.int .i64 x)) hw 1 (.int .i64 y)) hw 2 (.int .i64 z)⟩

set_option maxHeartbeats 2000000 in
theorem draw3Any_calls (v : World) (g : Nat) (A : Option Addr) (l : List Int) (cap : Nat) (w : World) (hn : l.length ≤ maxLen) (h : St v g A l cap w) :
    Calls Try.prog 27 #[.pointer (some ⟨g, 0, none⟩)] w (TriS v w g A l cap) := by
  have HN := Lib.hid hn
  have HS := Lib.hid h
  have HL := h.2.lt
  clear hn h
  go_enter Try.func27, Try.ntmps27
  go_wp2_with fail
  refine (draw3_calls v g A l cap _ HN.out (HS.out.alloc _)).mono ?_; rintro e w1 ⟨x, y, z, rfl, ix, iy, iz, s1, g1⟩
  have S1 := Lib.hid s1
  have G1 := Lib.hid (gb_trans (gb_alloc (gb_refl w (some g)) _) g1)
  have K1 := Lib.hid ((CellsAt.new w 32 #[.int .i64 0, .int .i64 0, .int .i64 0]).grown g1 (by intro e; injection e with e; omega))
  have z1 : w.heap.size < w1.heap.size := by have := g1.size; simp at this; omega
  have IX := Lib.hid ix
  have IY := Lib.hid iy
  have IZ := Lib.hid iz
  clear s1 g1 ix iy iz
  go_wp2_with fail
  refine (once_st v g A l cap 5 _ HN.out (S1.out.alloc _) (by omega)).mono ?_; rintro e w2 ⟨b, rfl, s2, g2⟩
  have S2 := Lib.hid s2
  have G2 := Lib.hid (gb_trans (gb_alloc G1.out _) g2)
  have K2 := Lib.hid ((CellsAt.grown K1.out (World.grownBy_alloc w1 _ none) (by simp)).grown g2 (by intro e; injection e with e; omega))
  have T2 := Lib.hid ((CellsAt.new w1 32 #[.int .i64 x, .int .i64 y, .int .i64 z]).grown g2 (by intro e; injection e with e; omega))
  clear s2 g2
  rcases b with _ | _
  · have f0 := K2.out.frozen 0
    have f1 := K2.out.frozen 1
    have f2 := K2.out.frozen 2
    have c0 : w2.cell? ⟨w1.heap.size, 0, none⟩ = some (.int .i64 x) := T2.out.cell 0
    have c1 : w2.cell? ⟨w1.heap.size, 1, none⟩ = some (.int .i64 y) := T2.out.cell 1
    have c2 : w2.cell? ⟨w1.heap.size, 2, none⟩ = some (.int .i64 z) := T2.out.cell 2
    have r0 : w2.cell? ⟨w.heap.size, 0, none⟩ = some (.int .i64 0) := K2.out.cell 0
    have r1 : w2.cell? ⟨w.heap.size, 1, none⟩ = some (.int .i64 0) := K2.out.cell 1
    have r2 : w2.cell? ⟨w.heap.size, 2, none⟩ = some (.int .i64 0) := K2.out.cell 2
    go_wp2_with fail
    obtain ⟨w9, e9, ⟨d0, d1, d2⟩, S9, G9⟩ := tri_end (x := x) (y := y) (z := z) HL (Nat.le_refl _) K2.out S2.out G2.out
    rw [e9]
    have SS := Lib.hid S9
    have GG := Lib.hid G9
    clear e9 S9 G9 HL
    exact bodyPost_ret (v := .agg #[.int .i64 x, .int .i64 y, .int .i64 z]) (by simp [results, Try.results27, go_sem, d0, d1, d2]) rfl ⟨_, _, _, rfl, IX.out, IY.out, IZ.out, SS.out, GG.out⟩
  · go_wp2_with fail
    refine (below_st v g A l cap 3 w2 HN.out S2.out (by omega)).mono ?_; rintro e w3 ⟨k, rfl, ⟨k0, k1⟩, s3, g3⟩
    have S3 := Lib.hid s3
    have G3 := Lib.hid (gb_trans G2.out g3)
    have K3 := Lib.hid (K2.out.grown g3 (by intro e; injection e with e; omega))
    have T3 := Lib.hid (T2.out.grown g3 (by intro e; injection e with e; omega))
    clear s3 g3 S2 G2 K2 T2 S1 G1 K1
    have hk3 : k = 0 ∨ k = 1 ∨ k = 2 := by omega
    clear k0 k1
    rcases hk3 with rfl | rfl | rfl
    · go_wp2_with fail
      refine (num_st v g A l cap 23 w3 HN.out S3.out (by omega) (by omega)).mono ?_; rintro e w4 ⟨u, rfl, iu, s4, g4⟩
      have IU := Lib.hid (show I64 u from iu)
      have KK := Lib.hid (K3.out.grown g4 (by intro e; injection e with e; omega))
      have TT := Lib.hid (T3.out.grown g4 (by intro e; injection e with e; omega))
      have K5 := Lib.hid (KK.out.grown (gb_set (gb_refl w4 (some w1.heap.size)) 0 (.int .i64 u)) (by intro e; injection e with e; omega))
      have S5 := Lib.hid (s4.set (Nat.lt_trans HL z1) 0 (.int .i64 u))
      have G5 := Lib.hid (gb_new (gb_trans G3.out g4) (Nat.le_of_lt z1) 0 (.int .i64 u))
      have f0 := KK.out.frozen 0
      have f1 := KK.out.frozen 1
      have f2 := KK.out.frozen 2
      have q0 := TT.out.frozen 0
      have c0 : w4.cell? ⟨w1.heap.size, 0, none⟩ = some (.int .i64 x) := TT.out.cell 0
      have c1 : w4.cell? ⟨w1.heap.size, 1, none⟩ = some (.int .i64 y) := TT.out.cell 1
      have c2 : w4.cell? ⟨w1.heap.size, 2, none⟩ = some (.int .i64 z) := TT.out.cell 2
      have r0 : w4.cell? ⟨w.heap.size, 0, none⟩ = some (.int .i64 0) := KK.out.cell 0
      have r1 : w4.cell? ⟨w.heap.size, 1, none⟩ = some (.int .i64 0) := KK.out.cell 1
      have r2 : w4.cell? ⟨w.heap.size, 2, none⟩ = some (.int .i64 0) := KK.out.cell 2
      clear s4 g4 iu
      go_wp2_with fail
      obtain ⟨w9, e9, ⟨d0, d1, d2⟩, S9, G9⟩ := tri_end (x := u) (y := y) (z := z) HL (Nat.le_refl _) K5.out S5.out G5.out
      rw [e9]
      have SS := Lib.hid S9
      have GG := Lib.hid G9
      clear e9 S9 G9 HL
      exact bodyPost_ret (v := .agg #[.int .i64 u, .int .i64 y, .int .i64 z]) (by simp [results, Try.results27, go_sem, d0, d1, d2]) rfl ⟨_, _, _, rfl, IU.out, IY.out, IZ.out, SS.out, GG.out⟩
    · go_wp2_with fail
      refine (num_st v g A l cap 100000 w3 HN.out S3.out (by omega) (by omega)).mono ?_; rintro e w4 ⟨u, rfl, iu, s4, g4⟩
      have IU := Lib.hid (show I64 u from iu)
      have KK := Lib.hid (K3.out.grown g4 (by intro e; injection e with e; omega))
      have TT := Lib.hid (T3.out.grown g4 (by intro e; injection e with e; omega))
      have K5 := Lib.hid (KK.out.grown (gb_set (gb_refl w4 (some w1.heap.size)) 1 (.int .i64 u)) (by intro e; injection e with e; omega))
      have S5 := Lib.hid (s4.set (Nat.lt_trans HL z1) 1 (.int .i64 u))
      have G5 := Lib.hid (gb_new (gb_trans G3.out g4) (Nat.le_of_lt z1) 1 (.int .i64 u))
      have f0 := KK.out.frozen 0
      have f1 := KK.out.frozen 1
      have f2 := KK.out.frozen 2
      have q1 := TT.out.frozen 1
      have c0 : w4.cell? ⟨w1.heap.size, 0, none⟩ = some (.int .i64 x) := TT.out.cell 0
      have c1 : w4.cell? ⟨w1.heap.size, 1, none⟩ = some (.int .i64 y) := TT.out.cell 1
      have c2 : w4.cell? ⟨w1.heap.size, 2, none⟩ = some (.int .i64 z) := TT.out.cell 2
      have r0 : w4.cell? ⟨w.heap.size, 0, none⟩ = some (.int .i64 0) := KK.out.cell 0
      have r1 : w4.cell? ⟨w.heap.size, 1, none⟩ = some (.int .i64 0) := KK.out.cell 1
      have r2 : w4.cell? ⟨w.heap.size, 2, none⟩ = some (.int .i64 0) := KK.out.cell 2
      clear s4 g4 iu
      go_wp2_with fail
      obtain ⟨w9, e9, ⟨d0, d1, d2⟩, S9, G9⟩ := tri_end (x := x) (y := u) (z := z) HL (Nat.le_refl _) K5.out S5.out G5.out
      rw [e9]
      have SS := Lib.hid S9
      have GG := Lib.hid G9
      clear e9 S9 G9 HL
      exact bodyPost_ret (v := .agg #[.int .i64 x, .int .i64 u, .int .i64 z]) (by simp [results, Try.results27, go_sem, d0, d1, d2]) rfl ⟨_, _, _, rfl, IX.out, IU.out, IZ.out, SS.out, GG.out⟩
    · go_wp2_with fail
      refine (num_st v g A l cap 10006 w3 HN.out S3.out (by omega) (by omega)).mono ?_; rintro e w4 ⟨u, rfl, iu, s4, g4⟩
      have IU := Lib.hid (show I64 u from iu)
      have KK := Lib.hid (K3.out.grown g4 (by intro e; injection e with e; omega))
      have TT := Lib.hid (T3.out.grown g4 (by intro e; injection e with e; omega))
      have K5 := Lib.hid (KK.out.grown (gb_set (gb_refl w4 (some w1.heap.size)) 2 (.int .i64 u)) (by intro e; injection e with e; omega))
      have S5 := Lib.hid (s4.set (Nat.lt_trans HL z1) 2 (.int .i64 u))
      have G5 := Lib.hid (gb_new (gb_trans G3.out g4) (Nat.le_of_lt z1) 2 (.int .i64 u))
      have f0 := KK.out.frozen 0
      have f1 := KK.out.frozen 1
      have f2 := KK.out.frozen 2
      have q2 := TT.out.frozen 2
      have c0 : w4.cell? ⟨w1.heap.size, 0, none⟩ = some (.int .i64 x) := TT.out.cell 0
      have c1 : w4.cell? ⟨w1.heap.size, 1, none⟩ = some (.int .i64 y) := TT.out.cell 1
      have c2 : w4.cell? ⟨w1.heap.size, 2, none⟩ = some (.int .i64 z) := TT.out.cell 2
      have r0 : w4.cell? ⟨w.heap.size, 0, none⟩ = some (.int .i64 0) := KK.out.cell 0
      have r1 : w4.cell? ⟨w.heap.size, 1, none⟩ = some (.int .i64 0) := KK.out.cell 1
      have r2 : w4.cell? ⟨w.heap.size, 2, none⟩ = some (.int .i64 0) := KK.out.cell 2
      clear s4 g4 iu
      go_wp2_with fail
      obtain ⟨w9, e9, ⟨d0, d1, d2⟩, S9, G9⟩ := tri_end (x := x) (y := y) (z := u) HL (Nat.le_refl _) K5.out S5.out G5.out
      rw [e9]
      have SS := Lib.hid S9
      have GG := Lib.hid G9
      clear e9 S9 G9 HL
      exact bodyPost_ret (v := .agg #[.int .i64 x, .int .i64 y, .int .i64 u]) (by simp [results, Try.results27, go_sem, d0, d1, d2]) rfl ⟨_, _, _, rfl, IX.out, IY.out, IU.out, SS.out, GG.out⟩
end Go.Proofs.Ytdljiccpppcljaa.Mx

/- CONTRACTS OF spec.DrawRegionOf, DrawFirstOf: a plan and a number are answered; nothing that was there is written. -/
import Derived.Test.YtagjgdgkkblidaaDrawL
import Derived.Deep.RegionWith
namespace Go.Proofs.Ytagjgdgkkblidaa.Mx
open Go.ChangeShapes Go.WideShapes Go.ChangeAt Go.RowKit
set_option linter.unusedVariables false

/-- A plan and a number are answered; nothing that was there is written. -/
def PlanNumW (w : World) (e : Ending) (w' : World) : Prop :=
  ∃ (key : Int) (A : Option Addr) (zs : List Int) (c : Nat) (x : Int), e = .returned (.tuple #[.agg #[.int .i64 key, .slice A zs.length c], .int .i64 x]) ∧ I64 x ∧ zs.length ≤ 5 ∧ zs.length ≤ c ∧ Ints w' .i64 w'.heap.size A zs ∧ Below w.heap.size w w'

set_option maxHeartbeats 1000000 in
theorem drawRegion_calls (A : Option Addr) (l : List Int) (cap : Nat) (w : World) (hn : l.length ≤ maxLen) (hA : Ints w .u8 w.heap.size A l) :
    Calls Try.prog 9 #[.slice A l.length cap] w (PlanNumW w) := by
  have HN := Lib.hid hn
  have hA0 := (hA.below ((Below.refl w.heap.size w).alloc (Nat.le_refl _) (.cells #[.int .i64 0, .slice none 0 0] 26)) (Nat.le_refl _)).more (show w.heap.size ≤ (w.alloc (.cells #[.int .i64 0, .slice none 0 0] 26)).heap.size by simp)
  have HA := Lib.hid hA0
  clear hn hA hA0
  go_enter Try.func9, Try.ntmps9
  go_wp2_with fail
  refine (new_calls A l cap _ HN.out HA.out).mono ?_; rintro e w1 ⟨rfl, b1, c1⟩
  have B0 := Lib.hid ((Below.refl w.heap.size w).alloc (Nat.le_refl _) (.cells #[.int .i64 0, .slice none 0 0] 26))
  have k1 := (CellsAt.new w 26 #[.int .i64 0, .slice none 0 0]).below b1 (by simp)
  have s1 : St (w.alloc (.cells #[.int .i64 0, .slice none 0 0] 26)) (w.heap.size + 1) A l cap w1 := by
    have h := St.new b1 c1
    rwa [show (w.alloc (.cells #[.int .i64 0, .slice none 0 0] 26)).heap.size = w.heap.size + 1 by simp] at h
  have S1 := Lib.hid s1
  have K1 := Lib.hid k1
  have z1 : w.heap.size + 1 < w1.heap.size := s1.2.lt
  clear b1 c1 s1 k1 HA
  try rw [show (w.alloc (.cells #[.int .i64 0, .slice none 0 0] 26)).heap.size = w.heap.size + 1 by simp]
  go_wp2_with fail
  refine (draw5Any_calls _ (w.heap.size + 1) A l cap w1 HN.out S1.out).mono ?_; rintro e w2 ⟨key, u, zs, rfl, hz, r2, s2, g2⟩
  obtain ⟨q, c, hq, -, hc⟩ := r2.reads_cap
  subst hq
  have S2 := Lib.hid (s2.alloc (.cells #[.int .i64 key, .slice q zs.length c] 26))
  have K2 := Lib.hid (CellsAt.grown (K1.out.grown g2 (by intro e; injection e with e; omega)) (World.grownBy_alloc w2 (.cells #[.int .i64 key, .slice q zs.length c] 26) none) (by simp))
  have P2 := Lib.hid (CellsAt.new w2 26 #[.int .i64 key, .slice q zs.length c])
  have R2 := Lib.hid (r2.alloc (.cells #[.int .i64 key, .slice q zs.length c] 26))
  have z2 : w1.heap.size ≤ w2.heap.size := g2.size
  have e1 : w2.heap.size < (w2.alloc (.cells #[.int .i64 key, .slice q zs.length c] 26)).heap.size := by simp
  clear s2 g2 r2 S1 K1
  go_upto_region 3 with fail
  have c0 : (w2.alloc (.cells #[.int .i64 key, .slice q zs.length c] 26)).cell? ⟨w2.heap.size, 0, none⟩ = some (.int .i64 key) := P2.out.cell 0
  have c1 : (w2.alloc (.cells #[.int .i64 key, .slice q zs.length c] 26)).cell? ⟨w2.heap.size, 1, none⟩ = some (.slice q zs.length c) := P2.out.cell 1
  generalize hw3 : w2.alloc (.cells #[.int .i64 key, .slice q zs.length c] 26) = w3 at S2 K2 P2 R2 e1 c0 c1 ⊢
  clear hw3
  go_region_with (go_at_call 26; refine (from_st (w.alloc (.cells #[.int .i64 0, .slice none 0 0] 26)) (w.heap.size + 1) A l cap (-1) 10 _ HN.out ?_ (by omega) (by omega) (by omega)).mono ?_; exact S2.out.drew; rintro e wx ⟨x, rfl, ⟨x0, x1⟩, sx, gx⟩; have px := P2.out.drew.grown gx (by intro e; injection e with e; omega); have kx := K2.out.drew.grown gx (by intro e; injection e with e; omega); have d0 : wx.cell? ⟨w2.heap.size, 0, none⟩ = some (.int .i64 key) := px.cell 0; have d1 : wx.cell? ⟨w2.heap.size, 1, none⟩ = some (.slice q zs.length c) := px.cell 1; have r0 : wx.cell? ⟨w.heap.size, 0, none⟩ = some (.int .i64 0) := kx.cell 0; have r1 : wx.cell? ⟨w.heap.size, 1, none⟩ = some (.slice none 0 0) := kx.cell 1; have f0 := kx.frozen 0; have f1 := kx.frozen 1; have SX := Lib.hid sx; have KX := Lib.hid kx; have RX := Lib.hid (Row.grown (show Row w3.drew _ _ _ _ from ⟨R2.out.1.drew, R2.out.2⟩) gx (by omega)); clear sx gx px kx)
  all_goals
    go_wp2_with fail
    have hk := (KX.out.set_ 0 (.int .i64 key)).set_ 1 (.slice q zs.length c)
    have hr := (RX.out.grown (gb_set (gb_refl wx (some w.heap.size)) 0 (.int .i64 key)) (by omega)).grown (gb_set (gb_refl _ (some w.heap.size)) 1 (.slice q zs.length c)) (by omega)
    have hb := ((B0.out.trans (SX.out.1.mono (by omega))).setCell (p := ⟨w.heap.size, 0, none⟩) (Nat.le_refl _) (.int .i64 key)).setCell (p := ⟨w.heap.size, 1, none⟩) (Nat.le_refl _) (.slice q zs.length c)
    generalize World.setCell _ _ _ = w4 at hk hr hb ⊢
    have d0 : w4.cell? ⟨w.heap.size, 0, none⟩ = some (.int .i64 key) := hk.cell 0
    have d1 : w4.cell? ⟨w.heap.size, 1, none⟩ = some (.slice q zs.length c) := hk.cell 1
    obtain ⟨q', c', hq', hI⟩ := hr.reads
    injection hq' with hq1 hq2 hq3
    subst hq1
    exact bodyPost_ret (v := .tuple #[.agg #[.int .i64 key, .slice q zs.length c], .int .i64 x]) (by simp [results, Try.results9, go_sem, d0, d1]) rfl ⟨key, q, zs, c, x, rfl, ⟨by omega, by omega⟩, hz, hc, hI, hb⟩

set_option maxHeartbeats 1000000 in
theorem drawFirst_calls (A : Option Addr) (l : List Int) (cap : Nat) (w : World) (hn : l.length ≤ maxLen) (hA : Ints w .u8 w.heap.size A l) :
    Calls Try.prog 10 #[.slice A l.length cap] w (PlanNumW w) := by
  have HN := Lib.hid hn
  have hA0 := (hA.below ((Below.refl w.heap.size w).alloc (Nat.le_refl _) (.cells #[.int .i64 0, .slice none 0 0] 26)) (Nat.le_refl _)).more (show w.heap.size ≤ (w.alloc (.cells #[.int .i64 0, .slice none 0 0] 26)).heap.size by simp)
  have HA := Lib.hid hA0
  clear hn hA hA0
  go_enter Try.func10, Try.ntmps10
  go_wp2_with fail
  refine (new_calls A l cap _ HN.out HA.out).mono ?_; rintro e w1 ⟨rfl, b1, c1⟩
  have B0 := Lib.hid ((Below.refl w.heap.size w).alloc (Nat.le_refl _) (.cells #[.int .i64 0, .slice none 0 0] 26))
  have k1 := (CellsAt.new w 26 #[.int .i64 0, .slice none 0 0]).below b1 (by simp)
  have s1 : St (w.alloc (.cells #[.int .i64 0, .slice none 0 0] 26)) (w.heap.size + 1) A l cap w1 := by
    have h := St.new b1 c1
    rwa [show (w.alloc (.cells #[.int .i64 0, .slice none 0 0] 26)).heap.size = w.heap.size + 1 by simp] at h
  have S1 := Lib.hid s1
  have K1 := Lib.hid k1
  have z1 : w.heap.size + 1 < w1.heap.size := s1.2.lt
  clear b1 c1 s1 k1 HA
  try rw [show (w.alloc (.cells #[.int .i64 0, .slice none 0 0] 26)).heap.size = w.heap.size + 1 by simp]
  go_wp2_with fail
  refine (draw5Any_calls _ (w.heap.size + 1) A l cap w1 HN.out S1.out).mono ?_; rintro e w2 ⟨key, u, zs, rfl, hz, r2, s2, g2⟩
  obtain ⟨q, c, hq, -, hc⟩ := r2.reads_cap
  subst hq
  have S2 := Lib.hid (s2.alloc (.cells #[.int .i64 key, .slice q zs.length c] 26))
  have K2 := Lib.hid (CellsAt.grown (K1.out.grown g2 (by intro e; injection e with e; omega)) (World.grownBy_alloc w2 (.cells #[.int .i64 key, .slice q zs.length c] 26) none) (by simp))
  have P2 := Lib.hid (CellsAt.new w2 26 #[.int .i64 key, .slice q zs.length c])
  have R2 := Lib.hid (r2.alloc (.cells #[.int .i64 key, .slice q zs.length c] 26))
  have z2 : w1.heap.size ≤ w2.heap.size := g2.size
  have e1 : w2.heap.size < (w2.alloc (.cells #[.int .i64 key, .slice q zs.length c] 26)).heap.size := by simp
  clear s2 g2 r2 S1 K1
  go_upto_region 3 with fail
  have c0 : (w2.alloc (.cells #[.int .i64 key, .slice q zs.length c] 26)).cell? ⟨w2.heap.size, 0, none⟩ = some (.int .i64 key) := P2.out.cell 0
  have c1 : (w2.alloc (.cells #[.int .i64 key, .slice q zs.length c] 26)).cell? ⟨w2.heap.size, 1, none⟩ = some (.slice q zs.length c) := P2.out.cell 1
  generalize hw3 : w2.alloc (.cells #[.int .i64 key, .slice q zs.length c] 26) = w3 at S2 K2 P2 R2 e1 c0 c1 ⊢
  clear hw3
  go_region_with (go_at_call 26; refine (from_st (w.alloc (.cells #[.int .i64 0, .slice none 0 0] 26)) (w.heap.size + 1) A l cap (-1) 4 _ HN.out ?_ (by omega) (by omega) (by omega)).mono ?_; exact S2.out.drew; rintro e wx ⟨x, rfl, ⟨x0, x1⟩, sx, gx⟩; have px := P2.out.drew.grown gx (by intro e; injection e with e; omega); have kx := K2.out.drew.grown gx (by intro e; injection e with e; omega); have d0 : wx.cell? ⟨w2.heap.size, 0, none⟩ = some (.int .i64 key) := px.cell 0; have d1 : wx.cell? ⟨w2.heap.size, 1, none⟩ = some (.slice q zs.length c) := px.cell 1; have r0 : wx.cell? ⟨w.heap.size, 0, none⟩ = some (.int .i64 0) := kx.cell 0; have r1 : wx.cell? ⟨w.heap.size, 1, none⟩ = some (.slice none 0 0) := kx.cell 1; have f0 := kx.frozen 0; have f1 := kx.frozen 1; have SX := Lib.hid sx; have KX := Lib.hid kx; have RX := Lib.hid (Row.grown (show Row w3.drew _ _ _ _ from ⟨R2.out.1.drew, R2.out.2⟩) gx (by omega)); clear sx gx px kx)
  all_goals
    go_wp2_with fail
    have hk := (KX.out.set_ 0 (.int .i64 key)).set_ 1 (.slice q zs.length c)
    have hr := (RX.out.grown (gb_set (gb_refl wx (some w.heap.size)) 0 (.int .i64 key)) (by omega)).grown (gb_set (gb_refl _ (some w.heap.size)) 1 (.slice q zs.length c)) (by omega)
    have hb := ((B0.out.trans (SX.out.1.mono (by omega))).setCell (p := ⟨w.heap.size, 0, none⟩) (Nat.le_refl _) (.int .i64 key)).setCell (p := ⟨w.heap.size, 1, none⟩) (Nat.le_refl _) (.slice q zs.length c)
    generalize World.setCell _ _ _ = w4 at hk hr hb ⊢
    have d0 : w4.cell? ⟨w.heap.size, 0, none⟩ = some (.int .i64 key) := hk.cell 0
    have d1 : w4.cell? ⟨w.heap.size, 1, none⟩ = some (.slice q zs.length c) := hk.cell 1
    obtain ⟨q', c', hq', hI⟩ := hr.reads
    injection hq' with hq1 hq2 hq3
    subst hq1
    exact bodyPost_ret (v := .tuple #[.agg #[.int .i64 key, .slice q zs.length c], .int .i64 x]) (by simp [results, Try.results10, go_sem, d0, d1]) rfl ⟨key, q, zs, c, x, rfl, ⟨by omega, by omega⟩, hz, hc, hI, hb⟩
end Go.Proofs.Ytagjgdgkkblidaa.Mx

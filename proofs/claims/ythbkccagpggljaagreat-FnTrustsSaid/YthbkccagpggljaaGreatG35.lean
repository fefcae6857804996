import Derived.Test.YthbkccagpggljaaGreatG34
import Derived.Test.YthbkccagpggljaaGreatG06
import Derived.Test.YthbkccagpggljaaGreatG01
import Derived.Test.YthbkccagpggljaaGreatG03
import Derived.Test.YthbkccagpggljaaGreatG05
import Derived.Test.YthbkccagpggljaaGreatG07
import Derived.Test.YthbkccagpggljaaGreatG02
namespace Go.Proofs.YthbkccagpggljaaGreat.Mx
open Go.ChangeShapes Go.WideShapes Go.ChangeAt Go.RowKit
set_option linter.unusedVariables false
def PlanNumTru (sw : Bool) (w : World) (e : Ending) (w' : World) : Prop :=
  ∃ (key : Int) (Q : Option Addr) (zs : List Int) (c : Nat) (x : Int) (t : Tru), e = .returned (.tuple (bif sw then #[.agg #[.int .i64 key, .slice Q zs.length c], .agg #[.int .i64 t.clock, .int .i64 t.epoch, .int .i64 t.cursor, .int .i64 t.read, .int .i64 t.written, .int .i64 t.nread, .int .i64 t.nwritten, .bool t.failed], .int .i64 x] else #[.agg #[.int .i64 key, .slice Q zs.length c], .int .i64 x, .agg #[.int .i64 t.clock, .int .i64 t.epoch, .int .i64 t.cursor, .int .i64 t.read, .int .i64 t.written, .int .i64 t.nread, .int .i64 t.nwritten, .bool t.failed]])) ∧ I64 x ∧ zs.length ≤ 5 ∧ zs.length ≤ c ∧ TruI t ∧ Ints w' .i64 w'.heap.size Q zs ∧ Below w.heap.size w w'
set_option maxRecDepth 20000 in
set_option maxHeartbeats 1000000 in
theorem drawNewTrust_calls (A : Option Addr) (l : List Int) (cap : Nat) (w : World) (hn : l.length ≤ maxLen) (hA : Ints w .u8 w.heap.size A l) :
    Calls Tryz.prog 5 #[.slice A l.length cap] w (PlanNumW w) := by
  have HN := Lib.hid hn
  have hA0 := (hA.below ((Below.refl w.heap.size w).alloc (Nat.le_refl _) (.cells #[.int .i64 0, .slice none 0 0] 26)) (Nat.le_refl _)).more (show w.heap.size ≤ (w.alloc (.cells #[.int .i64 0, .slice none 0 0] 26)).heap.size by simp)
  have HA := Lib.hid hA0
  clear hn hA hA0
  go_enter Tryz.func5, Tryz.ntmps5
  go_wp2_with fail
  refine (new_calls A l cap _ HN.out HA.out).mono ?_; rintro e w1 ⟨rfl, b1, c1⟩
  have B0 := Lib.hid ((Below.refl w.heap.size w).alloc (Nat.le_refl _) (.cells #[.int .i64 0, .slice none 0 0] 26))
  have k1 := (CellsAt.new w 26 #[.int .i64 0, .slice none 0 0]).below b1 (by simp)
  have s1 : St (w.alloc (.cells #[.int .i64 0, .slice none 0 0] 26)) (w.heap.size + 1) A l cap w1 := by
    have h := St.new b1 c1
    rwa [show (w.alloc (.cells #[.int .i64 0, .slice none 0 0] 26)).heap.size = w.heap.size + 1 by simp] at h
  have S1 := Lib.hid s1
  have K1 := Lib.hid k1
  have z1 : w.heap.size + 1 < w1.heap.size := s1.2.lt
  clear b1 c1 s1 k1 HA
  try rw [show (w.alloc (.cells #[.int .i64 0, .slice none 0 0] 26)).heap.size = w.heap.size + 1 by simp]
  go_wp2_with fail
  refine (draw5Any_calls _ (w.heap.size + 1) A l cap w1 HN.out S1.out).mono ?_; rintro e w2 ⟨key, u, zs, rfl, hz, r2, s2, g2⟩
  obtain ⟨q, c, hq, -, hc⟩ := r2.reads_cap
  subst hq
  have S2 := Lib.hid (s2.alloc (.cells #[.int .i64 key, .slice q zs.length c] 26))
  have K2 := Lib.hid (CellsAt.grown (K1.out.grown g2 (by intro e; injection e with e; omega)) (World.grownBy_alloc w2 (.cells #[.int .i64 key, .slice q zs.length c] 26) none) (by simp))
  have P2 := Lib.hid (CellsAt.new w2 26 #[.int .i64 key, .slice q zs.length c])
  have R2 := Lib.hid (r2.alloc (.cells #[.int .i64 key, .slice q zs.length c] 26))
  have z2 : w1.heap.size ≤ w2.heap.size := g2.size
  have e1 : w2.heap.size < (w2.alloc (.cells #[.int .i64 key, .slice q zs.length c] 26)).heap.size := by simp
  clear s2 g2 r2 S1 K1
  go_upto_region 3 with fail
  have c0 : (w2.alloc (.cells #[.int .i64 key, .slice q zs.length c] 26)).cell? ⟨w2.heap.size, 0, none⟩ = some (.int .i64 key) := P2.out.cell 0
  have c1 : (w2.alloc (.cells #[.int .i64 key, .slice q zs.length c] 26)).cell? ⟨w2.heap.size, 1, none⟩ = some (.slice q zs.length c) := P2.out.cell 1
  generalize hw3 : w2.alloc (.cells #[.int .i64 key, .slice q zs.length c] 26) = w3 at S2 K2 P2 R2 e1 c0 c1 ⊢
  clear hw3
  go_region_with (go_at_call 21; refine (from_st (w.alloc (.cells #[.int .i64 0, .slice none 0 0] 26)) (w.heap.size + 1) A l cap (-1) 3 _ HN.out ?_ (by omega) (by omega) (by omega)).mono ?_; exact S2.out.drew; rintro e wx ⟨x, rfl, ⟨x0, x1⟩, sx, gx⟩; have px := P2.out.drew.grown gx (by intro e; injection e with e; omega); have kx := K2.out.drew.grown gx (by intro e; injection e with e; omega); have d0 : wx.cell? ⟨w2.heap.size, 0, none⟩ = some (.int .i64 key) := px.cell 0; have d1 : wx.cell? ⟨w2.heap.size, 1, none⟩ = some (.slice q zs.length c) := px.cell 1; have r0 : wx.cell? ⟨w.heap.size, 0, none⟩ = some (.int .i64 0) := kx.cell 0; have r1 : wx.cell? ⟨w.heap.size, 1, none⟩ = some (.slice none 0 0) := kx.cell 1; have f0 := kx.frozen 0; have f1 := kx.frozen 1; have SX := Lib.hid sx; have KX := Lib.hid kx; have RX := Lib.hid (Row.grown (show Row w3.drew _ _ _ _ from ⟨R2.out.1.drew, R2.out.2⟩) gx (by omega)); clear sx gx px kx)
  all_goals
    go_wp2_with fail
    have hk := (KX.out.set_ 0 (.int .i64 key)).set_ 1 (.slice q zs.length c)
    have hr := (RX.out.grown (gb_set (gb_refl wx (some w.heap.size)) 0 (.int .i64 key)) (by omega)).grown (gb_set (gb_refl _ (some w.heap.size)) 1 (.slice q zs.length c)) (by omega)
    have hb := ((B0.out.trans (SX.out.1.mono (by omega))).setCell (p := ⟨w.heap.size, 0, none⟩) (Nat.le_refl _) (.int .i64 key)).setCell (p := ⟨w.heap.size, 1, none⟩) (Nat.le_refl _) (.slice q zs.length c)
    generalize World.setCell _ _ _ = w4 at hk hr hb ⊢
    have d0 : w4.cell? ⟨w.heap.size, 0, none⟩ = some (.int .i64 key) := hk.cell 0
    have d1 : w4.cell? ⟨w.heap.size, 1, none⟩ = some (.slice q zs.length c) := hk.cell 1
    obtain ⟨q', c', hq', hI⟩ := hr.reads
    injection hq' with hq1 hq2 hq3
    subst hq1
    exact bodyPost_ret (v := .tuple #[.agg #[.int .i64 key, .slice q zs.length c], .int .i64 x]) (by simp [results, Tryz.results5, go_sem, d0, d1]) rfl ⟨key, q, zs, c, x, rfl, ⟨by omega, by omega⟩, hz, hc, hI, hb⟩
set_option maxRecDepth 20000 in
set_option maxHeartbeats 8000000 in
theorem drawTrustOk_calls (A : Option Addr) (l : List Int) (cap : Nat) (w : World) (hn : l.length ≤ 4096) (hA : Ints w .u8 w.heap.size A l) :
    Calls Tryz.prog 8 #[.slice A l.length cap] w (PlanNumTru false w) := by
  have HN := Lib.hid (show l.length ≤ maxLen by unfold maxLen; omega)
  have HM := Lib.hid hn
  have hA0 := (hA.below (((Below.refl w.heap.size w).alloc (Nat.le_refl _) (.cells #[.int .i64 0, .slice none 0 0] 26)).alloc (by simp) (.cells #[.int .i64 0, .int .i64 0, .int .i64 0, .int .i64 0, .int .i64 0, .int .i64 0, .int .i64 0, .bool false] 30)) (Nat.le_refl _)).more (show w.heap.size ≤ ((w.alloc (.cells #[.int .i64 0, .slice none 0 0] 26)).alloc (.cells #[.int .i64 0, .int .i64 0, .int .i64 0, .int .i64 0, .int .i64 0, .int .i64 0, .int .i64 0, .bool false] 30)).heap.size by simp <;> omega)
  have HA := Lib.hid hA0
  have K0 := Lib.hid (show CellsAt ((w.alloc (.cells #[.int .i64 0, .slice none 0 0] 26)).alloc (.cells #[.int .i64 0, .int .i64 0, .int .i64 0, .int .i64 0, .int .i64 0, .int .i64 0, .int .i64 0, .bool false] 30)) w.heap.size 26 #[.int .i64 0, .slice none 0 0] from CellsAt.grown (CellsAt.new w _ _) (World.grownBy_alloc _ _ none) (by simp))
  have Q0 := Lib.hid (show CellsAt ((w.alloc (.cells #[.int .i64 0, .slice none 0 0] 26)).alloc (.cells #[.int .i64 0, .int .i64 0, .int .i64 0, .int .i64 0, .int .i64 0, .int .i64 0, .int .i64 0, .bool false] 30)) (w.heap.size + 1) 30 #[.int .i64 0, .int .i64 0, .int .i64 0, .int .i64 0, .int .i64 0, .int .i64 0, .int .i64 0, .bool false] from by
    have q := CellsAt.new (w.alloc (.cells #[.int .i64 0, .slice none 0 0] 26)) 30 #[.int .i64 0, .int .i64 0, .int .i64 0, .int .i64 0, .int .i64 0, .int .i64 0, .int .i64 0, .bool false]
    rwa [show (w.alloc (.cells #[.int .i64 0, .slice none 0 0] 26)).heap.size = w.heap.size + 1 by simp] at q)
  have B0 := Lib.hid (show Below w.heap.size w ((w.alloc (.cells #[.int .i64 0, .slice none 0 0] 26)).alloc (.cells #[.int .i64 0, .int .i64 0, .int .i64 0, .int .i64 0, .int .i64 0, .int .i64 0, .int .i64 0, .bool false] 30)) from ((Below.refl w.heap.size w).alloc (Nat.le_refl _) (.cells #[.int .i64 0, .slice none 0 0] 26)).alloc (by simp) (.cells #[.int .i64 0, .int .i64 0, .int .i64 0, .int .i64 0, .int .i64 0, .int .i64 0, .int .i64 0, .bool false] 30))
  clear hn hA hA0
  go_enter Tryz.func8, Tryz.ntmps8
  go_wp2_with fail
  refine (new_calls A l cap _ HN.out HA.out).mono ?_; rintro e w1 ⟨rfl, b1, c1⟩
  have s1 : St ((w.alloc (.cells #[.int .i64 0, .slice none 0 0] 26)).alloc (.cells #[.int .i64 0, .int .i64 0, .int .i64 0, .int .i64 0, .int .i64 0, .int .i64 0, .int .i64 0, .bool false] 30)) (w.heap.size + 2) A l cap w1 := by
    have h := St.new b1 c1
    rwa [show ((w.alloc (.cells #[.int .i64 0, .slice none 0 0] 26)).alloc (.cells #[.int .i64 0, .int .i64 0, .int .i64 0, .int .i64 0, .int .i64 0, .int .i64 0, .int .i64 0, .bool false] 30)).heap.size = w.heap.size + 2 by simp] at h
  have S1 := Lib.hid s1
  have K1 := Lib.hid (K0.out.below b1 (by simp <;> omega))
  have Q1 := Lib.hid (Q0.out.below b1 (by simp))
  have z1 : w.heap.size + 2 < w1.heap.size := s1.2.lt
  clear b1 c1 s1 HA
  try rw [show ((w.alloc (.cells #[.int .i64 0, .slice none 0 0] 26)).alloc (.cells #[.int .i64 0, .int .i64 0, .int .i64 0, .int .i64 0, .int .i64 0, .int .i64 0, .int .i64 0, .bool false] 30)).heap.size = w.heap.size + 1 + 1 by simp]
  go_wp2_with fail
  refine (draw7Any_calls ((w.alloc (.cells #[.int .i64 0, .slice none 0 0] 26)).alloc (.cells #[.int .i64 0, .int .i64 0, .int .i64 0, .int .i64 0, .int .i64 0, .int .i64 0, .int .i64 0, .bool false] 30)) (w.heap.size + 2) A l cap w1 HM.out S1.out).mono ?_; rintro e w2 ⟨key, Q, zs, c, x, t, rfl, hx, h5, hc, ht, hr, s2, g2⟩
  have K2 := Lib.hid (K1.out.grown g2 (by intro e; injection e; omega))
  have Q2 := Lib.hid (Q1.out.grown g2 (by intro e; injection e; omega))
  have k2 : ∀ i, w2.cell? ⟨w.heap.size, i, none⟩ = #[.int .i64 0, .slice none 0 0][i]? := K2.out.cell
  have q2 : ∀ i, w2.cell? ⟨w.heap.size + 1, i, none⟩ = #[.int .i64 0, .int .i64 0, .int .i64 0, .int .i64 0, .int .i64 0, .int .i64 0, .int .i64 0, .bool false][i]? := Q2.out.cell
  have f2 := K2.out.frozen
  have f3 := Q2.out.frozen
  have HR := Lib.hid hr
  have HB := Lib.hid (B0.out.trans (s2.1.mono (by simp <;> omega)))
  clear hr s2 g2
  go_wp2_with fail
  have h1 := plan_put (x0 := .int .i64 key) (x1 := .slice Q zs.length c) K2.out
  have h2 := tru_put (x0 := .int .i64 t.clock) (x1 := .int .i64 t.epoch) (x2 := .int .i64 t.cursor) (x3 := .int .i64 t.read) (x4 := .int .i64 t.written) (x5 := .int .i64 t.nread) (x6 := .int .i64 t.nwritten) (x7 := .bool t.failed) (Q2.out.grown h1.2 (by intro e; injection e; omega))
  have h3 := h1.1.grown h2.2 (by intro e; injection e; omega)
  have hr3 := (HR.out.grown h1.2 (by omega)).grown h2.2 (by omega)
  have hb3 := bgb (bgb HB.out h1.2 HB.out.size (Nat.le_refl _)) h2.2 (Nat.le_trans HB.out.size h1.2.size) (by omega)
  generalize World.setCell _ _ _ = w9 at h2 h3 hr3 hb3 ⊢
  obtain ⟨d0, d1, t0, t1, t2, t3, t4, t5, t6, t7⟩ : w9.cell? ⟨w.heap.size, 0, none⟩ = some (.int .i64 key) ∧ w9.cell? ⟨w.heap.size, 1, none⟩ = some (.slice Q zs.length c) ∧ w9.cell? ⟨w.heap.size + 1, 0, none⟩ = some (.int .i64 t.clock) ∧ w9.cell? ⟨w.heap.size + 1, 1, none⟩ = some (.int .i64 t.epoch) ∧ w9.cell? ⟨w.heap.size + 1, 2, none⟩ = some (.int .i64 t.cursor) ∧ w9.cell? ⟨w.heap.size + 1, 3, none⟩ = some (.int .i64 t.read) ∧ w9.cell? ⟨w.heap.size + 1, 4, none⟩ = some (.int .i64 t.written) ∧ w9.cell? ⟨w.heap.size + 1, 5, none⟩ = some (.int .i64 t.nread) ∧ w9.cell? ⟨w.heap.size + 1, 6, none⟩ = some (.int .i64 t.nwritten) ∧ w9.cell? ⟨w.heap.size + 1, 7, none⟩ = some (.bool t.failed) :=
    ⟨h3.cell 0, h3.cell 1, h2.1.cell 0, h2.1.cell 1, h2.1.cell 2, h2.1.cell 3, h2.1.cell 4, h2.1.cell 5, h2.1.cell 6, h2.1.cell 7⟩
  obtain ⟨Q', c', hq', hI⟩ := hr3.reads
  injection hq' with hq1 hq2 hq3
  subst hq1
  have HE := Lib.hid (show PlanNumTru false w (.returned (.tuple #[.agg #[.int .i64 key, .slice Q zs.length c], .int .i64 x, .agg #[.int .i64 t.clock, .int .i64 t.epoch, .int .i64 t.cursor, .int .i64 t.read, .int .i64 t.written, .int .i64 t.nread, .int .i64 t.nwritten, .bool t.failed]])) w9 from ⟨key, Q, zs, c, x, t, rfl, hx, h5, hc, ht, hI, hb3⟩)
  exact bodyPost_ret (v := .tuple #[.agg #[.int .i64 key, .slice Q zs.length c], .int .i64 x, .agg #[.int .i64 t.clock, .int .i64 t.epoch, .int .i64 t.cursor, .int .i64 t.read, .int .i64 t.written, .int .i64 t.nread, .int .i64 t.nwritten, .bool t.failed]]) (by simp [results, Tryz.results8, go_sem, d0, d1, t0, t1, t2, t3, t4, t5, t6, t7]) rfl HE.out
set_option maxRecDepth 20000 in
set_option maxHeartbeats 8000000 in
theorem drawBehind_calls (A : Option Addr) (l : List Int) (cap : Nat) (w : World) (hn : l.length ≤ 4096) (hA : Ints w .u8 w.heap.size A l) :
    Calls Tryz.prog 9 #[.slice A l.length cap] w (PlanNumTru true w) := by
  have HN := Lib.hid (show l.length ≤ maxLen by unfold maxLen; omega)
  have HM := Lib.hid hn
  have hA0 := (hA.below (((Below.refl w.heap.size w).alloc (Nat.le_refl _) (.cells #[.int .i64 0, .slice none 0 0] 26)).alloc (by simp) (.cells #[.int .i64 0, .int .i64 0, .int .i64 0, .int .i64 0, .int .i64 0, .int .i64 0, .int .i64 0, .bool false] 30)) (Nat.le_refl _)).more (show w.heap.size ≤ ((w.alloc (.cells #[.int .i64 0, .slice none 0 0] 26)).alloc (.cells #[.int .i64 0, .int .i64 0, .int .i64 0, .int .i64 0, .int .i64 0, .int .i64 0, .int .i64 0, .bool false] 30)).heap.size by simp <;> omega)
  have HA := Lib.hid hA0
  have K0 := Lib.hid (show CellsAt ((w.alloc (.cells #[.int .i64 0, .slice none 0 0] 26)).alloc (.cells #[.int .i64 0, .int .i64 0, .int .i64 0, .int .i64 0, .int .i64 0, .int .i64 0, .int .i64 0, .bool false] 30)) w.heap.size 26 #[.int .i64 0, .slice none 0 0] from CellsAt.grown (CellsAt.new w _ _) (World.grownBy_alloc _ _ none) (by simp))
  have Q0 := Lib.hid (show CellsAt ((w.alloc (.cells #[.int .i64 0, .slice none 0 0] 26)).alloc (.cells #[.int .i64 0, .int .i64 0, .int .i64 0, .int .i64 0, .int .i64 0, .int .i64 0, .int .i64 0, .bool false] 30)) (w.heap.size + 1) 30 #[.int .i64 0, .int .i64 0, .int .i64 0, .int .i64 0, .int .i64 0, .int .i64 0, .int .i64 0, .bool false] from by
    have q := CellsAt.new (w.alloc (.cells #[.int .i64 0, .slice none 0 0] 26)) 30 #[.int .i64 0, .int .i64 0, .int .i64 0, .int .i64 0, .int .i64 0, .int .i64 0, .int .i64 0, .bool false]
    rwa [show (w.alloc (.cells #[.int .i64 0, .slice none 0 0] 26)).heap.size = w.heap.size + 1 by simp] at q)
  have B0 := Lib.hid (show Below w.heap.size w ((w.alloc (.cells #[.int .i64 0, .slice none 0 0] 26)).alloc (.cells #[.int .i64 0, .int .i64 0, .int .i64 0, .int .i64 0, .int .i64 0, .int .i64 0, .int .i64 0, .bool false] 30)) from ((Below.refl w.heap.size w).alloc (Nat.le_refl _) (.cells #[.int .i64 0, .slice none 0 0] 26)).alloc (by simp) (.cells #[.int .i64 0, .int .i64 0, .int .i64 0, .int .i64 0, .int .i64 0, .int .i64 0, .int .i64 0, .bool false] 30))
  clear hn hA hA0
  go_enter Tryz.func9, Tryz.ntmps9
  go_wp2_with fail
  refine (new_calls A l cap _ HN.out HA.out).mono ?_; rintro e w1 ⟨rfl, b1, c1⟩
  have s1 : St ((w.alloc (.cells #[.int .i64 0, .slice none 0 0] 26)).alloc (.cells #[.int .i64 0, .int .i64 0, .int .i64 0, .int .i64 0, .int .i64 0, .int .i64 0, .int .i64 0, .bool false] 30)) (w.heap.size + 2) A l cap w1 := by
    have h := St.new b1 c1
    rwa [show ((w.alloc (.cells #[.int .i64 0, .slice none 0 0] 26)).alloc (.cells #[.int .i64 0, .int .i64 0, .int .i64 0, .int .i64 0, .int .i64 0, .int .i64 0, .int .i64 0, .bool false] 30)).heap.size = w.heap.size + 2 by simp] at h
  have S1 := Lib.hid s1
  have K1 := Lib.hid (K0.out.below b1 (by simp <;> omega))
  have Q1 := Lib.hid (Q0.out.below b1 (by simp))
  have z1 : w.heap.size + 2 < w1.heap.size := s1.2.lt
  clear b1 c1 s1 HA
  try rw [show ((w.alloc (.cells #[.int .i64 0, .slice none 0 0] 26)).alloc (.cells #[.int .i64 0, .int .i64 0, .int .i64 0, .int .i64 0, .int .i64 0, .int .i64 0, .int .i64 0, .bool false] 30)).heap.size = w.heap.size + 1 + 1 by simp]
  go_wp2_with fail
  refine (draw7Any_calls ((w.alloc (.cells #[.int .i64 0, .slice none 0 0] 26)).alloc (.cells #[.int .i64 0, .int .i64 0, .int .i64 0, .int .i64 0, .int .i64 0, .int .i64 0, .int .i64 0, .bool false] 30)) (w.heap.size + 2) A l cap w1 HM.out S1.out).mono ?_; rintro e w2 ⟨key, Q, zs, c, x0, t, rfl, -, h5, hc, ht, hr, s2, g2⟩
  have z2 : w1.heap.size ≤ w2.heap.size := g2.size
  have S2 := Lib.hid ((s2.alloc (.cells #[.int .i64 key, .slice Q zs.length c] 26)).alloc (.cells #[.int .i64 t.clock, .int .i64 t.epoch, .int .i64 t.cursor, .int .i64 t.read, .int .i64 t.written, .int .i64 t.nread, .int .i64 t.nwritten, .bool t.failed] 30))
  have K2 := Lib.hid (CellsAt.grown (CellsAt.grown (K1.out.grown g2 (by intro e; injection e; omega)) (World.grownBy_alloc w2 (.cells #[.int .i64 key, .slice Q zs.length c] 26) none) (by simp)) (World.grownBy_alloc (w2.alloc (.cells #[.int .i64 key, .slice Q zs.length c] 26)) (.cells #[.int .i64 t.clock, .int .i64 t.epoch, .int .i64 t.cursor, .int .i64 t.read, .int .i64 t.written, .int .i64 t.nread, .int .i64 t.nwritten, .bool t.failed] 30) none) (by simp))
  have Q2 := Lib.hid (CellsAt.grown (CellsAt.grown (Q1.out.grown g2 (by intro e; injection e; omega)) (World.grownBy_alloc w2 (.cells #[.int .i64 key, .slice Q zs.length c] 26) none) (by simp)) (World.grownBy_alloc (w2.alloc (.cells #[.int .i64 key, .slice Q zs.length c] 26)) (.cells #[.int .i64 t.clock, .int .i64 t.epoch, .int .i64 t.cursor, .int .i64 t.read, .int .i64 t.written, .int .i64 t.nread, .int .i64 t.nwritten, .bool t.failed] 30) none) (by simp))
  have M2 := Lib.hid (CellsAt.grown (CellsAt.new w2 26 #[.int .i64 key, .slice Q zs.length c]) (World.grownBy_alloc (w2.alloc (.cells #[.int .i64 key, .slice Q zs.length c] 26)) (.cells #[.int .i64 t.clock, .int .i64 t.epoch, .int .i64 t.cursor, .int .i64 t.read, .int .i64 t.written, .int .i64 t.nread, .int .i64 t.nwritten, .bool t.failed] 30) none) (by simp))
  have N2 := Lib.hid (show CellsAt ((w2.alloc (.cells #[.int .i64 key, .slice Q zs.length c] 26)).alloc (.cells #[.int .i64 t.clock, .int .i64 t.epoch, .int .i64 t.cursor, .int .i64 t.read, .int .i64 t.written, .int .i64 t.nread, .int .i64 t.nwritten, .bool t.failed] 30)) (w2.heap.size + 1) 30 #[.int .i64 t.clock, .int .i64 t.epoch, .int .i64 t.cursor, .int .i64 t.read, .int .i64 t.written, .int .i64 t.nread, .int .i64 t.nwritten, .bool t.failed] from by
    have q := CellsAt.new (w2.alloc (.cells #[.int .i64 key, .slice Q zs.length c] 26)) 30 #[.int .i64 t.clock, .int .i64 t.epoch, .int .i64 t.cursor, .int .i64 t.read, .int .i64 t.written, .int .i64 t.nread, .int .i64 t.nwritten, .bool t.failed]
    rwa [show (w2.alloc (.cells #[.int .i64 key, .slice Q zs.length c] 26)).heap.size = w2.heap.size + 1 by simp] at q)
  have R2 := Lib.hid ((hr.alloc (.cells #[.int .i64 key, .slice Q zs.length c] 26)).alloc (.cells #[.int .i64 t.clock, .int .i64 t.epoch, .int .i64 t.cursor, .int .i64 t.read, .int .i64 t.written, .int .i64 t.nread, .int .i64 t.nwritten, .bool t.failed] 30))
  clear hr s2 g2 S1 K1 Q1 K0 Q0
  go_upto_region 3 with fail
  generalize World.alloc (World.alloc w2 _) _ = w3 at S2 K2 Q2 M2 N2 R2 ⊢
  have cm : ∀ i, w3.cell? ⟨w2.heap.size, i, none⟩ = #[.int .i64 key, .slice Q zs.length c][i]? := M2.out.cell
  have cn : ∀ i, w3.cell? ⟨w2.heap.size + 1, i, none⟩ = #[.int .i64 t.clock, .int .i64 t.epoch, .int .i64 t.cursor, .int .i64 t.read, .int .i64 t.written, .int .i64 t.nread, .int .i64 t.nwritten, .bool t.failed][i]? := N2.out.cell
  go_region_with (go_at_call 21; go_loud (refine (from_st ((w.alloc (.cells #[.int .i64 0, .slice none 0 0] 26)).alloc (.cells #[.int .i64 0, .int .i64 0, .int .i64 0, .int .i64 0, .int .i64 0, .int .i64 0, .int .i64 0, .bool false] 30)) (w.heap.size + 2) A l cap (-1) 10 _ HN.out S2.out.drew (by omega) (by omega) (by omega)).mono ?_; rintro e wx ⟨x, rfl, ix, sx, gx⟩; have px := M2.out.drew.grown gx (by intro e; injection e; omega); have qx := N2.out.drew.grown gx (by intro e; injection e; omega); have kx := K2.out.drew.grown gx (by intro e; injection e; omega); have lx := Q2.out.drew.grown gx (by intro e; injection e; omega); have dm : ∀ i, wx.cell? ⟨w2.heap.size, i, none⟩ = #[.int .i64 key, .slice Q zs.length c][i]? := px.cell; have dn : ∀ i, wx.cell? ⟨w2.heap.size + 1, i, none⟩ = #[.int .i64 t.clock, .int .i64 t.epoch, .int .i64 t.cursor, .int .i64 t.read, .int .i64 t.written, .int .i64 t.nread, .int .i64 t.nwritten, .bool t.failed][i]? := qx.cell; have k2 : ∀ i, wx.cell? ⟨w.heap.size, i, none⟩ = #[.int .i64 0, .slice none 0 0][i]? := kx.cell; have q2 : ∀ i, wx.cell? ⟨w.heap.size + 1, i, none⟩ = #[.int .i64 0, .int .i64 0, .int .i64 0, .int .i64 0, .int .i64 0, .int .i64 0, .int .i64 0, .bool false][i]? := lx.cell; have f2 := kx.frozen; have f3 := lx.frozen; have HB := Lib.hid (B0.out.trans (sx.1.mono (by simp <;> omega))); have KX := Lib.hid kx; have QX := Lib.hid lx; have HR := Lib.hid (Row.grown (show Row w3.drew _ _ _ _ from ⟨R2.out.1.drew, R2.out.2⟩) gx (by omega)); have hx : I64 x := ⟨by omega, by omega⟩; clear sx gx px qx kx lx ix))
  all_goals
    go_simp
    go_wp2_with fail
    have h1 := plan_put (x0 := .int .i64 key) (x1 := .slice Q zs.length c) KX.out
    have h2 := tru_put (x0 := .int .i64 t.clock) (x1 := .int .i64 t.epoch) (x2 := .int .i64 t.cursor) (x3 := .int .i64 t.read) (x4 := .int .i64 t.written) (x5 := .int .i64 t.nread) (x6 := .int .i64 t.nwritten) (x7 := .bool t.failed) (QX.out.grown h1.2 (by intro e; injection e; omega))
    have h3 := h1.1.grown h2.2 (by intro e; injection e; omega)
    have hr3 := (HR.out.grown h1.2 (by omega)).grown h2.2 (by omega)
    have hb3 := bgb (bgb HB.out h1.2 HB.out.size (Nat.le_refl _)) h2.2 (Nat.le_trans HB.out.size h1.2.size) (by omega)
    generalize World.setCell _ _ _ = w9 at h2 h3 hr3 hb3 ⊢
    obtain ⟨d0, d1, t0, t1, t2, t3, t4, t5, t6, t7⟩ : w9.cell? ⟨w.heap.size, 0, none⟩ = some (.int .i64 key) ∧ w9.cell? ⟨w.heap.size, 1, none⟩ = some (.slice Q zs.length c) ∧ w9.cell? ⟨w.heap.size + 1, 0, none⟩ = some (.int .i64 t.clock) ∧ w9.cell? ⟨w.heap.size + 1, 1, none⟩ = some (.int .i64 t.epoch) ∧ w9.cell? ⟨w.heap.size + 1, 2, none⟩ = some (.int .i64 t.cursor) ∧ w9.cell? ⟨w.heap.size + 1, 3, none⟩ = some (.int .i64 t.read) ∧ w9.cell? ⟨w.heap.size + 1, 4, none⟩ = some (.int .i64 t.written) ∧ w9.cell? ⟨w.heap.size + 1, 5, none⟩ = some (.int .i64 t.nread) ∧ w9.cell? ⟨w.heap.size + 1, 6, none⟩ = some (.int .i64 t.nwritten) ∧ w9.cell? ⟨w.heap.size + 1, 7, none⟩ = some (.bool t.failed) :=
      ⟨h3.cell 0, h3.cell 1, h2.1.cell 0, h2.1.cell 1, h2.1.cell 2, h2.1.cell 3, h2.1.cell 4, h2.1.cell 5, h2.1.cell 6, h2.1.cell 7⟩
    obtain ⟨Q', c', hq', hI⟩ := hr3.reads
    injection hq' with hq1 hq2 hq3
    subst hq1
    have HE := Lib.hid (show PlanNumTru true w (.returned (.tuple #[.agg #[.int .i64 key, .slice Q zs.length c], .agg #[.int .i64 t.clock, .int .i64 t.epoch, .int .i64 t.cursor, .int .i64 t.read, .int .i64 t.written, .int .i64 t.nread, .int .i64 t.nwritten, .bool t.failed], .int .i64 x])) w9 from ⟨key, Q, zs, c, x, t, rfl, hx, h5, hc, ht, hI, hb3⟩)
    exact bodyPost_ret (v := .tuple #[.agg #[.int .i64 key, .slice Q zs.length c], .agg #[.int .i64 t.clock, .int .i64 t.epoch, .int .i64 t.cursor, .int .i64 t.read, .int .i64 t.written, .int .i64 t.nread, .int .i64 t.nwritten, .bool t.failed], .int .i64 x]) (by simp [results, Tryz.results9, go_sem, d0, d1, t0, t1, t2, t3, t4, t5, t6, t7]) rfl HE.out
end Go.Proofs.YthbkccagpggljaaGreat.Mx
namespace Go.Proofs.YthbkccagpggljaaGreat.Mx
open Go.ChangeShapes Go.WideShapes Go.ChangeAt Go.RowKit
set_option linter.unusedVariables false
end Go.Proofs.YthbkccagpggljaaGreat.Mx
namespace Go.Proofs.YthbkccagpggljaaGreat.Mx
open Go.ChangeShapes Go.WideShapes Go.ChangeAt Go.RowKit
set_option linter.unusedVariables false
end Go.Proofs.YthbkccagpggljaaGreat.Mx
namespace Go.Proofs.YthbkccagpggljaaGreat.Mx
open Go.ChangeShapes Go.WideShapes Go.ChangeAt Go.RowKit
set_option linter.unusedVariables false
section
variable {b u w' : World} {p q r : Nat} {key : Int} {A G : Option Addr} {l : List Int} {cap : Nat} {t0 t1 t2 t3 t4 t5 t6 : Int} {t7 : Bool}
end
end Go.Proofs.YthbkccagpggljaaGreat.Mx
namespace Go.Proofs.YthbkccagpggljaaGreat.Mx
open Go.ChangeShapes Go.WideShapes Go.ChangeAt Go.RowKit
set_option linter.unusedVariables false
end Go.Proofs.YthbkccagpggljaaGreat.Mx
namespace Go.Proofs.YthbkccagpggljaaGreat.Mx
open Go.ChangeShapes Go.WideShapes Go.ChangeAt Go.RowKit
set_option linter.unusedVariables false
theorem isEpoch_yes (e_ : Int) (w : World) (h : 0 ≤ e_ ∧ e_ ≤ 1000) : Calls Tryz.prog 52 #[.int .i64 e_] w fun e w' => e = .returned (.bool true) ∧ w = w' := by
  obtain ⟨h0, h1⟩ := h
  go_enter Tryz.func52, Tryz.ntmps52
  go_wp2_with fail
  go_ret
  exact ⟨rfl, rfl⟩
theorem isEpoch_no (e_ : Int) (w : World) (h : ¬ (0 ≤ e_ ∧ e_ ≤ 1000)) : Calls Tryz.prog 52 #[.int .i64 e_] w fun e w' => e = .returned (.bool false) ∧ w = w' := by
  by_cases h0 : 0 ≤ e_
  · have h1 : ¬ e_ ≤ 1000 := by omega
    have hd : decide (e_ ≤ 1000) = false := decide_eq_false h1
    clear h
    go_enter Tryz.func52, Tryz.ntmps52
    go_wp2_with fail
    go_ret
    exact ⟨rfl, rfl⟩
  · have hd : decide (0 ≤ e_) = false := decide_eq_false h0
    clear h
    go_enter Tryz.func52, Tryz.ntmps52
    go_wp2_with fail
    go_ret
    exact ⟨rfl, rfl⟩
theorem isSumP_yes (s : Int) (w : World) (h : isSumP s) : Calls Tryz.prog 66 #[.int .i64 s] w fun e w' => e = .returned (.bool true) ∧ w = w' := isSum_yes s w h.1 h.2
theorem isSumP_no (s : Int) (w : World) (h : ¬ isSumP s) : Calls Tryz.prog 66 #[.int .i64 s] w fun e w' => e = .returned (.bool false) ∧ w = w' := isSum_no s w (by unfold isSumP at h; omega)
def sumsP (t2 t3 t4 t5 t6 : Int) : Prop := (t2 = 0 → t5 = 0 ∧ t6 = 0) ∧ isSumP t3 ∧ isSumP t4 ∧ isSumP t5 ∧ isSumP t6
instance (t2 t3 t4 t5 t6 : Int) : Decidable (sumsP t2 t3 t4 t5 t6) := inferInstanceAs (Decidable (_ ∧ _))
set_option maxRecDepth 20000 in
set_option maxHeartbeats 4000000 in
theorem sumsOk_calls (p : Nat) (t0 t1 t2 t3 t4 t5 t6 : Int) (t7 : Bool) (w : World) (hp : CellsAt w p 30 #[.int .i64 t0, .int .i64 t1, .int .i64 t2, .int .i64 t3, .int .i64 t4, .int .i64 t5, .int .i64 t6, .bool t7]) :
    Calls Tryz.prog 53 #[.pointer (some ⟨p, 0, none⟩)] w fun e w' => e = .returned (.bool (decide (sumsP t2 t3 t4 t5 t6))) ∧ w = w' := by
  have kc : ∀ i, w.cell? ⟨p, i, none⟩ = #[.int .i64 t0, .int .i64 t1, .int .i64 t2, .int .i64 t3, .int .i64 t4, .int .i64 t5, .int .i64 t6, .bool t7][i]? := hp.cell
  clear hp
  by_cases h2 : t2 = 0
  · subst h2
    by_cases h5 : t5 = 0
    · subst h5
      by_cases h6 : t6 = 0
      · subst h6
        have s5 := Lib.hid (show isSumP 0 by decide)
        have s6 := Lib.hid (show isSumP 0 by decide)
        have C5 := Lib.hid (fun w => isSumP_yes 0 w (by decide))
        by_cases s3_ : isSumP t3
        · have s3 := Lib.hid s3_; have C3 := Lib.hid (fun w => isSumP_yes t3 w s3_); clear s3_
          by_cases s4_ : isSumP t4
          · have s4 := Lib.hid s4_; have C4 := Lib.hid (fun w => isSumP_yes t4 w s4_); clear s4_
            rw [decide_eq_true (show sumsP _ _ _ _ _ from ⟨fun _ => ⟨rfl, rfl⟩, s3.out, s4.out, s5.out, s6.out⟩)]
            go_enter Tryz.func53, Tryz.ntmps53
            go_wp2_with fail
            refine (C3.out _).mono ?_; rintro e w' ⟨rfl, rfl⟩
            go_wp2_with fail
            refine (C4.out _).mono ?_; rintro e w' ⟨rfl, rfl⟩
            go_wp2_with fail
            refine (C5.out _).mono ?_; rintro e w' ⟨rfl, rfl⟩
            go_wp2_with fail
            refine (C5.out _).mono ?_; rintro e w' ⟨rfl, rfl⟩
            go_wp2_with fail
            go_ret
            exact ⟨rfl, rfl⟩
          · have s4 := Lib.hid s4_; have C4 := Lib.hid (fun w => isSumP_no t4 w s4_); clear s4_
            rw [decide_eq_false (show ¬ sumsP _ _ _ _ _ from fun h => s4.out h.2.2.1)]
            go_enter Tryz.func53, Tryz.ntmps53
            go_wp2_with fail
            refine (C3.out _).mono ?_; rintro e w' ⟨rfl, rfl⟩
            go_wp2_with fail
            refine (C4.out _).mono ?_; rintro e w' ⟨rfl, rfl⟩
            go_wp2_with fail
            go_ret
            exact ⟨rfl, rfl⟩
        · have s3 := Lib.hid s3_; have C3 := Lib.hid (fun w => isSumP_no t3 w s3_); clear s3_
          rw [decide_eq_false (show ¬ sumsP _ _ _ _ _ from fun h => s3.out h.2.1)]
          go_enter Tryz.func53, Tryz.ntmps53
          go_wp2_with fail
          refine (C3.out _).mono ?_; rintro e w' ⟨rfl, rfl⟩
          go_wp2_with fail
          go_ret
          exact ⟨rfl, rfl⟩
      · have n6 : (t6 != 0) = true := by simpa using h6
        have N6 := Lib.hid h6
        clear h6
        rw [decide_eq_false (show ¬ sumsP _ _ _ _ _ from fun h => N6.out (h.1 rfl).2)]
        go_enter Tryz.func53, Tryz.ntmps53
        go_wp2_with fail
        go_ret
        exact ⟨rfl, rfl⟩
    · have n5 : (t5 != 0) = true := by simpa using h5
      have N5 := Lib.hid h5
      clear h5
      rw [decide_eq_false (show ¬ sumsP _ _ _ _ _ from fun h => N5.out (h.1 rfl).1)]
      go_enter Tryz.func53, Tryz.ntmps53
      go_wp2_with fail
      go_ret
      exact ⟨rfl, rfl⟩
  · have n2 : (t2 == 0) = false := by simpa using h2
    have N2 := Lib.hid h2
    clear h2
    by_cases s3_ : isSumP t3
    · have s3 := Lib.hid s3_; have C3 := Lib.hid (fun w => isSumP_yes t3 w s3_); clear s3_
      by_cases s4_ : isSumP t4
      · have s4 := Lib.hid s4_; have C4 := Lib.hid (fun w => isSumP_yes t4 w s4_); clear s4_
        by_cases s5_ : isSumP t5
        · have s5 := Lib.hid s5_; have C5 := Lib.hid (fun w => isSumP_yes t5 w s5_); clear s5_
          by_cases s6_ : isSumP t6
          · have s6 := Lib.hid s6_; have C6 := Lib.hid (fun w => isSumP_yes t6 w s6_); clear s6_
            rw [decide_eq_true (show sumsP _ _ _ _ _ from ⟨fun h => absurd h N2.out, s3.out, s4.out, s5.out, s6.out⟩)]
            go_enter Tryz.func53, Tryz.ntmps53
            go_wp2_with fail
            refine (C3.out _).mono ?_; rintro e w' ⟨rfl, rfl⟩
            go_wp2_with fail
            refine (C4.out _).mono ?_; rintro e w' ⟨rfl, rfl⟩
            go_wp2_with fail
            refine (C5.out _).mono ?_; rintro e w' ⟨rfl, rfl⟩
            go_wp2_with fail
            refine (C6.out _).mono ?_; rintro e w' ⟨rfl, rfl⟩
            go_wp2_with fail
            go_ret
            exact ⟨rfl, rfl⟩
          · have s6 := Lib.hid s6_; have C6 := Lib.hid (fun w => isSumP_no t6 w s6_); clear s6_
            rw [decide_eq_false (show ¬ sumsP _ _ _ _ _ from fun h => s6.out h.2.2.2.2)]
            go_enter Tryz.func53, Tryz.ntmps53
            go_wp2_with fail
            refine (C3.out _).mono ?_; rintro e w' ⟨rfl, rfl⟩
            go_wp2_with fail
            refine (C4.out _).mono ?_; rintro e w' ⟨rfl, rfl⟩
            go_wp2_with fail
            refine (C5.out _).mono ?_; rintro e w' ⟨rfl, rfl⟩
            go_wp2_with fail
            refine (C6.out _).mono ?_; rintro e w' ⟨rfl, rfl⟩
            go_wp2_with fail
            go_ret
            exact ⟨rfl, rfl⟩
        · have s5 := Lib.hid s5_; have C5 := Lib.hid (fun w => isSumP_no t5 w s5_); clear s5_
          rw [decide_eq_false (show ¬ sumsP _ _ _ _ _ from fun h => s5.out h.2.2.2.1)]
          go_enter Tryz.func53, Tryz.ntmps53
          go_wp2_with fail
          refine (C3.out _).mono ?_; rintro e w' ⟨rfl, rfl⟩
          go_wp2_with fail
          refine (C4.out _).mono ?_; rintro e w' ⟨rfl, rfl⟩
          go_wp2_with fail
          refine (C5.out _).mono ?_; rintro e w' ⟨rfl, rfl⟩
          go_wp2_with fail
          go_ret
          exact ⟨rfl, rfl⟩
      · have s4 := Lib.hid s4_; have C4 := Lib.hid (fun w => isSumP_no t4 w s4_); clear s4_
        rw [decide_eq_false (show ¬ sumsP _ _ _ _ _ from fun h => s4.out h.2.2.1)]
        go_enter Tryz.func53, Tryz.ntmps53
        go_wp2_with fail
        refine (C3.out _).mono ?_; rintro e w' ⟨rfl, rfl⟩
        go_wp2_with fail
        refine (C4.out _).mono ?_; rintro e w' ⟨rfl, rfl⟩
        go_wp2_with fail
        go_ret
        exact ⟨rfl, rfl⟩
    · have s3 := Lib.hid s3_; have C3 := Lib.hid (fun w => isSumP_no t3 w s3_); clear s3_
      rw [decide_eq_false (show ¬ sumsP _ _ _ _ _ from fun h => s3.out h.2.1)]
      go_enter Tryz.func53, Tryz.ntmps53
      go_wp2_with fail
      refine (C3.out _).mono ?_; rintro e w' ⟨rfl, rfl⟩
      go_wp2_with fail
      go_ret
      exact ⟨rfl, rfl⟩
def suitsP (n t0 t1 t2 t3 t4 t5 t6 : Int) : Prop := isTm t0 ∧ (0 ≤ t1 ∧ t1 ≤ 1000) ∧ 0 ≤ t2 ∧ t2 < n ∧ sumsP t2 t3 t4 t5 t6
instance (n t0 t1 t2 t3 t4 t5 t6 : Int) : Decidable (suitsP n t0 t1 t2 t3 t4 t5 t6) := inferInstanceAs (Decidable (_ ∧ _))
set_option maxRecDepth 20000 in
set_option maxHeartbeats 4000000 in
theorem suits_calls (p : Nat) (n t0 t1 t2 t3 t4 t5 t6 : Int) (t7 : Bool) (w : World) (hp : CellsAt w p 30 #[.int .i64 t0, .int .i64 t1, .int .i64 t2, .int .i64 t3, .int .i64 t4, .int .i64 t5, .int .i64 t6, .bool t7]) :
    Calls Tryz.prog 27 #[.pointer (some ⟨p, 0, none⟩), .int .i64 n] w fun e w' => e = .returned (.bool (decide (suitsP n t0 t1 t2 t3 t4 t5 t6))) ∧ w = w' := by
  have kc : ∀ i, w.cell? ⟨p, i, none⟩ = #[.int .i64 t0, .int .i64 t1, .int .i64 t2, .int .i64 t3, .int .i64 t4, .int .i64 t5, .int .i64 t6, .bool t7][i]? := hp.cell
  by_cases h0 : isTm t0
  · have H0 := Lib.hid h0; have CT := Lib.hid (fun w => isTime_yes t0 w h0); clear h0
    by_cases h1 : 0 ≤ t1 ∧ t1 ≤ 1000
    · have H1 := Lib.hid h1; have CE := Lib.hid (fun w => isEpoch_yes t1 w h1); clear h1
      by_cases h2 : 0 ≤ t2
      · by_cases h3 : t2 < n
        · have hd0 : decide (0 ≤ t2) = true := decide_eq_true h2
          have hd1 : decide (t2 < n) = true := decide_eq_true h3
          have H2 := Lib.hid h2; have H3 := Lib.hid h3
          have CS := Lib.hid (fun u (h : CellsAt u p 30 #[.int .i64 t0, .int .i64 t1, .int .i64 t2, .int .i64 t3, .int .i64 t4, .int .i64 t5, .int .i64 t6, .bool t7]) => sumsOk_calls p t0 t1 t2 t3 t4 t5 t6 t7 u h)
          have HP := Lib.hid hp
          clear hp
          by_cases h4 : sumsP t2 t3 t4 t5 t6
          · rw [decide_eq_true h4] at CS
            have H4 := Lib.hid h4
            clear h4
            rw [decide_eq_true (show suitsP _ _ _ _ _ _ _ _ from ⟨H0.out, H1.out, H2.out, H3.out, H4.out⟩)]
            go_enter Tryz.func27, Tryz.ntmps27
            go_wp2_with fail
            refine (CT.out _).mono ?_; rintro e w' ⟨rfl, rfl⟩
            go_wp2_with fail
            refine (CE.out _).mono ?_; rintro e w' ⟨rfl, rfl⟩
            go_wp2_with fail
            refine (CS.out _ HP.out).mono ?_; rintro e w' ⟨rfl, rfl⟩
            go_wp2_with fail
            go_ret
            exact ⟨rfl, rfl⟩
          · rw [decide_eq_false h4] at CS
            have H4 := Lib.hid h4
            clear h4
            rw [decide_eq_false (show ¬ suitsP _ _ _ _ _ _ _ _ from fun h => H4.out h.2.2.2.2)]
            go_enter Tryz.func27, Tryz.ntmps27
            go_wp2_with fail
            refine (CT.out _).mono ?_; rintro e w' ⟨rfl, rfl⟩
            go_wp2_with fail
            refine (CE.out _).mono ?_; rintro e w' ⟨rfl, rfl⟩
            go_wp2_with fail
            refine (CS.out _ HP.out).mono ?_; rintro e w' ⟨rfl, rfl⟩
            go_wp2_with fail
            go_ret
            exact ⟨rfl, rfl⟩
        · have hd0 : decide (0 ≤ t2) = true := decide_eq_true h2
          have hd1 : decide (t2 < n) = false := decide_eq_false h3
          have H3 := Lib.hid h3
          rw [decide_eq_false (show ¬ suitsP _ _ _ _ _ _ _ _ from fun h => H3.out h.2.2.2.1)]
          go_enter Tryz.func27, Tryz.ntmps27
          go_wp2_with fail
          refine (CT.out _).mono ?_; rintro e w' ⟨rfl, rfl⟩
          go_wp2_with fail
          refine (CE.out _).mono ?_; rintro e w' ⟨rfl, rfl⟩
          go_wp2_with fail
          go_ret
          exact ⟨rfl, rfl⟩
      · have hd0 : decide (0 ≤ t2) = false := decide_eq_false h2
        have H3 := Lib.hid h2
        rw [decide_eq_false (show ¬ suitsP _ _ _ _ _ _ _ _ from fun h => H3.out h.2.2.1)]
        go_enter Tryz.func27, Tryz.ntmps27
        go_wp2_with fail
        refine (CT.out _).mono ?_; rintro e w' ⟨rfl, rfl⟩
        go_wp2_with fail
        refine (CE.out _).mono ?_; rintro e w' ⟨rfl, rfl⟩
        go_wp2_with fail
        go_ret
        exact ⟨rfl, rfl⟩
    · have H1 := Lib.hid h1; have CE := Lib.hid (fun w => isEpoch_no t1 w h1); clear h1
      rw [decide_eq_false (show ¬ suitsP _ _ _ _ _ _ _ _ from fun h => H1.out h.2.1)]
      go_enter Tryz.func27, Tryz.ntmps27
      go_wp2_with fail
      refine (CT.out _).mono ?_; rintro e w' ⟨rfl, rfl⟩
      go_wp2_with fail
      refine (CE.out _).mono ?_; rintro e w' ⟨rfl, rfl⟩
      go_wp2_with fail
      go_ret
      exact ⟨rfl, rfl⟩
  · have H0 := Lib.hid h0; have CT := Lib.hid (fun w => isTime_no t0 w h0); clear h0
    rw [decide_eq_false (show ¬ suitsP _ _ _ _ _ _ _ _ from fun h => H0.out h.1)]
    go_enter Tryz.func27, Tryz.ntmps27
    go_wp2_with fail
    refine (CT.out _).mono ?_; rintro e w' ⟨rfl, rfl⟩
    go_wp2_with fail
    go_ret
    exact ⟨rfl, rfl⟩
set_option maxRecDepth 20000 in
set_option maxHeartbeats 4000000 in
theorem implTrustOk_calls (key x : Int) (A : Option Addr) (l : List Int) (cap : Nat) (t0 t1 t2 t3 t4 t5 t6 : Int) (t7 : Bool) (w : World) (hn : l.length ≤ 1048576) (hcap : l.length ≤ cap) (hA : Ints w .i64 w.heap.size A l) :
    Calls Tryz.prog 11 #[.agg #[.int .i64 key, .slice A l.length cap], .int .i64 x, .agg #[.int .i64 t0, .int .i64 t1, .int .i64 t2, .int .i64 t3, .int .i64 t4, .int .i64 t5, .int .i64 t6, .bool t7]] w fun e w' => e = .returned (.bool (trustB key l x ⟨t0, t1, t2, t3, t4, t5, t6, t7⟩)) ∧ Below w.heap.size w w' := by
  have hm : l.length ≤ maxLen := by unfold maxLen; omega
  have F0 := fun (u : World) (hb : Below w.heap.size w u) => firstOf_calls key x A l cap u hm hcap ((hA.below hb (Nat.le_refl _)).more hb.size)
  by_cases hf : 0 ≤ firstOf key l x
  · have hpr : planOk key l ∧ 0 ≤ x ∧ x < l.length := by
      refine Classical.byContradiction fun h => ?_
      unfold firstOf at hf
      rw [if_neg h] at hf
      omega
    obtain ⟨r, rfl⟩ : ∃ r : Nat, x = r := ⟨x.toNat, by omega⟩
    have hr : r < l.length := by omega
    obtain ⟨bb, oo, rfl, hbb, hcc⟩ := hA r hr
    have K0 := Lib.hid (show Kept w [(w.heap.size + 1, 30, #[.int .i64 t0, .int .i64 t1, .int .i64 t2, .int .i64 t3, .int .i64 t4, .int .i64 t5, .int .i64 t6, .bool t7]), (w.heap.size, 26, #[.int .i64 key, .slice (some ⟨bb, oo, none⟩) l.length cap])] _ from (((Kept.refl w).put1 _ _ #[.int .i64 key, .slice (some ⟨bb, oo, none⟩) l.length cap] rfl).put1 _ _ #[.int .i64 t0, .int .i64 t1, .int .i64 t2, .int .i64 t3, .int .i64 t4, .int .i64 t5, .int .i64 t6, .bool t7] (by simp)))
    have hd : decide (0 ≤ firstOf key l (r : Int)) = true := decide_eq_true hf
    have hi1 : (r : Int) < l.length := by omega
    have hi0 : (0 : Int) ≤ r := by omega
    have HC := Lib.hid (fun (u : World) (hb : Below w.heap.size w u) => (hb.cell (p := ⟨bb, oo + r, none⟩) hbb).trans hcc)
    have ev : l.getD ((r : Int)).toNat 0 = l.getD r 0 := by rw [Int.toNat_natCast]
    have HT := Lib.hid (show trustB key l (r : Int) ⟨t0, t1, t2, t3, t4, t5, t6, t7⟩ = decide (suitsP (l.getD r 0) t0 t1 t2 t3 t4 t5 t6) from by
      unfold trustB
      congr 1
      unfold trustOk suitsP sumsP
      rw [ev]
      simp only [eq_iff_iff]
      constructor
      · rintro ⟨_, _, a, b, ⟨c, d⟩, e, f⟩; exact ⟨a, b, c, by omega, e, f⟩
      · rintro ⟨a, b, c, d, e, f⟩; exact ⟨hpr.1, hpr.2, a, b, ⟨c, by omega⟩, e, f⟩)
    have SC := Lib.hid (fun u (h : CellsAt u (w.heap.size + 1) 30 #[.int .i64 t0, .int .i64 t1, .int .i64 t2, .int .i64 t3, .int .i64 t4, .int .i64 t5, .int .i64 t6, .bool t7]) => suits_calls (w.heap.size + 1) (l.getD r 0) t0 t1 t2 t3 t4 t5 t6 t7 u h)
    have F := Lib.hid F0
    generalize firstOf key l (r : Int) = f at F hd
    generalize l.getD r 0 = v at HC SC HT
    generalize decide (suitsP v t0 t1 t2 t3 t4 t5 t6) = z at SC HT
    clear hf hpr hr hcc ev hA F0 hm
    go_enter Tryz.func11, Tryz.ntmps11
    go_wp2_with fail
    refine (F.out _ K0.out.1).mono ?_; rintro e u1 ⟨rfl, hb⟩
    have hk1 := K0.out.below hb
    have cc := HC.out _ hk1.1
    have kz := hk1.at_ (p := w.heap.size + 1) (t := 30) (cs := #[.int .i64 t0, .int .i64 t1, .int .i64 t2, .int .i64 t3, .int .i64 t4, .int .i64 t5, .int .i64 t6, .bool t7]) (by simp)
    have KZ := Lib.hid kz
    have BL := Lib.hid hk1.1
    obtain ⟨kc0, kf0, kc1, kf1, -⟩ := hk1.rd
    clear hb hk1 kz F K0
    go_wp2_with fail
    refine (SC.out _ KZ.out).mono ?_; rintro e u2 ⟨rfl, rfl⟩
    go_wp2_with fail
    go_ret
    exact ⟨by rw [HT.out]; rfl, BL.out⟩
  · have K0 := Lib.hid (show Kept w [(w.heap.size + 1, 30, #[.int .i64 t0, .int .i64 t1, .int .i64 t2, .int .i64 t3, .int .i64 t4, .int .i64 t5, .int .i64 t6, .bool t7]), (w.heap.size, 26, #[.int .i64 key, .slice A l.length cap])] _ from (((Kept.refl w).put1 _ _ #[.int .i64 key, .slice A l.length cap] rfl).put1 _ _ #[.int .i64 t0, .int .i64 t1, .int .i64 t2, .int .i64 t3, .int .i64 t4, .int .i64 t5, .int .i64 t6, .bool t7] (by simp)))
    have hd : decide (0 ≤ firstOf key l x) = false := decide_eq_false hf
    have HT := Lib.hid (show trustB key l x ⟨t0, t1, t2, t3, t4, t5, t6, t7⟩ = false from trustB_no (fun h => hf (by
      have hp := h.1; have hx := h.2.1
      unfold firstOf
      rw [if_pos ⟨hp, hx⟩]
      exact (upTo_bd hp.2.2.1 (k := x.toNat) (by omega)).1)))
    have F := Lib.hid F0
    generalize firstOf key l x = f at F hd
    clear hf hA F0 hm
    go_enter Tryz.func11, Tryz.ntmps11
    go_wp2_with fail
    refine (F.out _ K0.out.1).mono ?_; rintro e u1 ⟨rfl, hb⟩
    have BL := Lib.hid (K0.out.below hb).1
    clear hb F K0
    go_wp2_with fail
    go_ret
    exact ⟨by rw [HT.out]; rfl, BL.out⟩
end Go.Proofs.YthbkccagpggljaaGreat.Mx

import Derived.Test.YtjbnknccnhdapaaGreatG30
import Derived.Test.YtjbnknccnhdapaaGreatG12
namespace Go.Proofs.YtjbnknccnhdapaaGreat.Mx
open Go.ChangeShapes Go.WideShapes Go.ChangeAt Go.RowKit
set_option linter.unusedVariables false
theorem l1Max_calls (a b : Int) (w : World) : Calls Tryz.prog 65 (cA a b) w fun e w' => e = .returned (.int .i64 (if b < a then a else b)) ∧ w = w' := by
 by_cases h : b < a
 ·rw [if_pos h]
  go_enter Tryz.func65, Tryz.ntmps65
  go_wp2_with fail
  go_ret
  exact ⟨rfl, rfl⟩
 ·rw [if_neg h]
  have hd : decide (b < a) = false := decide_eq_false h
  go_enter Tryz.func65, Tryz.ntmps65
  go_wp2_with fail
  go_ret
  exact ⟨rfl, rfl⟩
def OrdS (n : Nat) (v w : World) (g : Nat) (A : Option Addr) (l : List Int) (cap : Nat) (e : Ending) (w' : World) : Prop :=
 ∃ kind a b c : Int, e = .returned (.agg #[.int .i64 kind, .int .i64 a, .int .i64 b, .int .i64 c]) ∧ (1 ≤ kind ∧ kind ≤ 9) ∧ (0 ≤ a ∧ a ≤ 1048576) ∧ (kind = 4 → a < n) ∧ St v g A l cap w' ∧ w.grownBy w' (some g)
theorem ord_end {v w w3 : World} {g h : Nat} {A : Option Addr} {l : List Int} {cap : Nat} {x y z u p q r s : Int} (hg : g < h) (hw : w.heap.size ≤ h) (hk : CellsAt w3 h 84 #[.int .i64 p, .int .i64 q, .int .i64 r, .int .i64 s]) (hs : St v g A l cap w3) (hG : w.grownBy w3 (some g)) :
    ∃ w4, (((w3.setCell ⟨h, 0, none⟩ (.int .i64 x)).setCell ⟨h, 1, none⟩ (.int .i64 y)).setCell ⟨h, 2, none⟩ (.int .i64 z)).setCell ⟨h, 3, none⟩ (.int .i64 u) = w4 ∧ (w4.cell? ⟨h, 0, none⟩ = some (.int .i64 x) ∧ w4.cell? ⟨h, 1, none⟩ = some (.int .i64 y) ∧ w4.cell? ⟨h, 2, none⟩ = some (.int .i64 z) ∧ w4.cell? ⟨h, 3, none⟩ = some (.int .i64 u)) ∧ St v g A l cap w4 ∧ w.grownBy w4 (some g) := by
 have hc := (((hk.set_ 0 (.int .i64 x)).set_ 1 (.int .i64 y)).set_ 2 (.int .i64 z)).set_ 3 (.int .i64 u)
 exact ⟨_, rfl, ⟨hc.cell 0, hc.cell 1, hc.cell 2, hc.cell 3⟩, (((hs.set hg 0 (.int .i64 x)).set hg 1 (.int .i64 y)).set hg 2 (.int .i64 z)).set hg 3 (.int .i64 u), gb_new (gb_new (gb_new (gb_new hG hw 0 (.int .i64 x)) hw 1 (.int .i64 y)) hw 2 (.int .i64 z)) hw 3 (.int .i64 u)⟩
set_option maxRecDepth 20000 in
set_option maxHeartbeats 8000000 in
theorem l14Draw_st (v : World) (g : Nat) (A : Option Addr) (l : List Int) (cap : Nat) (w : World) (hn : l.length ≤ maxLen) (h : St v g A l cap w) (key cnt : Int) (PA PB PC PD : Option Addr) (n1 c1 n2 c2 n3 c3 n4 c4 : Nat) (h2 : n2 ≤ 1048576) (h3 : n3 ≤ 1048576) (h20 : 0 < n2) :
    Calls Tryz.prog 37 #[.pointer (some ⟨g, 0, none⟩), .agg #[.int .i64 key, .slice PA n1 c1, .slice PB n2 c2, .slice PC n3 c3, .slice PD n4 c4, .int .i64 cnt]] w (OrdS n2 v w g A l cap) := by
 have HN := Lib.hid hn
 have HL := h.2.lt
 have HS := Lib.hid ((h.alloc (.cells #[.int .i64 key, .slice PA n1 c1, .slice PB n2 c2, .slice PC n3 c3, .slice PD n4 c4, .int .i64 cnt] 45)).alloc (.cells #[.int .i64 0, .int .i64 0, .int .i64 0, .int .i64 0] 84))
 have HG := Lib.hid (gb_alloc (gb_alloc (gb_refl w (some g)) (.cells #[.int .i64 key, .slice PA n1 c1, .slice PB n2 c2, .slice PC n3 c3, .slice PD n4 c4, .int .i64 cnt] 45)) (.cells #[.int .i64 0, .int .i64 0, .int .i64 0, .int .i64 0] 84))
 have K0 := Lib.hid (show CellsAt ((w.alloc (.cells #[.int .i64 key, .slice PA n1 c1, .slice PB n2 c2, .slice PC n3 c3, .slice PD n4 c4, .int .i64 cnt] 45)).alloc (.cells #[.int .i64 0, .int .i64 0, .int .i64 0, .int .i64 0] 84)) w.heap.size 45 #[.int .i64 key, .slice PA n1 c1, .slice PB n2 c2, .slice PC n3 c3, .slice PD n4 c4, .int .i64 cnt] from CellsAt.grown (CellsAt.new w _ _) (World.grownBy_alloc _ _ none) (by simp))
 have Q0 := Lib.hid (show CellsAt ((w.alloc (.cells #[.int .i64 key, .slice PA n1 c1, .slice PB n2 c2, .slice PC n3 c3, .slice PD n4 c4, .int .i64 cnt] 45)).alloc (.cells #[.int .i64 0, .int .i64 0, .int .i64 0, .int .i64 0] 84)) (w.heap.size + 1) 84 #[.int .i64 0, .int .i64 0, .int .i64 0, .int .i64 0] from by
  have q := CellsAt.new (w.alloc (.cells #[.int .i64 key, .slice PA n1 c1, .slice PB n2 c2, .slice PC n3 c3, .slice PD n4 c4, .int .i64 cnt] 45)) 84 #[.int .i64 0, .int .i64 0, .int .i64 0, .int .i64 0]
  rwa [show (w.alloc (.cells #[.int .i64 key, .slice PA n1 c1, .slice PB n2 c2, .slice PC n3 c3, .slice PD n4 c4, .int .i64 cnt] 45)).heap.size = w.heap.size + 1 by simp] at q)
 clear hn h
 have MX := Lib.hid (fun a b u => l1Max_calls a b u)
 go_enter Tryz.func37, Tryz.ntmps37
 go_upto_region 1 with fail
 have hs0 := HS.out
 have hg0 := HG.out
 have k0 := K0.out
 have q0 := Q0.out
 clear HS HG K0 Q0
 generalize World.alloc _ _ = w0 at hs0 hg0 k0 q0 ⊢
 have hz0 := hg0.size
 have kc : ∀ i, w0.cell? ⟨w.heap.size, i, none⟩ = #[.int .i64 key, .slice PA n1 c1, .slice PB n2 c2, .slice PC n3 c3, .slice PD n4 c4, .int .i64 cnt][i]? := k0.cell
 have S0 := Lib.hid hs0
 have G0 := Lib.hid hg0
 have K0 := Lib.hid k0
 have Q0 := Lib.hid q0
 clear hs0 hg0 k0 q0
 go_wp2_with fail
 refine (MX.out _ _ _).mono ?_; rintro e w' ⟨rfl, rfl⟩
 obtain ⟨m1, hm1⟩ : ∃ m : Int, m = if (n3 : Int) < 1 then (1 : Int) else (n3 : Int) := ⟨_, rfl⟩
 have bm1 : 1 ≤ m1 ∧ m1 ≤ 1048576 := by rw [hm1]; split <;> omega
 rw [← hm1]
 clear hm1
 go_wp2_with fail
 refine (below_st v g A l cap m1 _ HN.out S0.out bm1.1).mono ?_; rintro e w1 ⟨a, rfl, ⟨a0, a1⟩, s1, g1⟩
 have kc1 : ∀ i, w1.cell? ⟨w.heap.size, i, none⟩ = #[.int .i64 key, .slice PA n1 c1, .slice PB n2 c2, .slice PC n3 c3, .slice PD n4 c4, .int .i64 cnt][i]? := (K0.out.grown g1 (by intro e; injection e; omega)).cell
 have S1 := Lib.hid s1
 have Q1 := Lib.hid (Q0.out.grown g1 (by intro e; injection e; omega))
 have G1 := Lib.hid (gb_trans G0.out g1)
 clear s1 g1 kc S0 Q0 G0 K0
 go_wp2_with fail
 refine (MX.out _ _ _).mono ?_; rintro e w' ⟨rfl, rfl⟩
 obtain ⟨m2, hm2⟩ : ∃ m : Int, m = if (n2 : Int) < 1 then (1 : Int) else (n2 : Int) := ⟨_, rfl⟩
 have bm2 : 1 ≤ m2 ∧ m2 ≤ 1048576 ∧ m2 ≤ n2 := by rw [hm2]; split <;> omega
 rw [← hm2]
 clear hm2
 go_wp2_with fail
 refine (below_st v g A l cap m2 _ HN.out S1.out bm2.1).mono ?_; rintro e w2 ⟨r, rfl, ⟨r0, r1⟩, s2, g2⟩
 have S2 := Lib.hid s2
 have Q2 := Lib.hid (Q1.out.grown g2 (by intro e; injection e; omega))
 have G2 := Lib.hid (gb_trans G1.out g2)
 clear s2 g2 kc1 S1 Q1 G1
 go_wp2_with fail
 refine (below_st v g A l cap 22 _ HN.out S2.out (by omega)).mono ?_; rintro e w3 ⟨k, rfl, ⟨k0, k1⟩, s3, g3⟩
 have S3 := Lib.hid s3
 have Q3 := Lib.hid (Q2.out.grown g3 (by intro e; injection e; omega))
 have G3 := Lib.hid (gb_trans G2.out g3)
 clear s3 g3 S2 Q2 G2
 obtain h_ : k = 0 ∨ k = 1 ∨ k = 2 ∨ k = 3 ∨ k = 4 ∨ k = 5 ∨ k = 6 ∨ k = 7 ∨ k = 8 ∨ k = 9 ∨ k = 10 ∨ k = 11 ∨ k = 12 ∨ k = 13 ∨ k = 14 ∨ k = 15 ∨ k = 16 ∨ k = 17 ∨ k = 18 ∨ k = 19 ∨ k = 20 ∨ k = 21 := by omega
 clear k0 k1
 rcases h_ with rfl | rfl | rfl | rfl | rfl | rfl | rfl | rfl | rfl | rfl | rfl | rfl | rfl | rfl | rfl | rfl | rfl | rfl | rfl | rfl | rfl | rfl
 ·skip
  have kz : ∀ i, w3.cell? ⟨w.heap.size + 1, i, none⟩ = #[.int .i64 0, .int .i64 0, .int .i64 0, .int .i64 0][i]? := Q3.out.cell
  have fz : ∀ i, w3.frozen? ⟨w.heap.size + 1, i, none⟩ = false := Q3.out.frozen
  go_wp2_with fail
  obtain ⟨w9, e9, ⟨d0, d1, d2, d3⟩, hs9, hg9⟩ := ord_end (x := 1) (y := a) (z := 0) (u := 0) (show g < w.heap.size + 1 by omega) (show w.heap.size ≤ w.heap.size + 1 by omega) Q3.out S3.out G3.out
  rw [e9]
  exact bodyPost_ret (v := .agg #[.int .i64 (1), .int .i64 (a), .int .i64 (0), .int .i64 (0)]) (by simp [results, Tryz.results37, go_sem, d0, d1, d2, d3]) rfl ⟨_, _, _, _, rfl, ⟨by omega, by omega⟩, ⟨by omega, by omega⟩, fun _ => by omega, hs9, hg9⟩
 ·skip
  have kz : ∀ i, w3.cell? ⟨w.heap.size + 1, i, none⟩ = #[.int .i64 0, .int .i64 0, .int .i64 0, .int .i64 0][i]? := Q3.out.cell
  have fz : ∀ i, w3.frozen? ⟨w.heap.size + 1, i, none⟩ = false := Q3.out.frozen
  go_wp2_with fail
  obtain ⟨w9, e9, ⟨d0, d1, d2, d3⟩, hs9, hg9⟩ := ord_end (x := 1) (y := a) (z := 0) (u := 0) (show g < w.heap.size + 1 by omega) (show w.heap.size ≤ w.heap.size + 1 by omega) Q3.out S3.out G3.out
  rw [e9]
  exact bodyPost_ret (v := .agg #[.int .i64 (1), .int .i64 (a), .int .i64 (0), .int .i64 (0)]) (by simp [results, Tryz.results37, go_sem, d0, d1, d2, d3]) rfl ⟨_, _, _, _, rfl, ⟨by omega, by omega⟩, ⟨by omega, by omega⟩, fun _ => by omega, hs9, hg9⟩
 ·skip
  have kz : ∀ i, w3.cell? ⟨w.heap.size + 1, i, none⟩ = #[.int .i64 0, .int .i64 0, .int .i64 0, .int .i64 0][i]? := Q3.out.cell
  have fz : ∀ i, w3.frozen? ⟨w.heap.size + 1, i, none⟩ = false := Q3.out.frozen
  go_wp2_with fail
  obtain ⟨w9, e9, ⟨d0, d1, d2, d3⟩, hs9, hg9⟩ := ord_end (x := 1) (y := a) (z := 0) (u := 0) (show g < w.heap.size + 1 by omega) (show w.heap.size ≤ w.heap.size + 1 by omega) Q3.out S3.out G3.out
  rw [e9]
  exact bodyPost_ret (v := .agg #[.int .i64 (1), .int .i64 (a), .int .i64 (0), .int .i64 (0)]) (by simp [results, Tryz.results37, go_sem, d0, d1, d2, d3]) rfl ⟨_, _, _, _, rfl, ⟨by omega, by omega⟩, ⟨by omega, by omega⟩, fun _ => by omega, hs9, hg9⟩
 ·skip
  have kz : ∀ i, w3.cell? ⟨w.heap.size + 1, i, none⟩ = #[.int .i64 0, .int .i64 0, .int .i64 0, .int .i64 0][i]? := Q3.out.cell
  have fz : ∀ i, w3.frozen? ⟨w.heap.size + 1, i, none⟩ = false := Q3.out.frozen
  go_wp2_with fail
  obtain ⟨w9, e9, ⟨d0, d1, d2, d3⟩, hs9, hg9⟩ := ord_end (x := 1) (y := a) (z := 0) (u := 0) (show g < w.heap.size + 1 by omega) (show w.heap.size ≤ w.heap.size + 1 by omega) Q3.out S3.out G3.out
  rw [e9]
  exact bodyPost_ret (v := .agg #[.int .i64 (1), .int .i64 (a), .int .i64 (0), .int .i64 (0)]) (by simp [results, Tryz.results37, go_sem, d0, d1, d2, d3]) rfl ⟨_, _, _, _, rfl, ⟨by omega, by omega⟩, ⟨by omega, by omega⟩, fun _ => by omega, hs9, hg9⟩
 ·skip
  go_wp2_with fail
  refine (below_st v g A l cap 10007 _ HN.out S3.out (by omega)).mono ?_; rintro e w4 ⟨b, rfl, ⟨b0, b1⟩, sx, gx⟩
  have S4 := Lib.hid sx
  have Q4 := Lib.hid (Q3.out.grown gx (by intro e; injection e; omega))
  have G4 := Lib.hid (gb_trans G3.out gx)
  clear sx gx S3 Q3 G3
  have kz : ∀ i, w4.cell? ⟨w.heap.size + 1, i, none⟩ = #[.int .i64 0, .int .i64 0, .int .i64 0, .int .i64 0][i]? := Q4.out.cell
  have fz : ∀ i, w4.frozen? ⟨w.heap.size + 1, i, none⟩ = false := Q4.out.frozen
  go_wp2_with fail
  obtain ⟨w9, e9, ⟨d0, d1, d2, d3⟩, hs9, hg9⟩ := ord_end (x := 2) (y := a) (z := b) (u := 0) (show g < w.heap.size + 1 by omega) (show w.heap.size ≤ w.heap.size + 1 by omega) Q4.out S4.out G4.out
  rw [e9]
  exact bodyPost_ret (v := .agg #[.int .i64 (2), .int .i64 (a), .int .i64 (b), .int .i64 (0)]) (by simp [results, Tryz.results37, go_sem, d0, d1, d2, d3]) rfl ⟨_, _, _, _, rfl, ⟨by omega, by omega⟩, ⟨by omega, by omega⟩, fun _ => by omega, hs9, hg9⟩
 ·skip
  go_wp2_with fail
  refine (below_st v g A l cap 10007 _ HN.out S3.out (by omega)).mono ?_; rintro e w4 ⟨b, rfl, ⟨b0, b1⟩, sx, gx⟩
  have S4 := Lib.hid sx
  have Q4 := Lib.hid (Q3.out.grown gx (by intro e; injection e; omega))
  have G4 := Lib.hid (gb_trans G3.out gx)
  clear sx gx S3 Q3 G3
  have kz : ∀ i, w4.cell? ⟨w.heap.size + 1, i, none⟩ = #[.int .i64 0, .int .i64 0, .int .i64 0, .int .i64 0][i]? := Q4.out.cell
  have fz : ∀ i, w4.frozen? ⟨w.heap.size + 1, i, none⟩ = false := Q4.out.frozen
  go_wp2_with fail
  obtain ⟨w9, e9, ⟨d0, d1, d2, d3⟩, hs9, hg9⟩ := ord_end (x := 2) (y := a) (z := b) (u := 0) (show g < w.heap.size + 1 by omega) (show w.heap.size ≤ w.heap.size + 1 by omega) Q4.out S4.out G4.out
  rw [e9]
  exact bodyPost_ret (v := .agg #[.int .i64 (2), .int .i64 (a), .int .i64 (b), .int .i64 (0)]) (by simp [results, Tryz.results37, go_sem, d0, d1, d2, d3]) rfl ⟨_, _, _, _, rfl, ⟨by omega, by omega⟩, ⟨by omega, by omega⟩, fun _ => by omega, hs9, hg9⟩
 ·skip
  go_wp2_with fail
  refine (below_st v g A l cap 10007 _ HN.out S3.out (by omega)).mono ?_; rintro e w4 ⟨b, rfl, ⟨b0, b1⟩, sx, gx⟩
  have S4 := Lib.hid sx
  have Q4 := Lib.hid (Q3.out.grown gx (by intro e; injection e; omega))
  have G4 := Lib.hid (gb_trans G3.out gx)
  clear sx gx S3 Q3 G3
  have kz : ∀ i, w4.cell? ⟨w.heap.size + 1, i, none⟩ = #[.int .i64 0, .int .i64 0, .int .i64 0, .int .i64 0][i]? := Q4.out.cell
  have fz : ∀ i, w4.frozen? ⟨w.heap.size + 1, i, none⟩ = false := Q4.out.frozen
  go_wp2_with fail
  obtain ⟨w9, e9, ⟨d0, d1, d2, d3⟩, hs9, hg9⟩ := ord_end (x := 2) (y := a) (z := b) (u := 0) (show g < w.heap.size + 1 by omega) (show w.heap.size ≤ w.heap.size + 1 by omega) Q4.out S4.out G4.out
  rw [e9]
  exact bodyPost_ret (v := .agg #[.int .i64 (2), .int .i64 (a), .int .i64 (b), .int .i64 (0)]) (by simp [results, Tryz.results37, go_sem, d0, d1, d2, d3]) rfl ⟨_, _, _, _, rfl, ⟨by omega, by omega⟩, ⟨by omega, by omega⟩, fun _ => by omega, hs9, hg9⟩
 ·skip
  go_wp2_with fail
  refine (below_st v g A l cap 10007 _ HN.out S3.out (by omega)).mono ?_; rintro e w4 ⟨b, rfl, ⟨b0, b1⟩, sx, gx⟩
  have S4 := Lib.hid sx
  have Q4 := Lib.hid (Q3.out.grown gx (by intro e; injection e; omega))
  have G4 := Lib.hid (gb_trans G3.out gx)
  clear sx gx S3 Q3 G3
  have kz : ∀ i, w4.cell? ⟨w.heap.size + 1, i, none⟩ = #[.int .i64 0, .int .i64 0, .int .i64 0, .int .i64 0][i]? := Q4.out.cell
  have fz : ∀ i, w4.frozen? ⟨w.heap.size + 1, i, none⟩ = false := Q4.out.frozen
  go_wp2_with fail
  obtain ⟨w9, e9, ⟨d0, d1, d2, d3⟩, hs9, hg9⟩ := ord_end (x := 2) (y := a) (z := b) (u := 0) (show g < w.heap.size + 1 by omega) (show w.heap.size ≤ w.heap.size + 1 by omega) Q4.out S4.out G4.out
  rw [e9]
  exact bodyPost_ret (v := .agg #[.int .i64 (2), .int .i64 (a), .int .i64 (b), .int .i64 (0)]) (by simp [results, Tryz.results37, go_sem, d0, d1, d2, d3]) rfl ⟨_, _, _, _, rfl, ⟨by omega, by omega⟩, ⟨by omega, by omega⟩, fun _ => by omega, hs9, hg9⟩
 ·skip
  go_wp2_with fail
  refine (below_st v g A l cap 10007 _ HN.out S3.out (by omega)).mono ?_; rintro e w4 ⟨b, rfl, ⟨b0, b1⟩, sx, gx⟩
  have S4 := Lib.hid sx
  have Q4 := Lib.hid (Q3.out.grown gx (by intro e; injection e; omega))
  have G4 := Lib.hid (gb_trans G3.out gx)
  clear sx gx S3 Q3 G3
  have kz : ∀ i, w4.cell? ⟨w.heap.size + 1, i, none⟩ = #[.int .i64 0, .int .i64 0, .int .i64 0, .int .i64 0][i]? := Q4.out.cell
  have fz : ∀ i, w4.frozen? ⟨w.heap.size + 1, i, none⟩ = false := Q4.out.frozen
  go_wp2_with fail
  obtain ⟨w9, e9, ⟨d0, d1, d2, d3⟩, hs9, hg9⟩ := ord_end (x := 2) (y := a) (z := b) (u := 0) (show g < w.heap.size + 1 by omega) (show w.heap.size ≤ w.heap.size + 1 by omega) Q4.out S4.out G4.out
  rw [e9]
  exact bodyPost_ret (v := .agg #[.int .i64 (2), .int .i64 (a), .int .i64 (b), .int .i64 (0)]) (by simp [results, Tryz.results37, go_sem, d0, d1, d2, d3]) rfl ⟨_, _, _, _, rfl, ⟨by omega, by omega⟩, ⟨by omega, by omega⟩, fun _ => by omega, hs9, hg9⟩
 ·skip
  have kz : ∀ i, w3.cell? ⟨w.heap.size + 1, i, none⟩ = #[.int .i64 0, .int .i64 0, .int .i64 0, .int .i64 0][i]? := Q3.out.cell
  have fz : ∀ i, w3.frozen? ⟨w.heap.size + 1, i, none⟩ = false := Q3.out.frozen
  go_wp2_with fail
  obtain ⟨w9, e9, ⟨d0, d1, d2, d3⟩, hs9, hg9⟩ := ord_end (x := 3) (y := r) (z := 0) (u := 0) (show g < w.heap.size + 1 by omega) (show w.heap.size ≤ w.heap.size + 1 by omega) Q3.out S3.out G3.out
  rw [e9]
  exact bodyPost_ret (v := .agg #[.int .i64 (3), .int .i64 (r), .int .i64 (0), .int .i64 (0)]) (by simp [results, Tryz.results37, go_sem, d0, d1, d2, d3]) rfl ⟨_, _, _, _, rfl, ⟨by omega, by omega⟩, ⟨by omega, by omega⟩, fun _ => by omega, hs9, hg9⟩
 ·skip
  have kz : ∀ i, w3.cell? ⟨w.heap.size + 1, i, none⟩ = #[.int .i64 0, .int .i64 0, .int .i64 0, .int .i64 0][i]? := Q3.out.cell
  have fz : ∀ i, w3.frozen? ⟨w.heap.size + 1, i, none⟩ = false := Q3.out.frozen
  go_wp2_with fail
  obtain ⟨w9, e9, ⟨d0, d1, d2, d3⟩, hs9, hg9⟩ := ord_end (x := 3) (y := r) (z := 0) (u := 0) (show g < w.heap.size + 1 by omega) (show w.heap.size ≤ w.heap.size + 1 by omega) Q3.out S3.out G3.out
  rw [e9]
  exact bodyPost_ret (v := .agg #[.int .i64 (3), .int .i64 (r), .int .i64 (0), .int .i64 (0)]) (by simp [results, Tryz.results37, go_sem, d0, d1, d2, d3]) rfl ⟨_, _, _, _, rfl, ⟨by omega, by omega⟩, ⟨by omega, by omega⟩, fun _ => by omega, hs9, hg9⟩
 ·skip
  have kz : ∀ i, w3.cell? ⟨w.heap.size + 1, i, none⟩ = #[.int .i64 0, .int .i64 0, .int .i64 0, .int .i64 0][i]? := Q3.out.cell
  have fz : ∀ i, w3.frozen? ⟨w.heap.size + 1, i, none⟩ = false := Q3.out.frozen
  go_wp2_with fail
  obtain ⟨w9, e9, ⟨d0, d1, d2, d3⟩, hs9, hg9⟩ := ord_end (x := 3) (y := r) (z := 0) (u := 0) (show g < w.heap.size + 1 by omega) (show w.heap.size ≤ w.heap.size + 1 by omega) Q3.out S3.out G3.out
  rw [e9]
  exact bodyPost_ret (v := .agg #[.int .i64 (3), .int .i64 (r), .int .i64 (0), .int .i64 (0)]) (by simp [results, Tryz.results37, go_sem, d0, d1, d2, d3]) rfl ⟨_, _, _, _, rfl, ⟨by omega, by omega⟩, ⟨by omega, by omega⟩, fun _ => by omega, hs9, hg9⟩
 ·skip
  have kz : ∀ i, w3.cell? ⟨w.heap.size + 1, i, none⟩ = #[.int .i64 0, .int .i64 0, .int .i64 0, .int .i64 0][i]? := Q3.out.cell
  have fz : ∀ i, w3.frozen? ⟨w.heap.size + 1, i, none⟩ = false := Q3.out.frozen
  go_wp2_with fail
  obtain ⟨w9, e9, ⟨d0, d1, d2, d3⟩, hs9, hg9⟩ := ord_end (x := 3) (y := r) (z := 0) (u := 0) (show g < w.heap.size + 1 by omega) (show w.heap.size ≤ w.heap.size + 1 by omega) Q3.out S3.out G3.out
  rw [e9]
  exact bodyPost_ret (v := .agg #[.int .i64 (3), .int .i64 (r), .int .i64 (0), .int .i64 (0)]) (by simp [results, Tryz.results37, go_sem, d0, d1, d2, d3]) rfl ⟨_, _, _, _, rfl, ⟨by omega, by omega⟩, ⟨by omega, by omega⟩, fun _ => by omega, hs9, hg9⟩
 ·skip
  have kz : ∀ i, w3.cell? ⟨w.heap.size + 1, i, none⟩ = #[.int .i64 0, .int .i64 0, .int .i64 0, .int .i64 0][i]? := Q3.out.cell
  have fz : ∀ i, w3.frozen? ⟨w.heap.size + 1, i, none⟩ = false := Q3.out.frozen
  go_wp2_with fail
  obtain ⟨w9, e9, ⟨d0, d1, d2, d3⟩, hs9, hg9⟩ := ord_end (x := 3) (y := r) (z := 0) (u := 0) (show g < w.heap.size + 1 by omega) (show w.heap.size ≤ w.heap.size + 1 by omega) Q3.out S3.out G3.out
  rw [e9]
  exact bodyPost_ret (v := .agg #[.int .i64 (3), .int .i64 (r), .int .i64 (0), .int .i64 (0)]) (by simp [results, Tryz.results37, go_sem, d0, d1, d2, d3]) rfl ⟨_, _, _, _, rfl, ⟨by omega, by omega⟩, ⟨by omega, by omega⟩, fun _ => by omega, hs9, hg9⟩
 ·skip
  have kz : ∀ i, w3.cell? ⟨w.heap.size + 1, i, none⟩ = #[.int .i64 0, .int .i64 0, .int .i64 0, .int .i64 0][i]? := Q3.out.cell
  have fz : ∀ i, w3.frozen? ⟨w.heap.size + 1, i, none⟩ = false := Q3.out.frozen
  go_wp2_with fail
  obtain ⟨w9, e9, ⟨d0, d1, d2, d3⟩, hs9, hg9⟩ := ord_end (x := 4) (y := r) (z := 0) (u := 0) (show g < w.heap.size + 1 by omega) (show w.heap.size ≤ w.heap.size + 1 by omega) Q3.out S3.out G3.out
  rw [e9]
  exact bodyPost_ret (v := .agg #[.int .i64 (4), .int .i64 (r), .int .i64 (0), .int .i64 (0)]) (by simp [results, Tryz.results37, go_sem, d0, d1, d2, d3]) rfl ⟨_, _, _, _, rfl, ⟨by omega, by omega⟩, ⟨by omega, by omega⟩, fun _ => by omega, hs9, hg9⟩
 ·skip
  have kz : ∀ i, w3.cell? ⟨w.heap.size + 1, i, none⟩ = #[.int .i64 0, .int .i64 0, .int .i64 0, .int .i64 0][i]? := Q3.out.cell
  have fz : ∀ i, w3.frozen? ⟨w.heap.size + 1, i, none⟩ = false := Q3.out.frozen
  go_wp2_with fail
  obtain ⟨w9, e9, ⟨d0, d1, d2, d3⟩, hs9, hg9⟩ := ord_end (x := 5) (y := 0) (z := 0) (u := 0) (show g < w.heap.size + 1 by omega) (show w.heap.size ≤ w.heap.size + 1 by omega) Q3.out S3.out G3.out
  rw [e9]
  exact bodyPost_ret (v := .agg #[.int .i64 (5), .int .i64 (0), .int .i64 (0), .int .i64 (0)]) (by simp [results, Tryz.results37, go_sem, d0, d1, d2, d3]) rfl ⟨_, _, _, _, rfl, ⟨by omega, by omega⟩, ⟨by omega, by omega⟩, fun _ => by omega, hs9, hg9⟩
 ·skip
  have kz : ∀ i, w3.cell? ⟨w.heap.size + 1, i, none⟩ = #[.int .i64 0, .int .i64 0, .int .i64 0, .int .i64 0][i]? := Q3.out.cell
  have fz : ∀ i, w3.frozen? ⟨w.heap.size + 1, i, none⟩ = false := Q3.out.frozen
  go_wp2_with fail
  obtain ⟨w9, e9, ⟨d0, d1, d2, d3⟩, hs9, hg9⟩ := ord_end (x := 5) (y := 0) (z := 0) (u := 0) (show g < w.heap.size + 1 by omega) (show w.heap.size ≤ w.heap.size + 1 by omega) Q3.out S3.out G3.out
  rw [e9]
  exact bodyPost_ret (v := .agg #[.int .i64 (5), .int .i64 (0), .int .i64 (0), .int .i64 (0)]) (by simp [results, Tryz.results37, go_sem, d0, d1, d2, d3]) rfl ⟨_, _, _, _, rfl, ⟨by omega, by omega⟩, ⟨by omega, by omega⟩, fun _ => by omega, hs9, hg9⟩
 ·skip
  go_wp2_with fail
  refine (below_st v g A l cap 4 _ HN.out S3.out (by omega)).mono ?_; rintro e w4 ⟨b, rfl, ⟨b0, b1⟩, sx, gx⟩
  have S4 := Lib.hid sx
  have Q4 := Lib.hid (Q3.out.grown gx (by intro e; injection e; omega))
  have G4 := Lib.hid (gb_trans G3.out gx)
  clear sx gx S3 Q3 G3
  have kz : ∀ i, w4.cell? ⟨w.heap.size + 1, i, none⟩ = #[.int .i64 0, .int .i64 0, .int .i64 0, .int .i64 0][i]? := Q4.out.cell
  have fz : ∀ i, w4.frozen? ⟨w.heap.size + 1, i, none⟩ = false := Q4.out.frozen
  go_wp2_with fail
  obtain ⟨w9, e9, ⟨d0, d1, d2, d3⟩, hs9, hg9⟩ := ord_end (x := 6) (y := b) (z := 0) (u := 0) (show g < w.heap.size + 1 by omega) (show w.heap.size ≤ w.heap.size + 1 by omega) Q4.out S4.out G4.out
  rw [e9]
  exact bodyPost_ret (v := .agg #[.int .i64 (6), .int .i64 (b), .int .i64 (0), .int .i64 (0)]) (by simp [results, Tryz.results37, go_sem, d0, d1, d2, d3]) rfl ⟨_, _, _, _, rfl, ⟨by omega, by omega⟩, ⟨by omega, by omega⟩, fun _ => by omega, hs9, hg9⟩
 ·skip
  go_wp2_with fail
  refine (below_st v g A l cap 20 _ HN.out S3.out (by omega)).mono ?_; rintro e w4 ⟨b, rfl, ⟨b0, b1⟩, sx, gx⟩
  have S4 := Lib.hid sx
  have Q4 := Lib.hid (Q3.out.grown gx (by intro e; injection e; omega))
  have G4 := Lib.hid (gb_trans G3.out gx)
  clear sx gx S3 Q3 G3
  go_wp2_with fail
  refine (below_st v g A l cap 10007 _ HN.out S4.out (by omega)).mono ?_; rintro e w5 ⟨c, rfl, ⟨c0, c1⟩, sx, gx⟩
  have S5 := Lib.hid sx
  have Q5 := Lib.hid (Q4.out.grown gx (by intro e; injection e; omega))
  have G5 := Lib.hid (gb_trans G4.out gx)
  clear sx gx S4 Q4 G4
  have kz : ∀ i, w5.cell? ⟨w.heap.size + 1, i, none⟩ = #[.int .i64 0, .int .i64 0, .int .i64 0, .int .i64 0][i]? := Q5.out.cell
  have fz : ∀ i, w5.frozen? ⟨w.heap.size + 1, i, none⟩ = false := Q5.out.frozen
  go_wp2_with fail
  obtain ⟨w9, e9, ⟨d0, d1, d2, d3⟩, hs9, hg9⟩ := ord_end (x := 7) (y := a) (z := b) (u := c) (show g < w.heap.size + 1 by omega) (show w.heap.size ≤ w.heap.size + 1 by omega) Q5.out S5.out G5.out
  rw [e9]
  exact bodyPost_ret (v := .agg #[.int .i64 (7), .int .i64 (a), .int .i64 (b), .int .i64 (c)]) (by simp [results, Tryz.results37, go_sem, d0, d1, d2, d3]) rfl ⟨_, _, _, _, rfl, ⟨by omega, by omega⟩, ⟨by omega, by omega⟩, fun _ => by omega, hs9, hg9⟩
 ·skip
  go_wp2_with fail
  refine (below_st v g A l cap 2 _ HN.out S3.out (by omega)).mono ?_; rintro e w4 ⟨b, rfl, ⟨b0, b1⟩, sx, gx⟩
  have S4 := Lib.hid sx
  have Q4 := Lib.hid (Q3.out.grown gx (by intro e; injection e; omega))
  have G4 := Lib.hid (gb_trans G3.out gx)
  clear sx gx S3 Q3 G3
  have kz : ∀ i, w4.cell? ⟨w.heap.size + 1, i, none⟩ = #[.int .i64 0, .int .i64 0, .int .i64 0, .int .i64 0][i]? := Q4.out.cell
  have fz : ∀ i, w4.frozen? ⟨w.heap.size + 1, i, none⟩ = false := Q4.out.frozen
  go_wp2_with fail
  obtain ⟨w9, e9, ⟨d0, d1, d2, d3⟩, hs9, hg9⟩ := ord_end (x := 8) (y := a) (z := b) (u := 0) (show g < w.heap.size + 1 by omega) (show w.heap.size ≤ w.heap.size + 1 by omega) Q4.out S4.out G4.out
  rw [e9]
  exact bodyPost_ret (v := .agg #[.int .i64 (8), .int .i64 (a), .int .i64 (b), .int .i64 (0)]) (by simp [results, Tryz.results37, go_sem, d0, d1, d2, d3]) rfl ⟨_, _, _, _, rfl, ⟨by omega, by omega⟩, ⟨by omega, by omega⟩, fun _ => by omega, hs9, hg9⟩
 ·skip
  go_wp2_with fail
  refine (once_st v g A l cap 6 _ HN.out S3.out (by omega)).mono ?_; rintro e w4 ⟨o, rfl, sx, gx⟩
  have S4 := Lib.hid sx
  have Q4 := Lib.hid (Q3.out.grown gx (by intro e; injection e; omega))
  have G4 := Lib.hid (gb_trans G3.out gx)
  clear sx gx S3 Q3 G3
  cases o
  ·skip
   have kz : ∀ i, w4.cell? ⟨w.heap.size + 1, i, none⟩ = #[.int .i64 0, .int .i64 0, .int .i64 0, .int .i64 0][i]? := Q4.out.cell
   have fz : ∀ i, w4.frozen? ⟨w.heap.size + 1, i, none⟩ = false := Q4.out.frozen
   go_wp2_with fail
   obtain ⟨w9, e9, ⟨d0, d1, d2, d3⟩, hs9, hg9⟩ := ord_end (x := 1) (y := a) (z := 0) (u := 0) (show g < w.heap.size + 1 by omega) (show w.heap.size ≤ w.heap.size + 1 by omega) Q4.out S4.out G4.out
   rw [e9]
   exact bodyPost_ret (v := .agg #[.int .i64 (1), .int .i64 (a), .int .i64 (0), .int .i64 (0)]) (by simp [results, Tryz.results37, go_sem, d0, d1, d2, d3]) rfl ⟨_, _, _, _, rfl, ⟨by omega, by omega⟩, ⟨by omega, by omega⟩, fun _ => by omega, hs9, hg9⟩
  ·skip
   go_wp2_with fail
   refine (below_st v g A l cap 2 _ HN.out S4.out (by omega)).mono ?_; rintro e w5 ⟨b, rfl, ⟨b0, b1⟩, sx, gx⟩
   have S5 := Lib.hid sx
   have Q5 := Lib.hid (Q4.out.grown gx (by intro e; injection e; omega))
   have G5 := Lib.hid (gb_trans G4.out gx)
   clear sx gx S4 Q4 G4
   have kz : ∀ i, w5.cell? ⟨w.heap.size + 1, i, none⟩ = #[.int .i64 0, .int .i64 0, .int .i64 0, .int .i64 0][i]? := Q5.out.cell
   have fz : ∀ i, w5.frozen? ⟨w.heap.size + 1, i, none⟩ = false := Q5.out.frozen
   go_wp2_with fail
   obtain ⟨w9, e9, ⟨d0, d1, d2, d3⟩, hs9, hg9⟩ := ord_end (x := 9) (y := b) (z := 0) (u := 0) (show g < w.heap.size + 1 by omega) (show w.heap.size ≤ w.heap.size + 1 by omega) Q5.out S5.out G5.out
   rw [e9]
   exact bodyPost_ret (v := .agg #[.int .i64 (9), .int .i64 (b), .int .i64 (0), .int .i64 (0)]) (by simp [results, Tryz.results37, go_sem, d0, d1, d2, d3]) rfl ⟨_, _, _, _, rfl, ⟨by omega, by omega⟩, ⟨by omega, by omega⟩, fun _ => by omega, hs9, hg9⟩
 ·skip
  have kz : ∀ i, w3.cell? ⟨w.heap.size + 1, i, none⟩ = #[.int .i64 0, .int .i64 0, .int .i64 0, .int .i64 0][i]? := Q3.out.cell
  have fz : ∀ i, w3.frozen? ⟨w.heap.size + 1, i, none⟩ = false := Q3.out.frozen
  go_wp2_with fail
  obtain ⟨w9, e9, ⟨d0, d1, d2, d3⟩, hs9, hg9⟩ := ord_end (x := 1) (y := a) (z := 0) (u := 0) (show g < w.heap.size + 1 by omega) (show w.heap.size ≤ w.heap.size + 1 by omega) Q3.out S3.out G3.out
  rw [e9]
  exact bodyPost_ret (v := .agg #[.int .i64 (1), .int .i64 (a), .int .i64 (0), .int .i64 (0)]) (by simp [results, Tryz.results37, go_sem, d0, d1, d2, d3]) rfl ⟨_, _, _, _, rfl, ⟨by omega, by omega⟩, ⟨by omega, by omega⟩, fun _ => by omega, hs9, hg9⟩
end Go.Proofs.YtjbnknccnhdapaaGreat.Mx

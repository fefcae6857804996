/- THE WALK OF laws.FnTriples: it returns true at every code, and writes nothing that was there. -/
import Derived.Test.YthkkdgfgcidpoaaTripB
import Derived.Test.YthkkdgfgcidpoaaTripNum
import Derived.Test.YthkkdgfgcidpoaaDrawG
import Derived.Test.YthkkdgfgcidpoaaDice
import Derived.Test.YthkkdgfgcidpoaaMixedL
import Derived.Test.YthkkdgfgcidpoaaKept
import Derived.Deep.RegionHeld3
namespace Go.Proofs.Ythkkdgfgcidpoaa.Mx
open Go.ChangeShapes Go.WideShapes Go.ChangeAt Go.RowKit Go.Maps
set_option linter.unusedVariables false

/-- Since world b nothing that was there has turned; two blocks hold two triples. -/
def TwoTri (b : World) (p q : Nat) (x y z x' y' z' : Int) (w' : World) : Prop :=
  Below b.heap.size b w' ∧ CellsAt w' p 25 #[.int .i64 x, .int .i64 y, .int .i64 z] ∧ CellsAt w' q 25 #[.int .i64 x', .int .i64 y', .int .i64 z']
theorem TwoTri.cells {b : World} {p q : Nat} {x y z x' y' z' : Int} {w : World} (h : TwoTri b p q x y z x' y' z' w) :
    (w.cell? ⟨p, 0, none⟩ = some (.int .i64 x) ∧ w.cell? ⟨p, 1, none⟩ = some (.int .i64 y) ∧ w.cell? ⟨p, 2, none⟩ = some (.int .i64 z) ∧ w.cell? ⟨q, 0, none⟩ = some (.int .i64 x') ∧ w.cell? ⟨q, 1, none⟩ = some (.int .i64 y') ∧ w.cell? ⟨q, 2, none⟩ = some (.int .i64 z')) ∧ TwoTri b p q x y z x' y' z' w :=
  ⟨⟨h.2.1.cell 0, h.2.1.cell 1, h.2.1.cell 2, h.2.2.cell 0, h.2.2.cell 1, h.2.2.cell 2⟩, h⟩
theorem TwoTri.keep {b : World} {p q : Nat} {x y z x' y' z' : Int} {u w : World} (hb : Below u.heap.size u w)
    (h : (u.cell? ⟨p, 0, none⟩ = some (.int .i64 x) ∧ u.cell? ⟨p, 1, none⟩ = some (.int .i64 y) ∧ u.cell? ⟨p, 2, none⟩ = some (.int .i64 z) ∧ u.cell? ⟨q, 0, none⟩ = some (.int .i64 x') ∧ u.cell? ⟨q, 1, none⟩ = some (.int .i64 y') ∧ u.cell? ⟨q, 2, none⟩ = some (.int .i64 z')) ∧ TwoTri b p q x y z x' y' z' u) :
    (w.cell? ⟨p, 0, none⟩ = some (.int .i64 x) ∧ w.cell? ⟨p, 1, none⟩ = some (.int .i64 y) ∧ w.cell? ⟨p, 2, none⟩ = some (.int .i64 z) ∧ w.cell? ⟨q, 0, none⟩ = some (.int .i64 x') ∧ w.cell? ⟨q, 1, none⟩ = some (.int .i64 y') ∧ w.cell? ⟨q, 2, none⟩ = some (.int .i64 z')) ∧ TwoTri b p q x y z x' y' z' w :=
  TwoTri.cells ⟨h.2.1.trans (hb.mono h.2.1.size), h.2.2.1.below hb h.2.2.1.lt, h.2.2.2.below hb h.2.2.2.lt⟩

theorem Dice.drew {w : World} {g : Nat} {A : Option Addr} {l : List Int} {cap : Nat} (h : Dice w g A l cap) : Dice w.drew g A l cap := by
  obtain ⟨hA, i, x, hi, hc⟩ := h
  exact ⟨hA, i, x, hi, hc⟩
theorem Dice.set {w : World} {g : Nat} {A : Option Addr} {l : List Int} {cap : Nat} (h : Dice w g A l cap) {b : Nat} (hb : g < b) (i : Nat) (u : Value) : Dice (w.setCell ⟨b, i, none⟩ u) g A l cap := by
  have hlt := h.lt
  obtain ⟨hA, j, x, hi, hc⟩ := h
  exact ⟨hA.gb (gb_set (gb_refl w (some b)) i u) (Nat.le_of_lt hlt) (Nat.le_of_lt hb), j, x, hi, hc.grown (gb_set (gb_refl w (some b)) i u) (by intro e; injection e with e; omega)⟩
theorem d8_below {u w : World} {g : Nat} {A : Option Addr} {l : List Int} {cap : Nat} (h : Dice u g A l cap) (hb : Below u.heap.size u w) : Dice w g A l cap := h.below hb h.lt

set_option maxHeartbeats 2000000 in
theorem triplesLaw_calls (A : Option Addr) (l : List Int) (cap : Nat) (w : World) (hn : l.length ≤ maxLen) (hA : Ints w .u8 w.heap.size A l) (h8 : ∀ i, i < l.length → 0 ≤ l.getD i 0 ∧ l.getD i 0 ≤ 255) :
    Calls Try.prog 3 #[.slice A l.length cap] w fun e w' => e = .returned (.bool true) ∧ Below w.heap.size w w' := by
  by_cases hs : 4096 < l.length
  · go_enter Try.func3, Try.ntmps3
    go_wp2_with fail
    refine (big_yes A l.length cap w hs).mono ?_; rintro e w' ⟨rfl, rfl⟩
    go_wp2_with fail
    go_ret
    exact ⟨rfl, Below.refl _ _⟩
  · have hs' : l.length ≤ 4096 := by omega
    clear hs
    have HN := Lib.hid hn
    have HA := Lib.hid hA
    have H8 := Lib.hid h8
    clear hn hA h8
    go_enter Try.func3, Try.ntmps3
    go_wp2_with fail
    refine (big_no A l.length cap w hs').mono ?_; rintro e w' ⟨rfl, rfl⟩
    go_wp2_with fail
    refine (drawTagOf_calls A l cap w HN.out HA.out).mono ?_; rintro e w1 ⟨k, a, t, v, rfl, a0, t0, v0, b1⟩
    have B1 := Lib.hid b1
    have CT := Lib.hid (fun w => tag_calls k a t v w a0 t0 v0)
    have DT := Lib.hid (fun w => specTag_calls k a t v w)
    have E1 := Lib.hid (b1.alloc b1.size (.cells #[.int .i64 a, .int .i64 t, .int .i64 v] 25))
    have HA1 := Lib.hid ((HA.out.below E1.out (Nat.le_refl _)).more (show w.heap.size ≤ (w1.alloc (.cells #[.int .i64 a, .int .i64 t, .int .i64 v] 25)).heap.size by have := b1.size; simp; omega))
    have K1 := Lib.hid (CellsAt.new w1 25 #[.int .i64 a, .int .i64 t, .int .i64 v])
    clear b1 a0 t0 v0
    generalize tagOf k a t v = d at CT DT
    go_wp2_with fail
    refine (drawTripleOk_calls A l cap _ HN.out HA1.out).mono ?_; rintro e w2 ⟨a', t', v', rfl, a0, t0, v0, b2⟩
    have T2 := Lib.hid (show TwoTri w w1.heap.size w2.heap.size a t v a' t' v' (w2.alloc (.cells #[.int .i64 a', .int .i64 t', .int .i64 v'] 25)).drew from
      ⟨((E1.out.trans (b2.mono E1.out.size)).alloc (Nat.le_trans E1.out.size b2.size) _).drew, (CellsAt.grown (K1.out.below b2 K1.out.lt) (World.grownBy_alloc w2 _ none) (by simp)).drew, (CellsAt.new w2 _ _).drew⟩)
    have CO := Lib.hid (fun w => tripleOk_calls a' t' v' w)
    have DO := Lib.hid (fun w => specTripleOk_calls a' t' v' w)
    clear b2 a0 t0 v0 K1 E1 HA1
    generalize decide (isTri a' t' v') = f at CO DO
    go_wp2_with fail
    go_region_held3 (fun w' => (w'.cell? ⟨w1.heap.size, 0, none⟩ = some (.int .i64 a) ∧ w'.cell? ⟨w1.heap.size, 1, none⟩ = some (.int .i64 t) ∧ w'.cell? ⟨w1.heap.size, 2, none⟩ = some (.int .i64 v) ∧ w'.cell? ⟨w2.heap.size, 0, none⟩ = some (.int .i64 a') ∧ w'.cell? ⟨w2.heap.size, 1, none⟩ = some (.int .i64 t') ∧ w'.cell? ⟨w2.heap.size, 2, none⟩ = some (.int .i64 v')) ∧ TwoTri w w1.heap.size w2.heap.size a t v a' t' v' w')
      (first | exact TwoTri.keep ‹Below _ _ _› ‹_› | exact TwoTri.cells T2.out)
      (first
        | (go_at_call 9; refine (CT.out _).mono ?_; rintro e wx ⟨rfl, bx⟩)
        | (go_at_call 10; refine (DT.out _).mono ?_; rintro e wx ⟨rfl, bx⟩)
        | (go_at_call 11; refine (CO.out _).mono ?_; rintro e wx ⟨rfl, bx⟩)
        | (go_at_call 12; refine (DO.out _).mono ?_; rintro e wx ⟨rfl, bx⟩))
    all_goals
      obtain ⟨-, TT⟩ := ‹_ ∧ TwoTri _ _ _ _ _ _ _ _ _ _›
      have B3 := Lib.hid TT.1
      clear TT T2 CT DT CO DO B1 bx
      have s3 := B3.out.size
      go_wp2_with fail
      refine (roll_calls A l cap 4 _ HN.out ((HA.out.below B3.out (Nat.le_refl _)).more s3)).mono ?_; rintro e w4 ⟨rfl, b4, d4⟩
      have B4 := Lib.hid (B3.out.trans (b4.mono s3))
      have D4 := Lib.hid d4
      clear b4 d4 B3
      obtain ⟨g, hg⟩ : ∃ g, g = wx.heap.size := ⟨_, rfl⟩
      rw [← hg] at s3 D4 ⊢
      clear hg
      go_wp2_with fail
      refine (throw_calls g A l cap 1000 w4 HN.out D4.out H8.out (by omega)).mono ?_; rintro e w5 ⟨q, rfl, ⟨q0, q1⟩, g5, d5⟩
      have B5 := Lib.hid (bgb B4.out g5 B4.out.size s3)
      have D5 := Lib.hid d5
      clear g5 d5 D4 B4
      go_wp2_with fail
      refine (throw_calls g A l cap 20 w5 HN.out D5.out H8.out (by omega)).mono ?_; rintro e w6 ⟨x, rfl, ⟨x0, x1⟩, g6, d6⟩
      have B6 := Lib.hid (bgb B5.out g6 B5.out.size s3)
      have D6 := Lib.hid d6
      clear g6 d6 D5 B5
      go_wp2_with fail
      refine (throw_calls g A l cap 900 w6 HN.out D6.out H8.out (by omega)).mono ?_; rintro e w7 ⟨y, rfl, ⟨y0, y1⟩, g7, d7⟩
      have B7 := Lib.hid (bgb B6.out g7 B6.out.size s3)
      have D7 := Lib.hid d7
      clear g7 d7 D6 B6
      go_wp2_with fail
      refine (throw_calls g A l cap 900 w7 HN.out D7.out H8.out (by omega)).mono ?_; rintro e w8 ⟨z, rfl, ⟨z0, z1⟩, g8, d8⟩
      have KK := Lib.hid (Kept.new (Kept.of_below (bgb B7.out g8 B7.out.size s3)) 25 #[.int .i64 x, .int .i64 y, .int .i64 z])
      have lt8 := d8.lt
      have D8 := Lib.hid (d8.below ((Below.refl w8.heap.size w8).alloc (Nat.le_refl _) (.cells #[.int .i64 x, .int .i64 y, .int .i64 z] 25)) lt8)
      clear g8 d8 D7 B7
      have ix : I64 x := ⟨by omega, by omega⟩
      have iy : I64 y := ⟨by omega, by omega⟩
      have iz : I64 z := ⟨by omega, by omega⟩
      have C0 := Lib.hid (fun w => tag_calls (1 + q) x y z w ix iy iz)
      have f0 := tag_pos (t := y) (v := z) q0 (by omega) x0 (by omega) y0 (by omega) z0 (by omega)
      have f1 := tag_at (t := y) (v := z) q0 (by omega) x0 (by omega) y0 (by omega) z0 (by omega)
      have C1 := Lib.hid (fun w => tag_calls (1 + q) (x + 1) y z w ⟨by omega, by omega⟩ iy iz)
      have F2 := Lib.hid (fun d d0 d1 => tag_time (d := d) q0 (by omega) x0 (by omega) y0 (by omega) z0 (by omega) d0 d1)
      have C2 := Lib.hid (fun d (d0 : 0 ≤ d) (d1 : d ≤ 49) w => tag_calls (1 + q) x (y + 1 + d) z w ix ⟨by omega, by omega⟩ iz)
      have F3 := Lib.hid (fun d d0 d1 => tag_value (d := d) q0 (by omega) x0 (by omega) y0 (by omega) z0 (by omega) d0 d1)
      have C3 := Lib.hid (fun d (d0 : 0 ≤ d) (d1 : d ≤ 49) w => tag_calls (1 + q) x y (z + 1 + d) w ix iy ⟨by omega, by omega⟩)
      clear ix iy iz
      generalize tagOf (1 + q) x y z = tag at C0 f0 f1 F2 F3
      generalize tagOf (1 + q) (x + 1) y z = tag1 at C1 f1
      have E1 : (tag != tag1) = true := by simpa using f1
      clear f1
      go_wp2_with fail
      refine (C0.out _).mono ?_; rintro e w9 ⟨rfl, b9⟩
      have D9 := Lib.hid (d8_below D8.out b9)
      have K9 := Lib.hid (KK.out.below b9)
      obtain ⟨c0, c1, c2⟩ := K9.out.three
      have lt9 := D9.out.lt
      clear b9 D8 KK
      have ka := (K9.out.new 25 #[.int .i64 (x + 1), .int .i64 y, .int .i64 z]).new 25 #[.int .i64 x, .int .i64 y, .int .i64 z]
      rw [show (w9.alloc (.cells #[.int .i64 (x + 1), .int .i64 y, .int .i64 z] 25)).heap.size = w9.heap.size + 1 by simp] at ka
      have KA := Lib.hid ka
      clear ka
      have DA := Lib.hid (Dice.below (Dice.below D9.out ((Below.refl w9.heap.size w9).alloc (Nat.le_refl _) (.cells #[.int .i64 (x + 1), .int .i64 y, .int .i64 z] 25)) lt9) ((Below.refl _ _).alloc (Nat.le_refl _) (.cells #[.int .i64 x, .int .i64 y, .int .i64 z] 25)) (by simp; omega))
      have kb := (K9.out.new 25 #[.int .i64 (x + 1), .int .i64 y, .int .i64 z])
      have e0 := kb.cell (List.mem_cons_of_mem _ (List.mem_cons_self ..)) 0
      have e1 := kb.cell (List.mem_cons_of_mem _ (List.mem_cons_self ..)) 1
      have e2 := kb.cell (List.mem_cons_of_mem _ (List.mem_cons_self ..)) 2
      simp only [List.getElem?_toArray, List.getElem?_cons_zero, List.getElem?_cons_succ] at e0 e1 e2
      clear kb
      go_wp2_with fail
      have l9 : g < w9.heap.size := lt9
      have l89 : w8.heap.size < w9.heap.size := K9.out.lt (List.mem_cons_self ..)
      have l8 : g < w8.heap.size := lt8
      clear e0 e1 e2 c0 c1 c2 lt9 lt8
      generalize (w9.alloc (.cells #[.int .i64 (x + 1), .int .i64 y, .int .i64 z] 25)).alloc (.cells #[.int .i64 x, .int .i64 y, .int .i64 z] 25) = wa at KA DA ⊢
      have ne : ∀ p ∈ ([(w9.heap.size + 1, 25, #[.int .i64 x, .int .i64 y, .int .i64 z]), (w9.heap.size, 25, #[.int .i64 (x + 1), .int .i64 y, .int .i64 z]), (w8.heap.size, 25, #[.int .i64 x, .int .i64 y, .int .i64 z])] : List Box), p.1 ≠ g := by
        intro p hp
        simp only [List.mem_cons, List.not_mem_nil, or_false] at hp
        rcases hp with rfl | rfl | rfl <;> simp <;> omega
      have NE := Lib.hid ne
      clear ne
      have c1 := KA.out.three.2.1
      have g1 := KA.out.frozen (List.mem_cons_self ..) 1
      have hy : IntKind.i64.wrap (y + 1) = y + 1 := IntWalk.i64_in _ (by omega)
      go_region_with (go_at_call 14; refine (throw_calls g A l cap 50 _ HN.out ?_ H8.out (by omega)).mono ?_; exact DA.out.drew; rintro e wb ⟨r, rfl, ⟨r0, r1⟩, gb, db⟩; have kb := KA.out.drew.grown gb s3 NE.out; have d1 := kb.three.2.1; have h1 := kb.frozen (List.mem_cons_self ..) 1; have hr : IntKind.i64.wrap (y + 1 + r) = y + 1 + r := IntWalk.i64_in _ (by omega); have KB := Lib.hid kb; have DB := Lib.hid db; clear gb db kb)
      all_goals
        have kc := KB.out.set (fun p hp => by simp only [List.mem_cons, List.not_mem_nil, or_false] at hp; rcases hp with rfl | rfl <;> simp <;> omega) 1 (.int .i64 (y + 1 + r))
        simp only [List.setIfInBounds_toArray, List.set_cons_succ, List.set_cons_zero] at kc
        have KC := Lib.hid kc
        have DC := Lib.hid (DB.out.set (show g < w9.heap.size + 1 by omega) 1 (.int .i64 (y + 1 + r)))
        clear kc KA DA KB DB hy hr c1 g1 d1 h1 NE
        generalize wb.setCell ⟨w9.heap.size + 1, 1, none⟩ (.int .i64 (y + 1 + r)) = wc at KC DC ⊢
        have e0 := KC.out.cell (p := w8.heap.size) (t := 25) (cs := #[.int .i64 x, .int .i64 y, .int .i64 z]) (by simp) 0
        have e1 := KC.out.cell (p := w8.heap.size) (t := 25) (cs := #[.int .i64 x, .int .i64 y, .int .i64 z]) (by simp) 1
        have e2 := KC.out.cell (p := w8.heap.size) (t := 25) (cs := #[.int .i64 x, .int .i64 y, .int .i64 z]) (by simp) 2
        simp only [List.getElem?_toArray, List.getElem?_cons_zero, List.getElem?_cons_succ] at e0 e1 e2
        have KD := Lib.hid (KC.out.new 25 #[.int .i64 x, .int .i64 y, .int .i64 z])
        have lc : g < wc.heap.size := DC.out.lt
        have lc9 : w9.heap.size + 1 < wc.heap.size := KC.out.lt (List.mem_cons_self ..)
        have DD := Lib.hid (DC.out.below ((Below.refl wc.heap.size wc).alloc (Nat.le_refl _) (.cells #[.int .i64 x, .int .i64 y, .int .i64 z] 25)) lc)
        have E2 : (tag != tagOf (1 + q) x (y + 1 + r) z) = true := by simpa using F2.out r r0 (by omega)
        have C2' := Lib.hid (C2.out r r0 (by omega))
        generalize tagOf (1 + q) x (y + 1 + r) z = tag2 at E2 C2'
        clear F2 C2
        go_wp2_with fail
        generalize wc.alloc (.cells #[.int .i64 x, .int .i64 y, .int .i64 z] 25) = wd at KD DD ⊢
        clear e0 e1 e2 KC DC
        have NE := Lib.hid (show ∀ p ∈ ([(wc.heap.size, 25, #[.int .i64 x, .int .i64 y, .int .i64 z]), (w9.heap.size + 1, 25, #[.int .i64 x, .int .i64 (y + 1 + r), .int .i64 z]), (w9.heap.size, 25, #[.int .i64 (x + 1), .int .i64 y, .int .i64 z]), (w8.heap.size, 25, #[.int .i64 x, .int .i64 y, .int .i64 z])] : List Box), p.1 ≠ g from by
          intro p hp
          simp only [List.mem_cons, List.not_mem_nil, or_false] at hp
          rcases hp with rfl | rfl | rfl | rfl <;> simp <;> omega)
        have c2 := KD.out.three.2.2
        have g2 := KD.out.frozen (List.mem_cons_self ..) 2
        have hz : IntKind.i64.wrap (z + 1) = z + 1 := IntWalk.i64_in _ (by omega)
        go_region_with (go_at_call 14; refine (throw_calls g A l cap 50 _ HN.out ?_ H8.out (by omega)).mono ?_; exact DD.out.drew; rintro e we ⟨s, rfl, ⟨s0, s1⟩, ge, de⟩; have ke := KD.out.drew.grown ge s3 NE.out; have d2 := ke.three.2.2; have h2 := ke.frozen (List.mem_cons_self ..) 2; have hs : IntKind.i64.wrap (z + 1 + s) = z + 1 + s := IntWalk.i64_in _ (by omega); have KE := Lib.hid ke; clear ge de ke)
        all_goals
          have kf := KE.out.set (fun p hp => by simp only [List.mem_cons, List.not_mem_nil, or_false] at hp; rcases hp with rfl | rfl | rfl <;> simp <;> omega) 2 (.int .i64 (z + 1 + s))
          simp only [List.setIfInBounds_toArray, List.set_cons_succ, List.set_cons_zero] at kf
          have KF := Lib.hid kf
          clear kf KD DD KE hz hs c2 g2 d2 h2 NE
          generalize we.setCell ⟨wc.heap.size, 2, none⟩ (.int .i64 (z + 1 + s)) = wf at KF ⊢
          have E3 : (tag != tagOf (1 + q) x y (z + 1 + s)) = true := by simpa using F3.out s s0 (by omega)
          have C3' := Lib.hid (C3.out s s0 (by omega))
          generalize tagOf (1 + q) x y (z + 1 + s) = tag3 at E3 C3'
          clear F3 C3
          have a0 := KF.out.cell (p := w9.heap.size) (t := 25) (cs := #[.int .i64 (x + 1), .int .i64 y, .int .i64 z]) (by simp) 0
          have a1 := KF.out.cell (p := w9.heap.size) (t := 25) (cs := #[.int .i64 (x + 1), .int .i64 y, .int .i64 z]) (by simp) 1
          have a2 := KF.out.cell (p := w9.heap.size) (t := 25) (cs := #[.int .i64 (x + 1), .int .i64 y, .int .i64 z]) (by simp) 2
          simp only [List.getElem?_toArray, List.getElem?_cons_zero, List.getElem?_cons_succ] at a0 a1 a2
          go_wp2_with fail
          refine (C1.out _).mono ?_; rintro e wg ⟨rfl, bg⟩
          have KG := Lib.hid (KF.out.below bg)
          clear bg a0 a1 a2 KF
          have a0 := KG.out.cell (p := w9.heap.size + 1) (t := 25) (cs := #[.int .i64 x, .int .i64 (y + 1 + r), .int .i64 z]) (by simp) 0
          have a1 := KG.out.cell (p := w9.heap.size + 1) (t := 25) (cs := #[.int .i64 x, .int .i64 (y + 1 + r), .int .i64 z]) (by simp) 1
          have a2 := KG.out.cell (p := w9.heap.size + 1) (t := 25) (cs := #[.int .i64 x, .int .i64 (y + 1 + r), .int .i64 z]) (by simp) 2
          simp only [List.getElem?_toArray, List.getElem?_cons_zero, List.getElem?_cons_succ] at a0 a1 a2
          go_wp2_with fail
          refine (C2'.out _).mono ?_; rintro e wh ⟨rfl, bh⟩
          have KH := Lib.hid (KG.out.below bh)
          clear bh a0 a1 a2 KG
          obtain ⟨a0, a1, a2⟩ := KH.out.three
          go_wp2_with fail
          refine (C3'.out _).mono ?_; rintro e wi ⟨rfl, bi⟩
          have KI := Lib.hid (KH.out.below bi)
          clear bi a0 a1 a2 KH
          go_wp2_with fail
          go_ret
          exact ⟨rfl, KI.out.1⟩
end Go.Proofs.Ythkkdgfgcidpoaa.Mx

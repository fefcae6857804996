import Derived.Test.YteopplldbcgjjaaGreatDoorH32
import Derived.Test.YteopplldbcgjjaaGreatDoorH05
import Derived.Test.YteopplldbcgjjaaGreatDoorH02
import Derived.Test.YteopplldbcgjjaaGreatDoorH04
import Derived.Test.YteopplldbcgjjaaGreatDoorH01
namespace Go.Proofs.YteopplldbcgjjaaGreatDoor.Mx
open Go.ChangeShapes Go.WideShapes Go.ChangeAt Go.RowKit
set_option linter.unusedVariables false
open Go.Lib (hid)
set_option maxHeartbeats 64000000
theorem isEpoch_yes (e_ : Int) (w : World) (h : 0 ≤ e_ ∧ e_ ≤ 1000) : Calls Tryz.prog 91 #[.int .i64 e_] w fun e w' => e = .returned (.bool true) ∧ w = w' := by
 obtain ⟨h0, h1⟩ := h
 go_enter Tryz.func91, Tryz.ntmps91
 go_wp2_with fail
 go_ret
 exact ⟨rfl, rfl⟩
theorem isEpoch_no (e_ : Int) (w : World) (h : ¬ (0 ≤ e_ ∧ e_ ≤ 1000)) : Calls Tryz.prog 91 #[.int .i64 e_] w fun e w' => e = .returned (.bool false) ∧ w = w' := by
 by_cases h0 : 0 ≤ e_
 ·have h1 : ¬ e_ ≤ 1000 := by omega
  have hd : decide (e_ ≤ 1000) = false := decide_eq_false h1
  clear h
  go_enter Tryz.func91, Tryz.ntmps91
  go_wp2_with fail
  go_ret
  exact ⟨rfl, rfl⟩
 ·have hd : decide (0 ≤ e_) = false := decide_eq_false h0
  clear h
  go_enter Tryz.func91, Tryz.ntmps91
  go_wp2_with fail
  go_ret
  exact ⟨rfl, rfl⟩
theorem isSumP_yes (s : Int) (w : World) (h : isSumP s) : Calls Tryz.prog 123 #[.int .i64 s] w fun e w' => e = .returned (.bool true) ∧ w = w' := isSum_yes s w h.1 h.2
theorem isSumP_no (s : Int) (w : World) (h : ¬ isSumP s) : Calls Tryz.prog 123 #[.int .i64 s] w fun e w' => e = .returned (.bool false) ∧ w = w' := isSum_no s w (by unfold isSumP at h; omega)
def sumsP (t2 t3 t4 t5 t6 : Int) : Prop := (t2 = 0 → t5 = 0 ∧ t6 = 0) ∧ isSumP t3 ∧ isSumP t4 ∧ isSumP t5 ∧ isSumP t6
instance (t2 t3 t4 t5 t6 : Int) : Decidable (sumsP t2 t3 t4 t5 t6) := inferInstanceAs (Decidable (_ ∧ _))
set_option maxRecDepth 20000 in
theorem sumsOk_calls (p : Nat) (t0 t1 t2 t3 t4 t5 t6 : Int) (t7 : Bool) (w : World) (hp : CellsAt w p 28 (tA t0 t1 t2 t3 t4 t5 t6 t7)) :
    Calls Tryz.prog 92 #[.pointer (some ⟨p, 0, none⟩)] w fun e w' => e = .returned (.bool (decide (sumsP t2 t3 t4 t5 t6))) ∧ w = w' := by
 have kc : ∀ i, w.cell? ⟨p, i, none⟩ = (tA t0 t1 t2 t3 t4 t5 t6 t7)[i]? := hp.cell
 clear hp
 by_cases h2 : t2 = 0
 ·subst h2
  by_cases h5 : t5 = 0
  ·subst h5
   by_cases h6 : t6 = 0
   ·subst h6
    have s5 := hid (show isSumP 0 by decide)
    have s6 := hid (show isSumP 0 by decide)
    have C5 := hid (fun w => isSumP_yes 0 w (by decide))
    by_cases s3_ : isSumP t3
    ·have s3 := hid s3_; have C3 := hid (fun w => isSumP_yes t3 w s3_); clear s3_
     by_cases s4_ : isSumP t4
     ·have s4 := hid s4_; have C4 := hid (fun w => isSumP_yes t4 w s4_); clear s4_
      rw [decide_eq_true (show sumsP _ _ _ _ _ from ⟨fun _ => ⟨rfl, rfl⟩, s3.out, s4.out, s5.out, s6.out⟩)]
      go_enter Tryz.func92, Tryz.ntmps92
      go_wp2_with fail
      refine (C3.out _).mono ?_; rintro e w' ⟨rfl, rfl⟩
      go_wp2_with fail
      refine (C4.out _).mono ?_; rintro e w' ⟨rfl, rfl⟩
      go_wp2_with fail
      refine (C5.out _).mono ?_; rintro e w' ⟨rfl, rfl⟩
      go_wp2_with fail
      refine (C5.out _).mono ?_; rintro e w' ⟨rfl, rfl⟩
      go_wp2_with fail
      go_ret
      exact ⟨rfl, rfl⟩
     ·have s4 := hid s4_; have C4 := hid (fun w => isSumP_no t4 w s4_); clear s4_
      rw [decide_eq_false (show ¬ sumsP _ _ _ _ _ from fun h => s4.out h.2.2.1)]
      go_enter Tryz.func92, Tryz.ntmps92
      go_wp2_with fail
      refine (C3.out _).mono ?_; rintro e w' ⟨rfl, rfl⟩
      go_wp2_with fail
      refine (C4.out _).mono ?_; rintro e w' ⟨rfl, rfl⟩
      go_wp2_with fail
      go_ret
      exact ⟨rfl, rfl⟩
    ·have s3 := hid s3_; have C3 := hid (fun w => isSumP_no t3 w s3_); clear s3_
     rw [decide_eq_false (show ¬ sumsP _ _ _ _ _ from fun h => s3.out h.2.1)]
     go_enter Tryz.func92, Tryz.ntmps92
     go_wp2_with fail
     refine (C3.out _).mono ?_; rintro e w' ⟨rfl, rfl⟩
     go_wp2_with fail
     go_ret
     exact ⟨rfl, rfl⟩
   ·have n6 : (t6 != 0) = true := by simpa using h6
    have N6 := hid h6
    clear h6
    rw [decide_eq_false (show ¬ sumsP _ _ _ _ _ from fun h => N6.out (h.1 rfl).2)]
    go_enter Tryz.func92, Tryz.ntmps92
    go_wp2_with fail
    go_ret
    exact ⟨rfl, rfl⟩
  ·have n5 : (t5 != 0) = true := by simpa using h5
   have N5 := hid h5
   clear h5
   rw [decide_eq_false (show ¬ sumsP _ _ _ _ _ from fun h => N5.out (h.1 rfl).1)]
   go_enter Tryz.func92, Tryz.ntmps92
   go_wp2_with fail
   go_ret
   exact ⟨rfl, rfl⟩
 ·have n2 : (t2 == 0) = false := by simpa using h2
  have N2 := hid h2
  clear h2
  by_cases s3_ : isSumP t3
  ·have s3 := hid s3_; have C3 := hid (fun w => isSumP_yes t3 w s3_); clear s3_
   by_cases s4_ : isSumP t4
   ·have s4 := hid s4_; have C4 := hid (fun w => isSumP_yes t4 w s4_); clear s4_
    by_cases s5_ : isSumP t5
    ·have s5 := hid s5_; have C5 := hid (fun w => isSumP_yes t5 w s5_); clear s5_
     by_cases s6_ : isSumP t6
     ·have s6 := hid s6_; have C6 := hid (fun w => isSumP_yes t6 w s6_); clear s6_
      rw [decide_eq_true (show sumsP _ _ _ _ _ from ⟨fun h => absurd h N2.out, s3.out, s4.out, s5.out, s6.out⟩)]
      go_enter Tryz.func92, Tryz.ntmps92
      go_wp2_with fail
      refine (C3.out _).mono ?_; rintro e w' ⟨rfl, rfl⟩
      go_wp2_with fail
      refine (C4.out _).mono ?_; rintro e w' ⟨rfl, rfl⟩
      go_wp2_with fail
      refine (C5.out _).mono ?_; rintro e w' ⟨rfl, rfl⟩
      go_wp2_with fail
      refine (C6.out _).mono ?_; rintro e w' ⟨rfl, rfl⟩
      go_wp2_with fail
      go_ret
      exact ⟨rfl, rfl⟩
     ·have s6 := hid s6_; have C6 := hid (fun w => isSumP_no t6 w s6_); clear s6_
      rw [decide_eq_false (show ¬ sumsP _ _ _ _ _ from fun h => s6.out h.2.2.2.2)]
      go_enter Tryz.func92, Tryz.ntmps92
      go_wp2_with fail
      refine (C3.out _).mono ?_; rintro e w' ⟨rfl, rfl⟩
      go_wp2_with fail
      refine (C4.out _).mono ?_; rintro e w' ⟨rfl, rfl⟩
      go_wp2_with fail
      refine (C5.out _).mono ?_; rintro e w' ⟨rfl, rfl⟩
      go_wp2_with fail
      refine (C6.out _).mono ?_; rintro e w' ⟨rfl, rfl⟩
      go_wp2_with fail
      go_ret
      exact ⟨rfl, rfl⟩
    ·have s5 := hid s5_; have C5 := hid (fun w => isSumP_no t5 w s5_); clear s5_
     rw [decide_eq_false (show ¬ sumsP _ _ _ _ _ from fun h => s5.out h.2.2.2.1)]
     go_enter Tryz.func92, Tryz.ntmps92
     go_wp2_with fail
     refine (C3.out _).mono ?_; rintro e w' ⟨rfl, rfl⟩
     go_wp2_with fail
     refine (C4.out _).mono ?_; rintro e w' ⟨rfl, rfl⟩
     go_wp2_with fail
     refine (C5.out _).mono ?_; rintro e w' ⟨rfl, rfl⟩
     go_wp2_with fail
     go_ret
     exact ⟨rfl, rfl⟩
   ·have s4 := hid s4_; have C4 := hid (fun w => isSumP_no t4 w s4_); clear s4_
    rw [decide_eq_false (show ¬ sumsP _ _ _ _ _ from fun h => s4.out h.2.2.1)]
    go_enter Tryz.func92, Tryz.ntmps92
    go_wp2_with fail
    refine (C3.out _).mono ?_; rintro e w' ⟨rfl, rfl⟩
    go_wp2_with fail
    refine (C4.out _).mono ?_; rintro e w' ⟨rfl, rfl⟩
    go_wp2_with fail
    go_ret
    exact ⟨rfl, rfl⟩
  ·have s3 := hid s3_; have C3 := hid (fun w => isSumP_no t3 w s3_); clear s3_
   rw [decide_eq_false (show ¬ sumsP _ _ _ _ _ from fun h => s3.out h.2.1)]
   go_enter Tryz.func92, Tryz.ntmps92
   go_wp2_with fail
   refine (C3.out _).mono ?_; rintro e w' ⟨rfl, rfl⟩
   go_wp2_with fail
   go_ret
   exact ⟨rfl, rfl⟩
def suitsP (n t0 t1 t2 t3 t4 t5 t6 : Int) : Prop := isTm t0 ∧ (0 ≤ t1 ∧ t1 ≤ 1000) ∧ 0 ≤ t2 ∧ t2 < n ∧ sumsP t2 t3 t4 t5 t6
instance (n t0 t1 t2 t3 t4 t5 t6 : Int) : Decidable (suitsP n t0 t1 t2 t3 t4 t5 t6) := inferInstanceAs (Decidable (_ ∧ _))
set_option maxRecDepth 20000 in
theorem suits_calls (p : Nat) (n t0 t1 t2 t3 t4 t5 t6 : Int) (t7 : Bool) (w : World) (hp : CellsAt w p 28 (tA t0 t1 t2 t3 t4 t5 t6 t7)) :
    Calls Tryz.prog 52 #[.pointer (some ⟨p, 0, none⟩), .int .i64 n] w fun e w' => e = .returned (.bool (decide (suitsP n t0 t1 t2 t3 t4 t5 t6))) ∧ w = w' := by
 have kc : ∀ i, w.cell? ⟨p, i, none⟩ = (tA t0 t1 t2 t3 t4 t5 t6 t7)[i]? := hp.cell
 by_cases h0 : isTm t0
 ·have H0 := hid h0; have CT := hid (fun w => isTime_yes t0 w h0); clear h0
  by_cases h1 : 0 ≤ t1 ∧ t1 ≤ 1000
  ·have H1 := hid h1; have CE := hid (fun w => isEpoch_yes t1 w h1); clear h1
   by_cases h2 : 0 ≤ t2
   ·by_cases h3 : t2 < n
    ·have hd0 : decide (0 ≤ t2) = true := decide_eq_true h2
     have hd1 : decide (t2 < n) = true := decide_eq_true h3
     have H2 := hid h2; have H3 := hid h3
     have CS := hid (fun u (h : CellsAt u p 28 (tA t0 t1 t2 t3 t4 t5 t6 t7)) => sumsOk_calls p t0 t1 t2 t3 t4 t5 t6 t7 u h)
     have HP := hid hp
     clear hp
     by_cases h4 : sumsP t2 t3 t4 t5 t6
     ·rw [decide_eq_true h4] at CS
      have H4 := hid h4
      clear h4
      rw [decide_eq_true (show suitsP _ _ _ _ _ _ _ _ from ⟨H0.out, H1.out, H2.out, H3.out, H4.out⟩)]
      go_enter Tryz.func52, Tryz.ntmps52
      go_wp2_with fail
      refine (CT.out _).mono ?_; rintro e w' ⟨rfl, rfl⟩
      go_wp2_with fail
      refine (CE.out _).mono ?_; rintro e w' ⟨rfl, rfl⟩
      go_wp2_with fail
      refine (CS.out _ HP.out).mono ?_; rintro e w' ⟨rfl, rfl⟩
      go_wp2_with fail
      go_ret
      exact ⟨rfl, rfl⟩
     ·rw [decide_eq_false h4] at CS
      have H4 := hid h4
      clear h4
      rw [decide_eq_false (show ¬ suitsP _ _ _ _ _ _ _ _ from fun h => H4.out h.2.2.2.2)]
      go_enter Tryz.func52, Tryz.ntmps52
      go_wp2_with fail
      refine (CT.out _).mono ?_; rintro e w' ⟨rfl, rfl⟩
      go_wp2_with fail
      refine (CE.out _).mono ?_; rintro e w' ⟨rfl, rfl⟩
      go_wp2_with fail
      refine (CS.out _ HP.out).mono ?_; rintro e w' ⟨rfl, rfl⟩
      go_wp2_with fail
      go_ret
      exact ⟨rfl, rfl⟩
    ·have hd0 : decide (0 ≤ t2) = true := decide_eq_true h2
     have hd1 : decide (t2 < n) = false := decide_eq_false h3
     have H3 := hid h3
     rw [decide_eq_false (show ¬ suitsP _ _ _ _ _ _ _ _ from fun h => H3.out h.2.2.2.1)]
     go_enter Tryz.func52, Tryz.ntmps52
     go_wp2_with fail
     refine (CT.out _).mono ?_; rintro e w' ⟨rfl, rfl⟩
     go_wp2_with fail
     refine (CE.out _).mono ?_; rintro e w' ⟨rfl, rfl⟩
     go_wp2_with fail
     go_ret
     exact ⟨rfl, rfl⟩
   ·have hd0 : decide (0 ≤ t2) = false := decide_eq_false h2
    have H3 := hid h2
    rw [decide_eq_false (show ¬ suitsP _ _ _ _ _ _ _ _ from fun h => H3.out h.2.2.1)]
    go_enter Tryz.func52, Tryz.ntmps52
    go_wp2_with fail
    refine (CT.out _).mono ?_; rintro e w' ⟨rfl, rfl⟩
    go_wp2_with fail
    refine (CE.out _).mono ?_; rintro e w' ⟨rfl, rfl⟩
    go_wp2_with fail
    go_ret
    exact ⟨rfl, rfl⟩
  ·have H1 := hid h1; have CE := hid (fun w => isEpoch_no t1 w h1); clear h1
   rw [decide_eq_false (show ¬ suitsP _ _ _ _ _ _ _ _ from fun h => H1.out h.2.1)]
   go_enter Tryz.func52, Tryz.ntmps52
   go_wp2_with fail
   refine (CT.out _).mono ?_; rintro e w' ⟨rfl, rfl⟩
   go_wp2_with fail
   refine (CE.out _).mono ?_; rintro e w' ⟨rfl, rfl⟩
   go_wp2_with fail
   go_ret
   exact ⟨rfl, rfl⟩
 ·have H0 := hid h0; have CT := hid (fun w => isTime_no t0 w h0); clear h0
  rw [decide_eq_false (show ¬ suitsP _ _ _ _ _ _ _ _ from fun h => H0.out h.1)]
  go_enter Tryz.func52, Tryz.ntmps52
  go_wp2_with fail
  refine (CT.out _).mono ?_; rintro e w' ⟨rfl, rfl⟩
  go_wp2_with fail
  go_ret
  exact ⟨rfl, rfl⟩
set_option maxRecDepth 20000 in
theorem implTrustOk_calls (key x : Int) (A : Option Addr) (l : List Int) (cap : Nat) (t0 t1 t2 t3 t4 t5 t6 : Int) (t7 : Bool) (w : World) (hn : l.length ≤ 1048576) (hcap : l.length ≤ cap) (hA : Ints w .i64 w.heap.size A l) :
    Calls Tryz.prog 12 #[.agg (pA key A l.length cap), .int .i64 x, .agg (tA t0 t1 t2 t3 t4 t5 t6 t7)] w fun e w' => e = .returned (.bool (trustB key l x ⟨t0, t1, t2, t3, t4, t5, t6, t7⟩)) ∧ Below w.heap.size w w' := by
 have hm : l.length ≤ maxLen := by unfold maxLen; omega
 have F0 := fun (u : World) (hb : Below w.heap.size w u) => firstOf_calls key x A l cap u hm hcap ((hA.below hb (Nat.le_refl _)).more hb.size)
 by_cases hf : 0 ≤ firstOf key l x
 ·have hpr : planOk key l ∧ 0 ≤ x ∧ x < l.length := by
    refine Classical.byContradiction fun h => ?_
    unfold firstOf at hf
    rw [if_neg h] at hf
    omega
  obtain ⟨r, rfl⟩ : ∃ r : Nat, x = r := ⟨x.toNat, by omega⟩
  have hr : r < l.length := by omega
  obtain ⟨bb, oo, rfl, hbb, hcc⟩ := hA r hr
  have K0 := hid (show Kept w [(w.heap.size + 1, 28, (tA t0 t1 t2 t3 t4 t5 t6 t7)), (w.heap.size, 26, (pA key (some ⟨bb, oo, none⟩) l.length cap))] _ from (((Kept.refl w).put1 _ _ (pA key (some ⟨bb, oo, none⟩) l.length cap) rfl).put1 _ _ (tA t0 t1 t2 t3 t4 t5 t6 t7) (by simp)))
  have hd : decide (0 ≤ firstOf key l (r : Int)) = true := decide_eq_true hf
  have hi1 : (r : Int) < l.length := by omega
  have hi0 : (0 : Int) ≤ r := by omega
  have HC := hid (fun (u : World) (hb : Below w.heap.size w u) => (hb.cell (p := ⟨bb, oo + r, none⟩) hbb).trans hcc)
  have ev : l.getD ((r : Int)).toNat 0 = l.getD r 0 := by rw [Int.toNat_natCast]
  have HT := hid (show trustB key l (r : Int) ⟨t0, t1, t2, t3, t4, t5, t6, t7⟩ = decide (suitsP (l.getD r 0) t0 t1 t2 t3 t4 t5 t6) from by
   unfold trustB
   congr 1
   unfold trustOk suitsP sumsP
   rw [ev]
   simp only [eq_iff_iff]
   constructor
   ·rintro ⟨_, _, a, b, ⟨c, d⟩, e, f⟩; exact ⟨a, b, c, by omega, e, f⟩
   ·rintro ⟨a, b, c, d, e, f⟩; exact ⟨hpr.1, hpr.2, a, b, ⟨c, by omega⟩, e, f⟩)
  have SC := hid (fun u (h : CellsAt u (w.heap.size + 1) 28 (tA t0 t1 t2 t3 t4 t5 t6 t7)) => suits_calls (w.heap.size + 1) (l.getD r 0) t0 t1 t2 t3 t4 t5 t6 t7 u h)
  have F := hid F0
  generalize firstOf key l (r : Int) = f at F hd
  generalize l.getD r 0 = v at HC SC HT
  generalize decide (suitsP v t0 t1 t2 t3 t4 t5 t6) = z at SC HT
  clear hf hpr hr hcc ev hA F0 hm
  go_enter Tryz.func12, Tryz.ntmps12
  go_wp2_with fail
  refine (F.out _ K0.out.1).mono ?_; rintro e u1 ⟨rfl, hb⟩
  have hk1 := K0.out.below hb
  have cc := HC.out _ hk1.1
  have kz := hk1.at_ (p := w.heap.size + 1) (t := 28) (cs := (tA t0 t1 t2 t3 t4 t5 t6 t7)) (by simp)
  have KZ := hid kz
  have BL := hid hk1.1
  obtain ⟨X0, Y0, X1, Y1, -⟩ := hk1.rd
  clear hb hk1 kz F K0
  go_wp2_with fail
  refine (SC.out _ KZ.out).mono ?_; rintro e u2 ⟨rfl, rfl⟩
  go_wp2_with fail
  go_ret
  exact ⟨by rw [HT.out]; rfl, BL.out⟩
 ·have K0 := hid (show Kept w [(w.heap.size + 1, 28, (tA t0 t1 t2 t3 t4 t5 t6 t7)), (w.heap.size, 26, (pA key A l.length cap))] _ from (((Kept.refl w).put1 _ _ (pA key A l.length cap) rfl).put1 _ _ (tA t0 t1 t2 t3 t4 t5 t6 t7) (by simp)))
  have hd : decide (0 ≤ firstOf key l x) = false := decide_eq_false hf
  have HT := hid (show trustB key l x ⟨t0, t1, t2, t3, t4, t5, t6, t7⟩ = false from trustB_no (fun h => hf (by
   have hp := h.1; have hx := h.2.1
   unfold firstOf
   rw [if_pos ⟨hp, hx⟩]
   exact (upTo_bd hp.2.2.1 (k := x.toNat) (by omega)).1)))
  have F := hid F0
  generalize firstOf key l x = f at F hd
  clear hf hA F0 hm
  go_enter Tryz.func12, Tryz.ntmps12
  go_wp2_with fail
  refine (F.out _ K0.out.1).mono ?_; rintro e u1 ⟨rfl, hb⟩
  have BL := hid (K0.out.below hb).1
  clear hb F K0
  go_wp2_with fail
  go_ret
  exact ⟨by rw [HT.out]; rfl, BL.out⟩
set_option maxRecDepth 20000 in
theorem implBehind_calls (key x : Int) (A : Option Addr) (l : List Int) (cap : Nat) (t0 t1 t2 t3 t4 t5 t6 : Int) (t7 : Bool) (w : World) (hn : l.length ≤ maxLen) (hcap : l.length ≤ cap) (hA : Ints w .i64 w.heap.size A l) (hx : I64 x) :
    Calls Tryz.prog 36 #[.agg (pA key A l.length cap), .agg (tA t0 t1 t2 t3 t4 t5 t6 t7), .int .i64 x] w fun e w' => e = .returned (.bool (behindB key l t2 x)) ∧ Below w.heap.size w w' := by
 have k0 := ((Kept.refl w).new 26 (pA key A l.length cap)).new 28 (tA t0 t1 t2 t3 t4 t5 t6 t7)
 rw [show (w.alloc (.cells (pA key A l.length cap) 26)).heap.size = w.heap.size + 1 by simp] at k0
 have R := hid (fun (u : World) (hb : Below w.heap.size w u) => regionOf_calls key x A l cap u hn hcap ((hA.below hb (Nat.le_refl _)).more hb.size) hx)
 have F := hid (fun (u : World) (r : Int) (hb : Below w.heap.size w u) => firstOf_calls key r A l cap u hn hcap ((hA.below hb (Nat.le_refl _)).more hb.size))
 have K0 := hid k0
 clear hA hn k0
 unfold behindB
 by_cases hr : 0 ≤ regionOf key l x
 ·obtain ⟨i, e, hi, hp, hx0, hu0, hu1⟩ := regionOf_up hr
  have hb := upTo_bd hp.2.2.1 (show i ≤ l.length by omega)
  rw [e] at R ⊢
  rw [firstOf_yes hp hi]
  have FI := hid (fun u hb => F.out u i hb)
  rw [firstOf_yes hp hi] at FI
  have hx1 := hx.2
  have hi0 : (0 : Int) ≤ i := by omega
  have hwr : IntKind.i64.wrap (x - upTo l i) = x - upTo l i := IntWalk.i64_in _ (by omega)
  rw [decide_eq_true hi0, Bool.true_and]
  generalize upTo l i = f at FI hwr
  clear hr e hp hu0 hu1 hb F hx hx0 hx1
  go_enter Tryz.func36, Tryz.ntmps36
  go_wp2_with fail
  refine (R.out _ K0.out.1).mono ?_; rintro e w1 ⟨rfl, b1⟩
  have k1 := (K0.out.below b1).drew
  have P1 := hid (fun (u : World) (h : Kept w [(w.heap.size + 1, 28, (tA t0 t1 t2 t3 t4 t5 t6 t7)), (w.heap.size, 26, (pA key A l.length cap))] u) => (FI.out u h.1).mono (fun e w' ⟨he, hb⟩ => (⟨he, h.below hb⟩ : _ ∧ Kept w [(w.heap.size + 1, 28, (tA t0 t1 t2 t3 t4 t5 t6 t7)), (w.heap.size, 26, (pA key A l.length cap))] w')))
  clear b1 R FI K0
  go_upto_region 2 with fail
  refine wp_region_class (C := fun u => Kept w [(w.heap.size + 1, 28, (tA t0 t1 t2 t3 t4 t5 t6 t7)), (w.heap.size, 26, (pA key A l.length cap))] u) (by kernel_rfl) (by kernel_rfl) k1 ?_
  iterate 13 (first
   | go_big_quiet_skip
   | (go_big_quiet_want
      go_big_quiet_op
      first
       | go_big_quiet_on
       | (apply Exists.intro
          refine ⟨fun u hu => ?_, ?_⟩
          ·first
             | with_reducible rfl
             | (go_at_call 51; exact P1.out u hu)
             | (have e0 := hu.cell (p := w.heap.size) (t := 26) (cs := (pA key A l.length cap)) (by simp) 0; have e1 := hu.cell (p := w.heap.size) (t := 26) (cs := (pA key A l.length cap)) (by simp) 1; have e2 := hu.cell (p := w.heap.size + 1) (t := 28) (cs := (tA t0 t1 t2 t3 t4 t5 t6 t7)) (by simp) 2; simp only [List.getElem?_toArray, List.getElem?_cons_zero, List.getElem?_cons_succ] at e0 e1 e2; go_simp; first | done | with_reducible rfl)
          go_big_quiet_on)))
  refine wpQuiet_nil ?_
  intro wz hz
  go_wp2_with fail
  go_ret
  exact ⟨rfl, hz.1⟩
 ·have hr' : regionOf key l x < 0 := by omega
  have hr2 : (regionOf key l x : Int) ≤ -1 := by omega
  have hd : decide (0 ≤ regionOf key l x) = false := decide_eq_false hr
  rw [hd, Bool.false_and]
  generalize regionOf key l x = r at R hd hr'
  clear hr hr2 hr' F
  go_enter Tryz.func36, Tryz.ntmps36
  go_wp2_with fail
  refine (R.out _ K0.out.1).mono ?_; rintro e w1 ⟨rfl, b1⟩
  have k1 := (K0.out.below b1).drew
  clear b1 R K0
  go_upto_region 2 with fail
  refine wp_region_class (C := fun u => Kept w [(w.heap.size + 1, 28, (tA t0 t1 t2 t3 t4 t5 t6 t7)), (w.heap.size, 26, (pA key A l.length cap))] u) (by kernel_rfl) (by kernel_rfl) k1 ?_
  iterate 13 (first
   | go_big_quiet_skip
   | (go_big_quiet_want
      go_big_quiet_op
      first
       | go_big_quiet_on
       | (apply Exists.intro
          refine ⟨fun u hu => ?_, ?_⟩
          ·first
             | with_reducible rfl
             | (have e0 := hu.cell (p := w.heap.size) (t := 26) (cs := (pA key A l.length cap)) (by simp) 0; have e1 := hu.cell (p := w.heap.size) (t := 26) (cs := (pA key A l.length cap)) (by simp) 1; have e2 := hu.cell (p := w.heap.size + 1) (t := 28) (cs := (tA t0 t1 t2 t3 t4 t5 t6 t7)) (by simp) 2; simp only [List.getElem?_toArray, List.getElem?_cons_zero, List.getElem?_cons_succ] at e0 e1 e2; go_simp; first | done | with_reducible rfl)
          go_big_quiet_on)))
  refine wpQuiet_nil ?_
  intro wz hz
  go_wp2_with fail
  go_ret
  exact ⟨rfl, hz.1⟩
def AnsCellOk : Prop := ∀ (t v : Int) (w : World), I64 t → I64 v → Calls Tryz.prog 68 #[.agg (cA t v)] w fun e w' => e = .returned (.bool (decide (isCell t v))) ∧ Below w.heap.size w w'
def AnsCellOf : Prop := ∀ (key a t v : Int) (w : World), I64 key → I64 a → I64 t → I64 v → Calls Tryz.prog 74 #[.int .i64 key, .int .i64 a, .int .i64 t, .int .i64 v] w fun e w' => e = .returned (.agg (cA ((cellOf key a t v).1) ((cellOf key a t v).2))) ∧ Below w.heap.size w w'
def AnsValueIn : Prop := ∀ (key a t v : Int) (w : World), I64 key → I64 a → I64 t → I64 v → Calls Tryz.prog 11 #[.int .i64 key, .int .i64 a, .agg (cA t v)] w fun e w' => e = .returned (.int .i64 (valueIn key a t v)) ∧ Below w.heap.size w w'
def AnsTripleIn : Prop := ∀ (a t v : Int) (w : World), I64 a → I64 t → I64 v → Calls Tryz.prog 115 #[.int .i64 a, .agg (cA t v)] w fun e w' => e = .returned (.agg #[.int .i64 (tripleIn a t v).1, .int .i64 (tripleIn a t v).2.1, .int .i64 (tripleIn a t v).2.2]) ∧ Below w.heap.size w w'
theorem number_calls (m : Int) (w : World) : Calls Tryz.prog 86 #[.int .i64 m] w fun e w' => e = .returned (.int .i64 m) ∧ w = w' := by
 go_enter Tryz.func86, Tryz.ntmps86
 go_wp2_with fail
 go_ret
 exact ⟨rfl, rfl⟩
theorem inTime_yes (m : Int) (w : World) (h : isTm m) : Calls Tryz.prog 118 #[.int .i64 m] w fun e w' => e = .returned (.bool true) ∧ w = w' := by
 have C := hid (fun w => number_calls m w)
 have D := hid (fun w => isTime_yes m w h)
 clear h
 go_enter Tryz.func118, Tryz.ntmps118
 go_wp2_with fail
 refine (C.out _).mono ?_; rintro e w' ⟨rfl, rfl⟩
 go_wp2_with fail
 refine (D.out _).mono ?_; rintro e w' ⟨rfl, rfl⟩
 go_wp2_with fail
 go_ret
 exact ⟨rfl, rfl⟩
theorem inTime_no (m : Int) (w : World) (h : ¬ isTm m) : Calls Tryz.prog 118 #[.int .i64 m] w fun e w' => e = .returned (.bool false) ∧ w = w' := by
 have C := hid (fun w => number_calls m w)
 have D := hid (fun w => isTime_no m w h)
 clear h
 go_enter Tryz.func118, Tryz.ntmps118
 go_wp2_with fail
 refine (C.out _).mono ?_; rintro e w' ⟨rfl, rfl⟩
 go_wp2_with fail
 refine (D.out _).mono ?_; rintro e w' ⟨rfl, rfl⟩
 go_wp2_with fail
 go_ret
 exact ⟨rfl, rfl⟩
theorem isRight_calls (t v : Int) (w : World) :
    Calls Tryz.prog 85 #[.agg (cA t v)] w fun e w' => e = .returned (.bool (decide (isCell t v))) ∧ Below w.heap.size w w' := by
 by_cases ht : isTm t
 ·have D := hid (fun w => inTime_yes t w ht)
  by_cases hv : isVal v
  ·have E := hid (fun w => isValue_yes v w hv)
   rw [decide_eq_true (show isCell t v from ⟨ht, hv⟩)]
   clear ht hv
   go_enter Tryz.func85, Tryz.ntmps85
   go_wp2_with fail
   refine (D.out _).mono ?_; rintro e w' ⟨rfl, rfl⟩
   go_wp2_with fail
   refine (E.out _).mono ?_; rintro e w' ⟨rfl, rfl⟩
   go_wp2_with fail
   go_ret
   exact ⟨rfl, (Below.refl _ _).alloc (Nat.le_refl _) _⟩
  ·have E := hid (fun w => isValue_no v w hv)
   rw [decide_eq_false (show ¬ isCell t v from fun h => hv h.2)]
   clear ht hv
   go_enter Tryz.func85, Tryz.ntmps85
   go_wp2_with fail
   refine (D.out _).mono ?_; rintro e w' ⟨rfl, rfl⟩
   go_wp2_with fail
   refine (E.out _).mono ?_; rintro e w' ⟨rfl, rfl⟩
   go_wp2_with fail
   go_ret
   exact ⟨rfl, (Below.refl _ _).alloc (Nat.le_refl _) _⟩
 ·have D := hid (fun w => inTime_no t w ht)
  rw [decide_eq_false (show ¬ isCell t v from fun h => ht h.1)]
  clear ht
  go_enter Tryz.func85, Tryz.ntmps85
  go_wp2_with fail
  refine (D.out _).mono ?_; rintro e w' ⟨rfl, rfl⟩
  go_wp2_with fail
  go_ret
  exact ⟨rfl, (Below.refl _ _).alloc (Nat.le_refl _) _⟩
theorem timedOf_calls (t v : Int) (w : World) :
    Calls Tryz.prog 48 #[.agg (cA t v)] w fun e w' => e = .returned (.agg (cA t v)) ∧ Below w.heap.size w w' := by
 go_enter Tryz.func48, Tryz.ntmps48
 go_wp2_with fail
 exact bodyPost_ret (v := .agg (cA t v)) (by simp [results, Tryz.results48, go_sem]) rfl ⟨rfl, ((Below.refl _ _).alloc (Nat.le_refl _) _).alloc (by simp) _⟩
theorem ansCellOk : AnsCellOk := by
 intro t v w _ _
 have C := hid (fun w => timedOf_calls t v w)
 have D := hid (fun w => isRight_calls t v w)
 generalize decide (isCell t v) = b at D
 go_enter Tryz.func68, Tryz.ntmps68
 go_wp2_with fail
 refine (C.out _).mono ?_; rintro e w1 ⟨rfl, b1⟩
 have B1 := hid (((Below.refl w.heap.size w).alloc (Nat.le_refl _) _).trans (b1.mono (by simp)))
 clear b1
 go_wp2_with fail
 refine (D.out _).mono ?_; rintro e w2 ⟨rfl, b2⟩
 have B2 := hid (B1.out.trans (b2.mono B1.out.size))
 clear b2
 go_wp2_with fail
 go_ret
 exact ⟨rfl, B2.out⟩
theorem way_no (key a t v : Int) (f : Value) (w : World) (h : ¬ (isAt a ∧ isCell t v)) :
    Calls Tryz.prog 49 #[.agg (cA t v), f, .int .i64 key, .int .i64 a] w fun e w' => e = .returned (.int .i64 (-1)) ∧ Below w.heap.size w w' := by
 by_cases ha : isAt a
 ·have C := hid (fun w => isPlace_yes a w ha)
  have D := hid (fun w => isRight_calls t v w)
  rw [decide_eq_false (show ¬ isCell t v from fun h' => h ⟨ha, h'⟩)] at D
  clear ha h
  go_enter Tryz.func49, Tryz.ntmps49
  go_wp2_with fail
  refine (C.out _).mono ?_; rintro e w' ⟨rfl, rfl⟩
  go_wp2_with fail
  refine (D.out _).mono ?_; rintro e w2 ⟨rfl, b2⟩
  have B2 := hid (((Below.refl w.heap.size w).alloc (Nat.le_refl _) _).trans (b2.mono (by simp)))
  clear b2
  go_wp2_with fail
  go_ret
  exact ⟨rfl, B2.out⟩
 ·have C := hid (fun w => isPlace_no a w ha)
  clear ha h
  go_enter Tryz.func49, Tryz.ntmps49
  go_wp2_with fail
  refine (C.out _).mono ?_; rintro e w' ⟨rfl, rfl⟩
  go_wp2_with fail
  go_ret
  exact ⟨rfl, (Below.refl _ _).alloc (Nat.le_refl _) _⟩
set_option maxRecDepth 20000 in
theorem way_yesH (key a t v z : Int) (w : World) (ha : isAt a) (hc : isCell t v)
    (H : ∀ w, Calls Tryz.prog 116 #[.int .i64 key, .int .i64 a, .int .i64 t, .int .i64 v] w fun e w' => e = .returned (.int .i64 z) ∧ Below w.heap.size w w') :
    Calls Tryz.prog 49 #[.agg (cA t v), .func (.func 116) #[] #[], .int .i64 key, .int .i64 a] w fun e w' => e = .returned (.int .i64 z) ∧ Below w.heap.size w w' := by
 have C := hid (fun w => isPlace_yes a w ha)
 have D := hid (fun w => isRight_calls t v w)
 rw [decide_eq_true hc] at D
 have N := hid (fun w => number_calls t w)
 have K := hid ((Kept.refl w).new 89 (cA t v))
 have G := hid H
 clear ha hc H
 go_enter Tryz.func49, Tryz.ntmps49
 go_wp2_with fail
 refine (C.out _).mono ?_; rintro e w' ⟨rfl, rfl⟩
 go_wp2_with fail
 refine (D.out _).mono ?_; rintro e w1 ⟨rfl, b1⟩
 have k1 := K.out.below b1
 clear b1
 go_wp2_with fail
 have P1 : ∀ u, Kept w [(w.heap.size, 89, (cA t v))] u → Calls Tryz.prog 116 #[.int .i64 key, .int .i64 a, .int .i64 t, .int .i64 v] u fun e w' => e = .returned (.int .i64 z) ∧ Kept w [(w.heap.size, 89, (cA t v))] w' :=
  fun u hu => (G.out u).mono fun e w' h => ⟨h.1, hu.below h.2⟩
 have P2 : ∀ u, Kept w [(w.heap.size, 89, (cA t v))] u → Calls Tryz.prog 86 #[.int .i64 t] u fun e w' => e = .returned (.int .i64 t) ∧ Kept w [(w.heap.size, 89, (cA t v))] w' :=
  fun u hu => class_same hu (N.out u)
 have PP1 := hid P1
 have PP2 := hid P2
 clear P1 P2
 refine wp_region_class (C := fun u => Kept w [(w.heap.size, 89, (cA t v))] u) (by kernel_rfl) (by kernel_rfl) k1.drew ?_
 clear k1
 iterate 10
  (first
   | go_big_quiet_skip
   | (go_big_quiet_want
      go_big_quiet_op
      first
       | go_big_quiet_on
       | (apply Exists.intro
          refine ⟨fun u hu => ?_, ?_⟩
          ·first
             | with_reducible rfl
             | (go_at_call 86; exact PP2.out u hu)
             | (go_at_call 116; exact PP1.out u hu)
             | (have c0 := hu.cell (List.mem_cons_self ..) 0; have c1 := hu.cell (List.mem_cons_self ..) 1; simp only [List.getElem?_toArray, List.getElem?_cons_zero, List.getElem?_cons_succ] at c0 c1; go_simp; first | done | with_reducible rfl)
          go_big_quiet_on)))
 refine wpQuiet_nil ?_; intro wz hz
 go_wp2_with fail
 go_ret
 exact ⟨rfl, hz.1⟩
set_option maxRecDepth 20000 in
theorem way_yesS (key a t v z : Int) (w : World) (ha : isAt a) (hc : isCell t v)
    (H : ∀ w, Calls Tryz.prog 50 #[.int .i64 key, .int .i64 a, .int .i64 t, .int .i64 v] w fun e w' => e = .returned (.int .i64 z) ∧ Below w.heap.size w w') :
    Calls Tryz.prog 49 #[.agg (cA t v), .func (.func 50) #[] #[], .int .i64 key, .int .i64 a] w fun e w' => e = .returned (.int .i64 z) ∧ Below w.heap.size w w' := by
 have C := hid (fun w => isPlace_yes a w ha)
 have D := hid (fun w => isRight_calls t v w)
 rw [decide_eq_true hc] at D
 have N := hid (fun w => number_calls t w)
 have K := hid ((Kept.refl w).new 89 (cA t v))
 have G := hid H
 clear ha hc H
 go_enter Tryz.func49, Tryz.ntmps49
 go_wp2_with fail
 refine (C.out _).mono ?_; rintro e w' ⟨rfl, rfl⟩
 go_wp2_with fail
 refine (D.out _).mono ?_; rintro e w1 ⟨rfl, b1⟩
 have k1 := K.out.below b1
 clear b1
 go_wp2_with fail
 have P1 : ∀ u, Kept w [(w.heap.size, 89, (cA t v))] u → Calls Tryz.prog 50 #[.int .i64 key, .int .i64 a, .int .i64 t, .int .i64 v] u fun e w' => e = .returned (.int .i64 z) ∧ Kept w [(w.heap.size, 89, (cA t v))] w' :=
  fun u hu => (G.out u).mono fun e w' h => ⟨h.1, hu.below h.2⟩
 have P2 : ∀ u, Kept w [(w.heap.size, 89, (cA t v))] u → Calls Tryz.prog 86 #[.int .i64 t] u fun e w' => e = .returned (.int .i64 t) ∧ Kept w [(w.heap.size, 89, (cA t v))] w' :=
  fun u hu => class_same hu (N.out u)
 have PP1 := hid P1
 have PP2 := hid P2
 clear P1 P2
 refine wp_region_class (C := fun u => Kept w [(w.heap.size, 89, (cA t v))] u) (by kernel_rfl) (by kernel_rfl) k1.drew ?_
 clear k1
 iterate 10
  (first
   | go_big_quiet_skip
   | (go_big_quiet_want
      go_big_quiet_op
      first
       | go_big_quiet_on
       | (apply Exists.intro
          refine ⟨fun u hu => ?_, ?_⟩
          ·first
             | with_reducible rfl
             | (go_at_call 86; exact PP2.out u hu)
             | (go_at_call 50; exact PP1.out u hu)
             | (have c0 := hu.cell (List.mem_cons_self ..) 0; have c1 := hu.cell (List.mem_cons_self ..) 1; simp only [List.getElem?_toArray, List.getElem?_cons_zero, List.getElem?_cons_succ] at c0 c1; go_simp; first | done | with_reducible rfl)
          go_big_quiet_on)))
 refine wpQuiet_nil ?_; intro wz hz
 go_wp2_with fail
 go_ret
 exact ⟨rfl, hz.1⟩
theorem shownOf_nokey {key a t v : Int} (hk : ¬ isKey key) : shownOf key a t v = -1 := by
 have h : streamOf key a t = -1 := by
  unfold streamOf
  rw [if_pos (by rw [mixOf_key (by unfold isKey at hk; omega)]; omega)]
 unfold shownOf; rw [h]; exact turnOf_neg (by omega)
theorem hiddenOf_nokey {key a t v : Int} (hk : ¬ isKey key) : hiddenOf key a t v = -1 := by
 have h : streamOf key a t = -1 := by
  unfold streamOf
  rw [if_pos (by rw [mixOf_key (by unfold isKey at hk; omega)]; omega)]
 unfold hiddenOf; rw [h]; exact turnOf_neg (by omega)
theorem ansValueIn : AnsValueIn := by
 intro key a t v w _ ha ht _
 have C := hid (fun w => timedOf_calls t v w)
 have D : ∀ w, Calls Tryz.prog 49 #[.agg (cA t v), .func (.func 50) #[] #[], .int .i64 key, .int .i64 a] w fun e w' => e = .returned (.int .i64 (valueIn key a t v)) ∧ Below w.heap.size w w' := by
  intro w
  by_cases h : isAt a ∧ isCell t v
  ·have e : valueIn key a t v = shownOf key a t v := by
     by_cases hk : isKey key
     ·exact valueIn_yes hk h.1 h.2
     ·rw [valueIn_no (fun h' => hk h'.1), shownOf_nokey hk]
   rw [e]
   exact way_yesS key a t v _ w h.1 h.2 (fun w => shown_calls key a t v w ha ht)
  ·rw [valueIn_no (fun h' => h h'.2)]
   exact way_no key a t v _ w h
 have DD := hid D
 generalize valueIn key a t v = z at DD ⊢
 clear D ha ht
 go_enter Tryz.func11, Tryz.ntmps11
 go_wp2_with fail
 refine (C.out _).mono ?_; rintro e w1 ⟨rfl, b1⟩
 have B1 := hid (((Below.refl w.heap.size w).alloc (Nat.le_refl _) _).trans (b1.mono (by simp)))
 clear b1
 go_wp2_with fail
 refine (DD.out _).mono ?_; rintro e w2 ⟨rfl, b2⟩
 have B2 := hid (B1.out.trans (b2.mono B1.out.size))
 clear b2
 go_wp2_with fail
 go_ret
 exact ⟨rfl, B2.out⟩
theorem ansCellOf : AnsCellOf := by
 intro key a t v w _ ha ht _
 have k0 := ((Kept.refl w).new 30 zC).new 89 (cA t v)
 rw [show (w.alloc (.cells zC 30)).heap.size = w.heap.size + 1 by simp] at k0
 have K0 := hid k0
 clear k0
 by_cases h : isKey key ∧ isTri a t v
 ·rw [cellOf_yes h.1 h.2]
  have hz : ¬ hiddenOf key a t v < 0 := hidden_nat h.1.1 h.1.2 (by have := h.2.1.1; omega) (by have := h.2.2.1.1; omega) h.2.2.2
  have D := hid (fun w => way_yesH key a t v _ w h.2.1 h.2.2 (fun w => hidden_calls key a t v w ha ht))
  generalize hiddenOf key a t v = z at D hz
  clear h ha ht
  go_enter Tryz.func74, Tryz.ntmps74
  go_wp2_with fail
  refine (D.out _).mono ?_; rintro e w1 ⟨rfl, b1⟩
  have k1 := K0.out.below b1
  have r0 := k1.cell (List.mem_cons_of_mem _ (List.mem_cons_self ..)) 0
  have r1 := k1.cell (List.mem_cons_of_mem _ (List.mem_cons_self ..)) 1
  have f0 := k1.frozen (List.mem_cons_of_mem _ (List.mem_cons_self ..)) 0
  have f1 := k1.frozen (List.mem_cons_of_mem _ (List.mem_cons_self ..)) 1
  simp only [List.getElem?_toArray, List.getElem?_cons_zero, List.getElem?_cons_succ] at r0 r1
  have K1 := hid k1.tail
  clear b1 k1
  go_wp2_with fail
  obtain ⟨w9, e9, ⟨d0, d1⟩, hb⟩ := cell_end (x := .int .i64 t) (y := .int .i64 z) (K1.out.at_ (List.mem_cons_self ..)) K1.out.1 (Nat.le_refl _)
  rw [e9]
  exact bodyPost_ret (v := .agg (cA t z)) (by simp [results, Tryz.results74, go_sem, d0, d1]) rfl ⟨rfl, hb⟩
 ·rw [cellOf_no h]
  have D : ∃ z, z < 0 ∧ ∀ w, Calls Tryz.prog 49 #[.agg (cA t v), .func (.func 116) #[] #[], .int .i64 key, .int .i64 a] w fun e w' => e = .returned (.int .i64 z) ∧ Below w.heap.size w w' := by
   by_cases h2 : isAt a ∧ isCell t v
   ·refine ⟨-1, by omega, fun w => ?_⟩
    have e : hiddenOf key a t v = -1 := hiddenOf_nokey (fun hk => h ⟨hk, h2.1, h2.2.1, h2.2.2⟩)
    rw [← e]
    exact way_yesH key a t v _ w h2.1 h2.2 (fun w => hidden_calls key a t v w ha ht)
   ·exact ⟨-1, by omega, fun w => way_no key a t v _ w h2⟩
  obtain ⟨z, hz, D⟩ := D
  have DD := hid D
  clear h ha ht D
  go_enter Tryz.func74, Tryz.ntmps74
  go_wp2_with fail
  refine (DD.out _).mono ?_; rintro e w1 ⟨rfl, b1⟩
  have k1 := K0.out.below b1
  have r0 := k1.cell (List.mem_cons_of_mem _ (List.mem_cons_self ..)) 0
  have r1 := k1.cell (List.mem_cons_of_mem _ (List.mem_cons_self ..)) 1
  have f0 := k1.frozen (List.mem_cons_of_mem _ (List.mem_cons_self ..)) 0
  have f1 := k1.frozen (List.mem_cons_of_mem _ (List.mem_cons_self ..)) 1
  simp only [List.getElem?_toArray, List.getElem?_cons_zero, List.getElem?_cons_succ] at r0 r1
  have K1 := hid k1.tail
  clear b1 k1
  go_wp2_with fail
  obtain ⟨w9, e9, ⟨d0, d1⟩, hb⟩ := cell_end (x := .int .i64 0) (y := .int .i64 0) (K1.out.at_ (List.mem_cons_self ..)) K1.out.1 (Nat.le_refl _)
  rw [e9]
  exact bodyPost_ret (v := .agg zC) (by simp [results, Tryz.results74, go_sem, d0, d1]) rfl ⟨rfl, hb⟩
theorem ansTripleIn : AnsTripleIn := by
 intro a t v w _ _ _
 have k0 := ((((Kept.refl w).new 30 (cA t v)).new 85 #[.int .i64 0, .int .i64 0, .int .i64 0]).new 85 #[.int .i64 a, .int .i64 t, .int .i64 v])
 rw [show ((w.alloc (.cells (cA t v) 30)).alloc (.cells #[.int .i64 0, .int .i64 0, .int .i64 0] 85)).heap.size = w.heap.size + 1 + 1 by simp, show (w.alloc (.cells (cA t v) 30)).heap.size = w.heap.size + 1 by simp] at k0
 have K0 := hid k0
 clear k0
 have D := hid (fun w => tripleOk_calls a t v w)
 by_cases h : isTri a t v
 ·rw [tripleIn_yes h]
  rw [decide_eq_true h] at D
  clear h
  go_enter Tryz.func115, Tryz.ntmps115
  go_wp2_with fail
  refine (D.out _).mono ?_; rintro e w1 ⟨rfl, b1⟩
  have k1 := K0.out.below b1
  obtain ⟨e0, e1, e2⟩ := k1.three
  obtain ⟨r0, r1, r2⟩ := k1.tail.three
  have f0 := k1.tail.frozen (List.mem_cons_self ..) 0
  have f1 := k1.tail.frozen (List.mem_cons_self ..) 1
  have f2 := k1.tail.frozen (List.mem_cons_self ..) 2
  have K1 := hid k1
  clear b1 k1
  go_wp2_with fail
  obtain ⟨w9, e9, ⟨d0, d1, d2⟩, hb⟩ := triple_end (x := .int .i64 a) (y := .int .i64 t) (z := .int .i64 v) (K1.out.tail.at_ (List.mem_cons_self ..)) K1.out.1 (Nat.le_succ _)
  rw [e9]
  exact bodyPost_ret (v := .agg #[.int .i64 a, .int .i64 t, .int .i64 v]) (by simp [results, Tryz.results115, go_sem, d0, d1, d2]) rfl ⟨rfl, hb⟩
 ·rw [tripleIn_no h]
  rw [decide_eq_false h] at D
  clear h
  go_enter Tryz.func115, Tryz.ntmps115
  go_wp2_with fail
  refine (D.out _).mono ?_; rintro e w1 ⟨rfl, b1⟩
  have k1 := K0.out.below b1
  obtain ⟨r0, r1, r2⟩ := k1.tail.three
  have f0 := k1.tail.frozen (List.mem_cons_self ..) 0
  have f1 := k1.tail.frozen (List.mem_cons_self ..) 1
  have f2 := k1.tail.frozen (List.mem_cons_self ..) 2
  have K1 := hid k1
  clear b1 k1
  go_wp2_with fail
  obtain ⟨w9, e9, ⟨d0, d1, d2⟩, hb⟩ := triple_end (x := .int .i64 0) (y := .int .i64 0) (z := .int .i64 0) (K1.out.tail.at_ (List.mem_cons_self ..)) K1.out.1 (Nat.le_succ _)
  rw [e9]
  exact bodyPost_ret (v := .agg #[.int .i64 0, .int .i64 0, .int .i64 0]) (by simp [results, Tryz.results115, go_sem, d0, d1, d2]) rfl ⟨rfl, hb⟩
end Go.Proofs.YteopplldbcgjjaaGreatDoor.Mx

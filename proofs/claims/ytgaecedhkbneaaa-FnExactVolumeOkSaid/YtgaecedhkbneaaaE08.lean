import Derived.Test.YtgaecedhkbneaaaE07
import Derived.Test.YtgaecedhkbneaaaE02
import Derived.Test.YtgaecedhkbneaaaE01
import Derived.Test.YtgaecedhkbneaaaE05
import Derived.Test.YtgaecedhkbneaaaE06
import Derived.RangeFuncBox
import Derived.RangeFuncLeaves
import Derived.Shelf.Abstract
import Derived.OwnWalkIn
import Derived.TacticsInMore
import Derived.LoopNIn
import Derived.LoopIn
import Derived.Maps.AppendAt
import Derived.Test.YtgaecedhkbneaaaE04
namespace Go.Proofs.Ytgaecedhkbneaaa.Mx
open Go.ChangeShapes Go.WideShapes Go.ChangeAt Go.RowKit
set_option linter.unusedVariables false
theorem isEpoch_yes (e_ : Int) (w : World) (h : 0 ≤ e_ ∧ e_ ≤ 1000) : Calls Try.prog 73 #[.int .i64 e_] w fun e w' => e = .returned (.bool true) ∧ w = w' := by
  obtain ⟨h0, h1⟩ := h
  go_enter Try.func73, Try.ntmps73
  go_wp2_with fail
  go_ret
  exact ⟨rfl, rfl⟩
theorem isEpoch_no (e_ : Int) (w : World) (h : ¬ (0 ≤ e_ ∧ e_ ≤ 1000)) : Calls Try.prog 73 #[.int .i64 e_] w fun e w' => e = .returned (.bool false) ∧ w = w' := by
  by_cases h0 : 0 ≤ e_
  · have h1 : ¬ e_ ≤ 1000 := by omega
    have hd : decide (e_ ≤ 1000) = false := decide_eq_false h1
    clear h
    go_enter Try.func73, Try.ntmps73
    go_wp2_with fail
    go_ret
    exact ⟨rfl, rfl⟩
  · have hd : decide (0 ≤ e_) = false := decide_eq_false h0
    clear h
    go_enter Try.func73, Try.ntmps73
    go_wp2_with fail
    go_ret
    exact ⟨rfl, rfl⟩
theorem isSumP_yes (s : Int) (w : World) (h : isSumP s) : Calls Try.prog 77 #[.int .i64 s] w fun e w' => e = .returned (.bool true) ∧ w = w' := isSum_yes s w h.1 h.2
theorem isSumP_no (s : Int) (w : World) (h : ¬ isSumP s) : Calls Try.prog 77 #[.int .i64 s] w fun e w' => e = .returned (.bool false) ∧ w = w' := isSum_no s w (by unfold isSumP at h; omega)
def sumsP (t2 t3 t4 t5 t6 : Int) : Prop := (t2 = 0 → t5 = 0 ∧ t6 = 0) ∧ isSumP t3 ∧ isSumP t4 ∧ isSumP t5 ∧ isSumP t6
instance (t2 t3 t4 t5 t6 : Int) : Decidable (sumsP t2 t3 t4 t5 t6) := inferInstanceAs (Decidable (_ ∧ _))
set_option maxRecDepth 20000 in
set_option maxHeartbeats 4000000 in
theorem sumsOk_calls (p : Nat) (t0 t1 t2 t3 t4 t5 t6 : Int) (t7 : Bool) (w : World) (hp : CellsAt w p 71 #[.int .i64 t0, .int .i64 t1, .int .i64 t2, .int .i64 t3, .int .i64 t4, .int .i64 t5, .int .i64 t6, .bool t7]) :
    Calls Try.prog 74 #[.pointer (some ⟨p, 0, none⟩)] w fun e w' => e = .returned (.bool (decide (sumsP t2 t3 t4 t5 t6))) ∧ w = w' := by
  have kc : ∀ i, w.cell? ⟨p, i, none⟩ = #[.int .i64 t0, .int .i64 t1, .int .i64 t2, .int .i64 t3, .int .i64 t4, .int .i64 t5, .int .i64 t6, .bool t7][i]? := hp.cell
  clear hp
  by_cases h2 : t2 = 0
  · subst h2
    by_cases h5 : t5 = 0
    · subst h5
      by_cases h6 : t6 = 0
      · subst h6
        have s5 := Lib.hid (show isSumP 0 by decide)
        have s6 := Lib.hid (show isSumP 0 by decide)
        have C5 := Lib.hid (fun w => isSumP_yes 0 w (by decide))
        by_cases s3_ : isSumP t3
        · have s3 := Lib.hid s3_; have C3 := Lib.hid (fun w => isSumP_yes t3 w s3_); clear s3_
          by_cases s4_ : isSumP t4
          · have s4 := Lib.hid s4_; have C4 := Lib.hid (fun w => isSumP_yes t4 w s4_); clear s4_
            rw [decide_eq_true (show sumsP _ _ _ _ _ from ⟨fun _ => ⟨rfl, rfl⟩, s3.out, s4.out, s5.out, s6.out⟩)]
            go_enter Try.func74, Try.ntmps74
            go_wp2_with fail
            refine (C3.out _).mono ?_; rintro e w' ⟨rfl, rfl⟩
            go_wp2_with fail
            refine (C4.out _).mono ?_; rintro e w' ⟨rfl, rfl⟩
            go_wp2_with fail
            refine (C5.out _).mono ?_; rintro e w' ⟨rfl, rfl⟩
            go_wp2_with fail
            refine (C5.out _).mono ?_; rintro e w' ⟨rfl, rfl⟩
            go_wp2_with fail
            go_ret
            exact ⟨rfl, rfl⟩
          · have s4 := Lib.hid s4_; have C4 := Lib.hid (fun w => isSumP_no t4 w s4_); clear s4_
            rw [decide_eq_false (show ¬ sumsP _ _ _ _ _ from fun h => s4.out h.2.2.1)]
            go_enter Try.func74, Try.ntmps74
            go_wp2_with fail
            refine (C3.out _).mono ?_; rintro e w' ⟨rfl, rfl⟩
            go_wp2_with fail
            refine (C4.out _).mono ?_; rintro e w' ⟨rfl, rfl⟩
            go_wp2_with fail
            go_ret
            exact ⟨rfl, rfl⟩
        · have s3 := Lib.hid s3_; have C3 := Lib.hid (fun w => isSumP_no t3 w s3_); clear s3_
          rw [decide_eq_false (show ¬ sumsP _ _ _ _ _ from fun h => s3.out h.2.1)]
          go_enter Try.func74, Try.ntmps74
          go_wp2_with fail
          refine (C3.out _).mono ?_; rintro e w' ⟨rfl, rfl⟩
          go_wp2_with fail
          go_ret
          exact ⟨rfl, rfl⟩
      · have n6 : (t6 != 0) = true := by simpa using h6
        have N6 := Lib.hid h6
        clear h6
        rw [decide_eq_false (show ¬ sumsP _ _ _ _ _ from fun h => N6.out (h.1 rfl).2)]
        go_enter Try.func74, Try.ntmps74
        go_wp2_with fail
        go_ret
        exact ⟨rfl, rfl⟩
    · have n5 : (t5 != 0) = true := by simpa using h5
      have N5 := Lib.hid h5
      clear h5
      rw [decide_eq_false (show ¬ sumsP _ _ _ _ _ from fun h => N5.out (h.1 rfl).1)]
      go_enter Try.func74, Try.ntmps74
      go_wp2_with fail
      go_ret
      exact ⟨rfl, rfl⟩
  · have n2 : (t2 == 0) = false := by simpa using h2
    have N2 := Lib.hid h2
    clear h2
    by_cases s3_ : isSumP t3
    · have s3 := Lib.hid s3_; have C3 := Lib.hid (fun w => isSumP_yes t3 w s3_); clear s3_
      by_cases s4_ : isSumP t4
      · have s4 := Lib.hid s4_; have C4 := Lib.hid (fun w => isSumP_yes t4 w s4_); clear s4_
        by_cases s5_ : isSumP t5
        · have s5 := Lib.hid s5_; have C5 := Lib.hid (fun w => isSumP_yes t5 w s5_); clear s5_
          by_cases s6_ : isSumP t6
          · have s6 := Lib.hid s6_; have C6 := Lib.hid (fun w => isSumP_yes t6 w s6_); clear s6_
            rw [decide_eq_true (show sumsP _ _ _ _ _ from ⟨fun h => absurd h N2.out, s3.out, s4.out, s5.out, s6.out⟩)]
            go_enter Try.func74, Try.ntmps74
            go_wp2_with fail
            refine (C3.out _).mono ?_; rintro e w' ⟨rfl, rfl⟩
            go_wp2_with fail
            refine (C4.out _).mono ?_; rintro e w' ⟨rfl, rfl⟩
            go_wp2_with fail
            refine (C5.out _).mono ?_; rintro e w' ⟨rfl, rfl⟩
            go_wp2_with fail
            refine (C6.out _).mono ?_; rintro e w' ⟨rfl, rfl⟩
            go_wp2_with fail
            go_ret
            exact ⟨rfl, rfl⟩
          · have s6 := Lib.hid s6_; have C6 := Lib.hid (fun w => isSumP_no t6 w s6_); clear s6_
            rw [decide_eq_false (show ¬ sumsP _ _ _ _ _ from fun h => s6.out h.2.2.2.2)]
            go_enter Try.func74, Try.ntmps74
            go_wp2_with fail
            refine (C3.out _).mono ?_; rintro e w' ⟨rfl, rfl⟩
            go_wp2_with fail
            refine (C4.out _).mono ?_; rintro e w' ⟨rfl, rfl⟩
            go_wp2_with fail
            refine (C5.out _).mono ?_; rintro e w' ⟨rfl, rfl⟩
            go_wp2_with fail
            refine (C6.out _).mono ?_; rintro e w' ⟨rfl, rfl⟩
            go_wp2_with fail
            go_ret
            exact ⟨rfl, rfl⟩
        · have s5 := Lib.hid s5_; have C5 := Lib.hid (fun w => isSumP_no t5 w s5_); clear s5_
          rw [decide_eq_false (show ¬ sumsP _ _ _ _ _ from fun h => s5.out h.2.2.2.1)]
          go_enter Try.func74, Try.ntmps74
          go_wp2_with fail
          refine (C3.out _).mono ?_; rintro e w' ⟨rfl, rfl⟩
          go_wp2_with fail
          refine (C4.out _).mono ?_; rintro e w' ⟨rfl, rfl⟩
          go_wp2_with fail
          refine (C5.out _).mono ?_; rintro e w' ⟨rfl, rfl⟩
          go_wp2_with fail
          go_ret
          exact ⟨rfl, rfl⟩
      · have s4 := Lib.hid s4_; have C4 := Lib.hid (fun w => isSumP_no t4 w s4_); clear s4_
        rw [decide_eq_false (show ¬ sumsP _ _ _ _ _ from fun h => s4.out h.2.2.1)]
        go_enter Try.func74, Try.ntmps74
        go_wp2_with fail
        refine (C3.out _).mono ?_; rintro e w' ⟨rfl, rfl⟩
        go_wp2_with fail
        refine (C4.out _).mono ?_; rintro e w' ⟨rfl, rfl⟩
        go_wp2_with fail
        go_ret
        exact ⟨rfl, rfl⟩
    · have s3 := Lib.hid s3_; have C3 := Lib.hid (fun w => isSumP_no t3 w s3_); clear s3_
      rw [decide_eq_false (show ¬ sumsP _ _ _ _ _ from fun h => s3.out h.2.1)]
      go_enter Try.func74, Try.ntmps74
      go_wp2_with fail
      refine (C3.out _).mono ?_; rintro e w' ⟨rfl, rfl⟩
      go_wp2_with fail
      go_ret
      exact ⟨rfl, rfl⟩
def suitsP (n t0 t1 t2 t3 t4 t5 t6 : Int) : Prop := isTm t0 ∧ (0 ≤ t1 ∧ t1 ≤ 1000) ∧ 0 ≤ t2 ∧ t2 < n ∧ sumsP t2 t3 t4 t5 t6
instance (n t0 t1 t2 t3 t4 t5 t6 : Int) : Decidable (suitsP n t0 t1 t2 t3 t4 t5 t6) := inferInstanceAs (Decidable (_ ∧ _))
set_option maxRecDepth 20000 in
set_option maxHeartbeats 4000000 in
theorem suits_calls (p : Nat) (n t0 t1 t2 t3 t4 t5 t6 : Int) (t7 : Bool) (w : World) (hp : CellsAt w p 71 #[.int .i64 t0, .int .i64 t1, .int .i64 t2, .int .i64 t3, .int .i64 t4, .int .i64 t5, .int .i64 t6, .bool t7]) :
    Calls Try.prog 63 #[.pointer (some ⟨p, 0, none⟩), .int .i64 n] w fun e w' => e = .returned (.bool (decide (suitsP n t0 t1 t2 t3 t4 t5 t6))) ∧ w = w' := by
  have kc : ∀ i, w.cell? ⟨p, i, none⟩ = #[.int .i64 t0, .int .i64 t1, .int .i64 t2, .int .i64 t3, .int .i64 t4, .int .i64 t5, .int .i64 t6, .bool t7][i]? := hp.cell
  by_cases h0 : isTm t0
  · have H0 := Lib.hid h0; have CT := Lib.hid (fun w => isTime_yes t0 w h0); clear h0
    by_cases h1 : 0 ≤ t1 ∧ t1 ≤ 1000
    · have H1 := Lib.hid h1; have CE := Lib.hid (fun w => isEpoch_yes t1 w h1); clear h1
      by_cases h2 : 0 ≤ t2
      · by_cases h3 : t2 < n
        · have hd0 : decide (0 ≤ t2) = true := decide_eq_true h2
          have hd1 : decide (t2 < n) = true := decide_eq_true h3
          have H2 := Lib.hid h2; have H3 := Lib.hid h3
          have CS := Lib.hid (fun u (h : CellsAt u p 71 #[.int .i64 t0, .int .i64 t1, .int .i64 t2, .int .i64 t3, .int .i64 t4, .int .i64 t5, .int .i64 t6, .bool t7]) => sumsOk_calls p t0 t1 t2 t3 t4 t5 t6 t7 u h)
          have HP := Lib.hid hp
          clear hp
          by_cases h4 : sumsP t2 t3 t4 t5 t6
          · rw [decide_eq_true h4] at CS
            have H4 := Lib.hid h4
            clear h4
            rw [decide_eq_true (show suitsP _ _ _ _ _ _ _ _ from ⟨H0.out, H1.out, H2.out, H3.out, H4.out⟩)]
            go_enter Try.func63, Try.ntmps63
            go_wp2_with fail
            refine (CT.out _).mono ?_; rintro e w' ⟨rfl, rfl⟩
            go_wp2_with fail
            refine (CE.out _).mono ?_; rintro e w' ⟨rfl, rfl⟩
            go_wp2_with fail
            refine (CS.out _ HP.out).mono ?_; rintro e w' ⟨rfl, rfl⟩
            go_wp2_with fail
            go_ret
            exact ⟨rfl, rfl⟩
          · rw [decide_eq_false h4] at CS
            have H4 := Lib.hid h4
            clear h4
            rw [decide_eq_false (show ¬ suitsP _ _ _ _ _ _ _ _ from fun h => H4.out h.2.2.2.2)]
            go_enter Try.func63, Try.ntmps63
            go_wp2_with fail
            refine (CT.out _).mono ?_; rintro e w' ⟨rfl, rfl⟩
            go_wp2_with fail
            refine (CE.out _).mono ?_; rintro e w' ⟨rfl, rfl⟩
            go_wp2_with fail
            refine (CS.out _ HP.out).mono ?_; rintro e w' ⟨rfl, rfl⟩
            go_wp2_with fail
            go_ret
            exact ⟨rfl, rfl⟩
        · have hd0 : decide (0 ≤ t2) = true := decide_eq_true h2
          have hd1 : decide (t2 < n) = false := decide_eq_false h3
          have H3 := Lib.hid h3
          rw [decide_eq_false (show ¬ suitsP _ _ _ _ _ _ _ _ from fun h => H3.out h.2.2.2.1)]
          go_enter Try.func63, Try.ntmps63
          go_wp2_with fail
          refine (CT.out _).mono ?_; rintro e w' ⟨rfl, rfl⟩
          go_wp2_with fail
          refine (CE.out _).mono ?_; rintro e w' ⟨rfl, rfl⟩
          go_wp2_with fail
          go_ret
          exact ⟨rfl, rfl⟩
      · have hd0 : decide (0 ≤ t2) = false := decide_eq_false h2
        have H3 := Lib.hid h2
        rw [decide_eq_false (show ¬ suitsP _ _ _ _ _ _ _ _ from fun h => H3.out h.2.2.1)]
        go_enter Try.func63, Try.ntmps63
        go_wp2_with fail
        refine (CT.out _).mono ?_; rintro e w' ⟨rfl, rfl⟩
        go_wp2_with fail
        refine (CE.out _).mono ?_; rintro e w' ⟨rfl, rfl⟩
        go_wp2_with fail
        go_ret
        exact ⟨rfl, rfl⟩
    · have H1 := Lib.hid h1; have CE := Lib.hid (fun w => isEpoch_no t1 w h1); clear h1
      rw [decide_eq_false (show ¬ suitsP _ _ _ _ _ _ _ _ from fun h => H1.out h.2.1)]
      go_enter Try.func63, Try.ntmps63
      go_wp2_with fail
      refine (CT.out _).mono ?_; rintro e w' ⟨rfl, rfl⟩
      go_wp2_with fail
      refine (CE.out _).mono ?_; rintro e w' ⟨rfl, rfl⟩
      go_wp2_with fail
      go_ret
      exact ⟨rfl, rfl⟩
  · have H0 := Lib.hid h0; have CT := Lib.hid (fun w => isTime_no t0 w h0); clear h0
    rw [decide_eq_false (show ¬ suitsP _ _ _ _ _ _ _ _ from fun h => H0.out h.1)]
    go_enter Try.func63, Try.ntmps63
    go_wp2_with fail
    refine (CT.out _).mono ?_; rintro e w' ⟨rfl, rfl⟩
    go_wp2_with fail
    go_ret
    exact ⟨rfl, rfl⟩
set_option maxRecDepth 20000 in
set_option maxHeartbeats 4000000 in
theorem implTrustOk_calls (key x : Int) (A : Option Addr) (l : List Int) (cap : Nat) (t0 t1 t2 t3 t4 t5 t6 : Int) (t7 : Bool) (w : World) (hn : l.length ≤ 1048576) (hcap : l.length ≤ cap) (hA : Ints w .i64 w.heap.size A l) :
    Calls Try.prog 40 #[.agg #[.int .i64 key, .slice A l.length cap], .int .i64 x, .agg #[.int .i64 t0, .int .i64 t1, .int .i64 t2, .int .i64 t3, .int .i64 t4, .int .i64 t5, .int .i64 t6, .bool t7]] w fun e w' => e = .returned (.bool (trustB key l x ⟨t0, t1, t2, t3, t4, t5, t6, t7⟩)) ∧ Below w.heap.size w w' := by
  have hm : l.length ≤ maxLen := by unfold maxLen; omega
  have F0 := fun (u : World) (hb : Below w.heap.size w u) => firstOf_calls key x A l cap u hm hcap ((hA.below hb (Nat.le_refl _)).more hb.size)
  by_cases hf : 0 ≤ firstOf key l x
  · have hpr : planOk key l ∧ 0 ≤ x ∧ x < l.length := by
      refine Classical.byContradiction fun h => ?_
      unfold firstOf at hf
      rw [if_neg h] at hf
      omega
    obtain ⟨r, rfl⟩ : ∃ r : Nat, x = r := ⟨x.toNat, by omega⟩
    have hr : r < l.length := by omega
    obtain ⟨bb, oo, rfl, hbb, hcc⟩ := hA r hr
    have K0 := Lib.hid (show Kept w [(w.heap.size + 1, 71, #[.int .i64 t0, .int .i64 t1, .int .i64 t2, .int .i64 t3, .int .i64 t4, .int .i64 t5, .int .i64 t6, .bool t7]), (w.heap.size, 32, #[.int .i64 key, .slice (some ⟨bb, oo, none⟩) l.length cap])] _ from (((Kept.refl w).put1 _ _ #[.int .i64 key, .slice (some ⟨bb, oo, none⟩) l.length cap] rfl).put1 _ _ #[.int .i64 t0, .int .i64 t1, .int .i64 t2, .int .i64 t3, .int .i64 t4, .int .i64 t5, .int .i64 t6, .bool t7] (by simp)))
    have hd : decide (0 ≤ firstOf key l (r : Int)) = true := decide_eq_true hf
    have hi1 : (r : Int) < l.length := by omega
    have hi0 : (0 : Int) ≤ r := by omega
    have HC := Lib.hid (fun (u : World) (hb : Below w.heap.size w u) => (hb.cell (p := ⟨bb, oo + r, none⟩) hbb).trans hcc)
    have ev : l.getD ((r : Int)).toNat 0 = l.getD r 0 := by rw [Int.toNat_natCast]
    have HT := Lib.hid (show trustB key l (r : Int) ⟨t0, t1, t2, t3, t4, t5, t6, t7⟩ = decide (suitsP (l.getD r 0) t0 t1 t2 t3 t4 t5 t6) from by
      unfold trustB
      congr 1
      unfold trustOk suitsP sumsP
      rw [ev]
      simp only [eq_iff_iff]
      constructor
      · rintro ⟨_, _, a, b, ⟨c, d⟩, e, f⟩; exact ⟨a, b, c, by omega, e, f⟩
      · rintro ⟨a, b, c, d, e, f⟩; exact ⟨hpr.1, hpr.2, a, b, ⟨c, by omega⟩, e, f⟩)
    have SC := Lib.hid (fun u (h : CellsAt u (w.heap.size + 1) 71 #[.int .i64 t0, .int .i64 t1, .int .i64 t2, .int .i64 t3, .int .i64 t4, .int .i64 t5, .int .i64 t6, .bool t7]) => suits_calls (w.heap.size + 1) (l.getD r 0) t0 t1 t2 t3 t4 t5 t6 t7 u h)
    have F := Lib.hid F0
    generalize firstOf key l (r : Int) = f at F hd
    generalize l.getD r 0 = v at HC SC HT
    generalize decide (suitsP v t0 t1 t2 t3 t4 t5 t6) = z at SC HT
    clear hf hpr hr hcc ev hA F0 hm
    go_enter Try.func40, Try.ntmps40
    go_wp2_with fail
    refine (F.out _ K0.out.1).mono ?_; rintro e u1 ⟨rfl, hb⟩
    have hk1 := K0.out.below hb
    have cc := HC.out _ hk1.1
    have kz := hk1.at_ (p := w.heap.size + 1) (t := 71) (cs := #[.int .i64 t0, .int .i64 t1, .int .i64 t2, .int .i64 t3, .int .i64 t4, .int .i64 t5, .int .i64 t6, .bool t7]) (by simp)
    have KZ := Lib.hid kz
    have BL := Lib.hid hk1.1
    obtain ⟨kc0, kf0, kc1, kf1, -⟩ := hk1.rd
    clear hb hk1 kz F K0
    go_wp2_with fail
    refine (SC.out _ KZ.out).mono ?_; rintro e u2 ⟨rfl, rfl⟩
    go_wp2_with fail
    go_ret
    exact ⟨by rw [HT.out]; rfl, BL.out⟩
  · have K0 := Lib.hid (show Kept w [(w.heap.size + 1, 71, #[.int .i64 t0, .int .i64 t1, .int .i64 t2, .int .i64 t3, .int .i64 t4, .int .i64 t5, .int .i64 t6, .bool t7]), (w.heap.size, 32, #[.int .i64 key, .slice A l.length cap])] _ from (((Kept.refl w).put1 _ _ #[.int .i64 key, .slice A l.length cap] rfl).put1 _ _ #[.int .i64 t0, .int .i64 t1, .int .i64 t2, .int .i64 t3, .int .i64 t4, .int .i64 t5, .int .i64 t6, .bool t7] (by simp)))
    have hd : decide (0 ≤ firstOf key l x) = false := decide_eq_false hf
    have HT := Lib.hid (show trustB key l x ⟨t0, t1, t2, t3, t4, t5, t6, t7⟩ = false from trustB_no (fun h => hf (by
      have hp := h.1; have hx := h.2.1
      unfold firstOf
      rw [if_pos ⟨hp, hx⟩]
      exact (upTo_bd hp.2.2.1 (k := x.toNat) (by omega)).1)))
    have F := Lib.hid F0
    generalize firstOf key l x = f at F hd
    clear hf hA F0 hm
    go_enter Try.func40, Try.ntmps40
    go_wp2_with fail
    refine (F.out _ K0.out.1).mono ?_; rintro e u1 ⟨rfl, hb⟩
    have BL := Lib.hid (K0.out.below hb).1
    clear hb F K0
    go_wp2_with fail
    go_ret
    exact ⟨by rw [HT.out]; rfl, BL.out⟩
end Go.Proofs.Ytgaecedhkbneaaa.Mx
namespace Go.Proofs.Ytgaecedhkbneaaa.Mx
open Go.ChangeShapes Go.WideShapes Go.ChangeAt Go.RowKit
set_option linter.unusedVariables false
theorem isSealCount_calls (n : Int) (w : World) (hn : I64 n) :
    Calls Try.prog 24 #[.int .i64 n] w fun e w' => e = .returned (.bool (decide (0 ≤ n ∧ n ≤ 10000))) ∧ w = w' := by
  obtain ⟨m0, m1⟩ := hn
  by_cases h0 : 0 ≤ n
  · by_cases h1 : n ≤ 10000
    · rw [decide_eq_true ⟨h0, h1⟩]
      go_enter Try.func24, Try.ntmps24
      go_wp2
      go_ret
      exact ⟨rfl, rfl⟩
    · rw [decide_eq_false (fun h => h1 h.2)]
      have h2 : 10000 < n := by omega
      go_enter Try.func24, Try.ntmps24
      go_wp2
      go_ret
      exact ⟨rfl, rfl⟩
  · rw [decide_eq_false (fun h => h0 h.1)]
    have h2 : n < 0 := by omega
    go_enter Try.func24, Try.ntmps24
    go_wp2
    go_ret
    exact ⟨rfl, rfl⟩
set_option maxRecDepth 20000 in
set_option maxHeartbeats 4000000 in
theorem implTrusts_calls (key : Int) (A C : Option Addr) (l : List Int) (cap : Nat) (hcap : l.length ≤ cap) (L : List Tru) (cap2 : Nat) (w : World) (hn : l.length ≤ 1048576) (hA : Ints w .i64 w.heap.size A l) (hN : L.length ≤ maxLen) (hC : Trs w w.heap.size C L) :
    Calls Try.prog 21 #[.agg #[.int .i64 key, .slice A l.length cap], .slice C L.length cap2] w fun e w' => e = .returned (.bool (trustsB key l L)) ∧ Below w.heap.size w w' := by
  have K0 := Lib.hid (show Kept w [(w.heap.size, 32, #[.int .i64 key, .slice A l.length cap])] _ from (Kept.refl w).put1 _ _ #[.int .i64 key, .slice A l.length cap] rfl)
  have hm2 : l.length ≤ maxLen := by unfold maxLen; omega
  have PO := Lib.hid (fun (u : World) (hb : Below w.heap.size w u) => planOk_calls key A l cap u hm2 hcap ((hA.below hb (Nat.le_refl _)).more hb.size))
  have TO := Lib.hid (fun (t : Tru) (x : Int) (u : World) (hb : Below w.heap.size w u) => implTrustOk_calls key x A l cap t.clock t.epoch t.cursor t.read t.written t.nread t.nwritten t.failed u hn hcap ((hA.below hb (Nat.le_refl _)).more hb.size))
  have HC := Lib.hid hC
  have hm := hN
  unfold maxLen at hm hm2
  clear hA hC hN hcap
  by_cases hp : planOk key l
  · rw [okB_yes hp] at PO
    by_cases hln : L.length = l.length
    · have hbl : ((L.length : Int) == (l.length : Int)) = true := beq_iff_eq.2 (by omega)
      have hbn : ((L.length : Int) != (l.length : Int)) = false := by rw [bne, hbl]; rfl
      have HP := Lib.hid hp
      have HL := Lib.hid hln
      clear hp hln
      go_enter Try.func21, Try.ntmps21
      go_wp2_with fail
      refine (PO.out _ K0.out.1).mono ?_; rintro e w1 ⟨rfl, b1⟩
      have h1 := K0.out.below b1
      clear b1 K0
      obtain ⟨kc0, kf0, -⟩ := h1.rd
      have H1 := Lib.hid h1
      clear h1
      go_wp2_with fail
      clear kc0 kf0
      go_loopw [20] (fun i wr => ∃ k : Nat, k ≤ L.length ∧ i = .int .i64 k ∧ UpToOk key l L k ∧ Kept w [(w.heap.size, 32, #[.int .i64 key, .slice A l.length cap])] wr) (fun i _ => L.length - (intOf i).toNat)
      case atStart => exact ⟨0, Nat.zero_le _, rfl, fun i hi => absurd hi (by omega), H1.out⟩
      case round =>
        obtain ⟨k, hk, rfl, hup, hz⟩ := hrel
        have HU := Lib.hid hup
        clear hup
        by_cases hlt : k < L.length
        · obtain ⟨b, off, rfl, hb, hc⟩ := HC.out.at_ hlt
          have hlt' : (k : Int) < L.length := by omega
          have hk0 : (0 : Int) ≤ k := by omega
          have TB := Lib.hid (TO.out (L.getD k default) k)
          obtain ⟨c0, c1, c2, c3, c4, c5, c6, c7⟩ := hc.below hz.1 hb
          by_cases hok : trustOk key l k (L.getD k default)
          · have NX := Lib.hid (show UpToOk key l L (k + 1) from fun i hi => by
              rcases Nat.lt_or_ge i k with h | h
              · exact HU.out i h
              · obtain rfl : i = k := by omega
                exact hok)
            rw [show (⟨(L.getD k default).clock, (L.getD k default).epoch, (L.getD k default).cursor, (L.getD k default).read, (L.getD k default).written, (L.getD k default).nread, (L.getD k default).nwritten, (L.getD k default).failed⟩ : Tru) = L.getD k default from rfl, trustB_yes hok] at TB
            clear hok HU hc
            generalize L.getD k default = t at c0 c1 c2 c3 c4 c5 c6 c7 TB
            go_upto_region 6 with fail
            have hz2 := hz.put1 wr.heap.size 71 #[.int .i64 t.clock, .int .i64 t.epoch, .int .i64 t.cursor, .int .i64 t.read, .int .i64 t.written, .int .i64 t.nread, .int .i64 t.nwritten, .bool t.failed] rfl
            obtain ⟨kc0, kf0, kc1, kf1, -⟩ := hz2.rd
            have HZ := Lib.hid hz2
            clear hz hz2 c0 c1 c2 c3 c4 c5 c6 c7
            go_wp2_with fail
            refine (TB.out _ HZ.out.1).mono ?_; rintro e w2 ⟨rfl, b2⟩
            have hz3 := (HZ.out.below b2).sub (L' := [(w.heap.size, 32, #[.int .i64 key, .slice A l.length cap])]) (by intro y hy; simp at hy ⊢; right; exact hy)
            clear b2 kc0 kf0 kc1 kf1 HZ
            go_wp2_with fail
            go_roundw
            case rel => exact ⟨k + 1, by omega, by go_num, NX.out, hz3⟩
            case measure => simp [intOf]; omega
          · rw [show (⟨(L.getD k default).clock, (L.getD k default).epoch, (L.getD k default).cursor, (L.getD k default).read, (L.getD k default).written, (L.getD k default).nread, (L.getD k default).nwritten, (L.getD k default).failed⟩ : Tru) = L.getD k default from rfl, trustB_no hok] at TB
            have HX := Lib.hid (trustsB_no (l := l) (L := L) (key := key) (fun h => hok (h.2.2 k hlt)))
            clear hok HU hc
            generalize L.getD k default = t at c0 c1 c2 c3 c4 c5 c6 c7 TB
            go_upto_region 6 with fail
            have hz2 := hz.put1 wr.heap.size 71 #[.int .i64 t.clock, .int .i64 t.epoch, .int .i64 t.cursor, .int .i64 t.read, .int .i64 t.written, .int .i64 t.nread, .int .i64 t.nwritten, .bool t.failed] rfl
            obtain ⟨kc0, kf0, kc1, kf1, -⟩ := hz2.rd
            have HZ := Lib.hid hz2
            clear hz hz2 c0 c1 c2 c3 c4 c5 c6 c7
            go_wp2_with fail
            refine (TB.out _ HZ.out.1).mono ?_; rintro e w2 ⟨rfl, b2⟩
            have hz3 := HZ.out.below b2
            clear b2 kc0 kf0 kc1 kf1 HZ
            go_wp2_with fail
            go_ret
            exact ⟨by rw [HX.out]; rfl, hz3.1⟩
        · have hk' : k = L.length := by omega
          subst hk'
          have HX := Lib.hid (trustsB_yes (show trustsOk key l L from ⟨HP.out, HL.out, HU.out⟩))
          go_wp2_with fail
          go_ret
          exact ⟨by rw [HX.out]; rfl, hz.1⟩
    · have hbl : ((L.length : Int) == (l.length : Int)) = false := beq_false_of_ne (by omega)
      have hbn : ((L.length : Int) != (l.length : Int)) = true := by rw [bne, hbl]; rfl
      have HX := Lib.hid (trustsB_no (show ¬ trustsOk key l L from fun h => hln h.2.1))
      clear hp hln
      go_enter Try.func21, Try.ntmps21
      go_wp2_with fail
      refine (PO.out _ K0.out.1).mono ?_; rintro e w1 ⟨rfl, b1⟩
      have h1 := K0.out.below b1
      clear b1 K0
      obtain ⟨kc0, kf0, -⟩ := h1.rd
      have H1 := Lib.hid h1
      clear h1
      go_wp2_with fail
      go_ret
      exact ⟨by rw [HX.out]; rfl, H1.out.1⟩
  · rw [okB_no hp] at PO
    have HX := Lib.hid (trustsB_no (show ¬ trustsOk key l L from fun h => hp h.1))
    clear hp
    go_enter Try.func21, Try.ntmps21
    go_wp2_with fail
    refine (PO.out _ K0.out.1).mono ?_; rintro e w1 ⟨rfl, b1⟩
    have h1 := K0.out.below b1
    clear b1 K0
    have H1 := Lib.hid h1
    clear h1
    go_wp2_with fail
    go_ret
    exact ⟨by rw [HX.out]; rfl, H1.out.1⟩
end Go.Proofs.Ytgaecedhkbneaaa.Mx
namespace Go.Proofs.Ytgaecedhkbneaaa.Mx
open Go.ChangeShapes Go.WideShapes Go.ChangeAt Go.RowKit
set_option linter.unusedVariables false
attribute [local go_sem] Oper.semAt_some
end Go.Proofs.Ytgaecedhkbneaaa.Mx
namespace Go.Proofs.Ytgaecedhkbneaaa.Mx
open Go.ChangeShapes Go.WideShapes Go.ChangeAt Go.RowKit
set_option linter.unusedVariables false
attribute [local go_sem] Oper.semAt_some
end Go.Proofs.Ytgaecedhkbneaaa.Mx
namespace Go.Proofs.Ytgaecedhkbneaaa.Mx
open Go.ChangeShapes Go.WideShapes Go.ChangeAt Go.RowKit
set_option linter.unusedVariables false
end Go.Proofs.Ytgaecedhkbneaaa.Mx
namespace Go.Proofs.Ytgaecedhkbneaaa.Mx
open Go.ChangeShapes Go.WideShapes Go.ChangeAt Go.RowKit
set_option linter.unusedVariables false
end Go.Proofs.Ytgaecedhkbneaaa.Mx
namespace Go.Proofs.Ytgaecedhkbneaaa.Mx
open Go.ChangeShapes Go.WideShapes Go.ChangeAt Go.RowKit
set_option linter.unusedVariables false
end Go.Proofs.Ytgaecedhkbneaaa.Mx
namespace Go.Proofs.Ytgaecedhkbneaaa.Mx
open Go.ChangeShapes Go.WideShapes Go.ChangeAt Go.RowKit
set_option linter.unusedVariables false
end Go.Proofs.Ytgaecedhkbneaaa.Mx
namespace Go.Proofs.Ytgaecedhkbneaaa.Mx
open Go.ChangeShapes Go.WideShapes Go.ChangeAt Go.RowKit
set_option linter.unusedVariables false
theorem number_calls (m : Int) (w : World) : Calls Try.prog 80 #[.int .i64 m] w fun e w' => e = .returned (.int .i64 m) ∧ w = w' := by
  go_enter Try.func80, Try.ntmps80
  go_wp2_with fail
  go_ret
  exact ⟨rfl, rfl⟩
theorem inTime_yes (m : Int) (w : World) (h : isTm m) : Calls Try.prog 78 #[.int .i64 m] w fun e w' => e = .returned (.bool true) ∧ w = w' := by
  have C := Lib.hid (fun w => number_calls m w)
  have D := Lib.hid (fun w => isTime_yes m w h)
  clear h
  go_enter Try.func78, Try.ntmps78
  go_wp2_with fail
  refine (C.out _).mono ?_; rintro e w' ⟨rfl, rfl⟩
  go_wp2_with fail
  refine (D.out _).mono ?_; rintro e w' ⟨rfl, rfl⟩
  go_wp2_with fail
  go_ret
  exact ⟨rfl, rfl⟩
theorem inTime_no (m : Int) (w : World) (h : ¬ isTm m) : Calls Try.prog 78 #[.int .i64 m] w fun e w' => e = .returned (.bool false) ∧ w = w' := by
  have C := Lib.hid (fun w => number_calls m w)
  have D := Lib.hid (fun w => isTime_no m w h)
  clear h
  go_enter Try.func78, Try.ntmps78
  go_wp2_with fail
  refine (C.out _).mono ?_; rintro e w' ⟨rfl, rfl⟩
  go_wp2_with fail
  refine (D.out _).mono ?_; rintro e w' ⟨rfl, rfl⟩
  go_wp2_with fail
  go_ret
  exact ⟨rfl, rfl⟩
theorem isRight_calls (t v : Int) (w : World) :
    Calls Try.prog 76 #[.agg #[.int .i64 t, .int .i64 v]] w fun e w' => e = .returned (.bool (decide (isCell t v))) ∧ Below w.heap.size w w' := by
  by_cases ht : isTm t
  · have D := Lib.hid (fun w => inTime_yes t w ht)
    by_cases hv : isVal v
    · have E := Lib.hid (fun w => isValue_yes v w hv)
      rw [decide_eq_true (show isCell t v from ⟨ht, hv⟩)]
      clear ht hv
      go_enter Try.func76, Try.ntmps76
      go_wp2_with fail
      refine (D.out _).mono ?_; rintro e w' ⟨rfl, rfl⟩
      go_wp2_with fail
      refine (E.out _).mono ?_; rintro e w' ⟨rfl, rfl⟩
      go_wp2_with fail
      go_ret
      exact ⟨rfl, (Below.refl _ _).alloc (Nat.le_refl _) _⟩
    · have E := Lib.hid (fun w => isValue_no v w hv)
      rw [decide_eq_false (show ¬ isCell t v from fun h => hv h.2)]
      clear ht hv
      go_enter Try.func76, Try.ntmps76
      go_wp2_with fail
      refine (D.out _).mono ?_; rintro e w' ⟨rfl, rfl⟩
      go_wp2_with fail
      refine (E.out _).mono ?_; rintro e w' ⟨rfl, rfl⟩
      go_wp2_with fail
      go_ret
      exact ⟨rfl, (Below.refl _ _).alloc (Nat.le_refl _) _⟩
  · have D := Lib.hid (fun w => inTime_no t w ht)
    rw [decide_eq_false (show ¬ isCell t v from fun h => ht h.1)]
    clear ht
    go_enter Try.func76, Try.ntmps76
    go_wp2_with fail
    refine (D.out _).mono ?_; rintro e w' ⟨rfl, rfl⟩
    go_wp2_with fail
    go_ret
    exact ⟨rfl, (Below.refl _ _).alloc (Nat.le_refl _) _⟩
theorem timedOf_calls (t v : Int) (w : World) :
    Calls Try.prog 75 #[.agg #[.int .i64 t, .int .i64 v]] w fun e w' => e = .returned (.agg #[.int .i64 t, .int .i64 v]) ∧ Below w.heap.size w w' := by
  go_enter Try.func75, Try.ntmps75
  go_wp2_with fail
  exact bodyPost_ret (v := .agg #[.int .i64 t, .int .i64 v]) (by simp [results, Try.results75, go_sem]) rfl ⟨rfl, ((Below.refl _ _).alloc (Nat.le_refl _) _).alloc (by simp) _⟩
end Go.Proofs.Ytgaecedhkbneaaa.Mx
namespace Go.Proofs.Ytgaecedhkbneaaa.Mx
open Go.ChangeShapes Go.WideShapes Go.ChangeAt Go.RowKit
set_option linter.unusedVariables false
theorem implCellOk_calls (t v : Int) (w : World) :
    Calls Try.prog 65 #[.agg #[.int .i64 t, .int .i64 v]] w fun e w' => e = .returned (.bool (decide (isCell t v))) ∧ Below w.heap.size w w' := by
  have C := Lib.hid (fun w => timedOf_calls t v w)
  have D := Lib.hid (fun w => isRight_calls t v w)
  generalize decide (isCell t v) = b at D
  go_enter Try.func65, Try.ntmps65
  go_wp2_with fail
  refine (C.out _).mono ?_; rintro e w1 ⟨rfl, b1⟩
  have B1 := Lib.hid (((Below.refl w.heap.size w).alloc (Nat.le_refl _) _).trans (b1.mono (by simp)))
  clear b1
  go_wp2_with fail
  refine (D.out _).mono ?_; rintro e w2 ⟨rfl, b2⟩
  have B2 := Lib.hid (B1.out.trans (b2.mono B1.out.size))
  clear b2
  go_wp2_with fail
  go_ret
  exact ⟨rfl, B2.out⟩
theorem isNoCell_calls (t v : Int) (w : World) :
    Calls Try.prog 43 #[.agg #[.int .i64 t, .int .i64 v]] w fun e w' => e = .returned (.bool (!decide (isCell t v))) ∧ Below w.heap.size w w' := by
  have K0 := Lib.hid (show Kept w [(w.heap.size, 75, #[.int .i64 t, .int .i64 v])] _ from (Kept.refl w).put1 _ _ #[.int .i64 t, .int .i64 v] rfl)
  have D := Lib.hid (fun w => implCellOk_calls t v w)
  generalize decide (isCell t v) = b at D
  go_enter Try.func43, Try.ntmps43
  have k0 := K0.out
  clear K0
  obtain ⟨kc0, kf0, -⟩ := k0.rd
  have K0 := Lib.hid k0
  clear k0
  go_wp2_with fail
  refine (D.out _).mono ?_; rintro e w1 ⟨rfl, b1⟩
  have K1 := Lib.hid (K0.out.below b1)
  clear b1
  go_wp2_with fail
  go_ret
  exact ⟨rfl, K1.out.1⟩
open Classical in
noncomputable def upB (L : List Ce) : Bool := decide (UpToCell L L.length)
open Classical in
theorem upB_yes {L : List Ce} (h : UpToCell L L.length) : upB L = true := by unfold upB; exact decide_eq_true h
open Classical in
theorem upB_no {L : List Ce} (h : ¬ UpToCell L L.length) : upB L = false := by unfold upB; exact decide_eq_false h
theorem cells_index (A : Option Addr) (L : List Ce) (cap : Nat) (w : World) (hn : L.length ≤ maxLen) (hA : Cls w w.heap.size A L) :
    Calls Try.prog 64 #[.slice A L.length cap, .func (.func 43) #[] #[]] w fun e w' => (∃ i : Int, e = .returned (.int .i64 i) ∧ decide (0 ≤ i) = !upB L) ∧ Below w.heap.size w w' := by
  unfold maxLen at hn
  have C := Lib.hid isNoCell_calls
  have HA := Lib.hid hA
  clear hA
  go_enter Try.func64, Try.ntmps64
  go_wp2_with fail
  go_loopw [8] (fun i wr => ∃ k : Nat, k ≤ L.length ∧ i = .int .i64 k ∧ UpToCell L k ∧ Below w.heap.size w wr) (fun i _ => L.length - (intOf i).toNat)
  case atStart => exact ⟨0, Nat.zero_le _, rfl, fun i hi => absurd hi (by omega), Below.refl _ _⟩
  case round =>
    obtain ⟨k, hk, rfl, hup, hz⟩ := hrel
    have HU := Lib.hid hup
    have HZ := Lib.hid hz
    clear hup
    by_cases hlt : k < L.length
    · obtain ⟨b, off, rfl, hb, hc⟩ := HA.out.at_ hlt
      have hlt' : (k : Int) < L.length := by omega
      have hk0 : (0 : Int) ≤ k := by omega
      obtain ⟨c0, c1⟩ := hc.below hz hb
      clear hz hc
      by_cases hok : isCell (L.getD k default).1 (L.getD k default).2
      · have NX := Lib.hid (show UpToCell L (k + 1) from fun i hi => by
          rcases Nat.lt_or_ge i k with h | h
          · exact HU.out i h
          · obtain rfl : i = k := by omega
            exact hok)
        have TB := Lib.hid (C.out (L.getD k default).1 (L.getD k default).2)
        rw [decide_eq_true hok] at TB
        clear hok HU
        generalize L.getD k default = t at TB c0 c1
        go_wp2_with fail
        refine (TB.out _).mono ?_; rintro e w1 ⟨rfl, b1⟩
        have H1 := Lib.hid (HZ.out.trans (b1.mono HZ.out.size))
        clear b1 c0 c1
        go_wp2_with fail
        go_roundw
        case rel => exact ⟨k + 1, by omega, by go_num, NX.out, H1.out⟩
        case measure => simp [intOf]; omega
      · have HX := Lib.hid (show decide ((0 : Int) ≤ k) = !upB L by rw [decide_eq_true hk0, upB_no (fun h => hok (h k hlt))]; rfl)
        have TB := Lib.hid (C.out (L.getD k default).1 (L.getD k default).2)
        rw [decide_eq_false hok] at TB
        clear hok HU
        generalize L.getD k default = t at TB c0 c1
        go_wp2_with fail
        refine (TB.out _).mono ?_; rintro e w1 ⟨rfl, b1⟩
        have H1 := Lib.hid (HZ.out.trans (b1.mono HZ.out.size))
        clear b1 c0 c1
        go_wp2_with fail
        go_ret
        exact ⟨⟨_, rfl, HX.out⟩, H1.out⟩
    · have hk' : k = L.length := by omega
      subst hk'
      have HX := Lib.hid (show decide ((0 : Int) ≤ -1) = !upB L by rw [upB_yes HU.out]; rfl)
      clear HU hz
      go_wp2_with fail
      go_ret
      exact ⟨⟨_, rfl, HX.out⟩, HZ.out⟩
theorem cells_contains (A : Option Addr) (L : List Ce) (cap : Nat) (w : World) (hn : L.length ≤ maxLen) (hA : Cls w w.heap.size A L) :
    Calls Try.prog 42 #[.slice A L.length cap, .func (.func 43) #[] #[]] w fun e w' => e = .returned (.bool (!upB L)) ∧ Below w.heap.size w w' := by
  have C := Lib.hid (cells_index A L cap w hn hA)
  generalize (!upB L) = b at C
  clear hA
  unfold maxLen at hn
  go_enter Try.func42, Try.ntmps42
  go_wp2_with fail
  refine C.out.mono ?_; rintro e w1 ⟨⟨i, rfl, hi⟩, b1⟩
  have B1 := Lib.hid b1
  clear b1 C
  by_cases h0 : 0 ≤ i
  · rw [decide_eq_true h0] at hi
    subst hi
    go_wp2_with fail
    go_ret
    exact ⟨rfl, B1.out⟩
  · rw [decide_eq_false h0] at hi
    subst hi
    have hneg : decide (0 ≤ i) = false := decide_eq_false h0
    clear h0
    go_wp2_with fail
    go_ret
    exact ⟨by rw [← hneg]; rfl, B1.out⟩
set_option maxRecDepth 20000 in
theorem implCells_calls (key : Int) (A C : Option Addr) (l : List Int) (cap : Nat) (hcap : l.length ≤ cap) (L : List Ce) (cap2 : Nat) (w : World) (hn : l.length ≤ maxLen) (hA : Ints w .i64 w.heap.size A l) (hN : L.length ≤ maxLen) (hC : Cls w w.heap.size C L) :
    Calls Try.prog 22 #[.agg #[.int .i64 key, .slice A l.length cap], .slice C L.length cap2] w fun e w' => e = .returned (.bool (cellsB key l L)) ∧ Below w.heap.size w w' := by
  have K0 := Lib.hid (show Kept w [(w.heap.size, 32, #[.int .i64 key, .slice A l.length cap])] _ from (Kept.refl w).put1 _ _ #[.int .i64 key, .slice A l.length cap] rfl)
  have PO := Lib.hid (fun (u : World) (hb : Below w.heap.size w u) => sectorsOf_calls key A l cap u hn hcap ((hA.below hb (Nat.le_refl _)).more hb.size))
  have CO := Lib.hid (fun (u : World) (hb : Below w.heap.size w u) => cells_contains C L cap2 u hN ((hC.below hb (Nat.le_refl _)).more hb.size))
  clear hA hC hn hcap
  unfold maxLen at hN
  by_cases hs : (L.length : Int) = sectorsOf key l
  · have hbl : ((L.length : Int) == sectorsOf key l) = true := beq_iff_eq.2 hs
    have HX := Lib.hid (show upB L = cellsB key l L from by
      by_cases h : UpToCell L L.length
      · rw [upB_yes h, cellsB_yes (show cellsOk key l L from ⟨h, hs⟩)]
      · rw [upB_no h, cellsB_no (show ¬ cellsOk key l L from fun e => h e.1)])
    generalize upB L = b at CO HX
    generalize cellsB key l L = z at HX ⊢
    obtain rfl := HX.out
    generalize sectorsOf key l = ss at PO hbl
    clear hs HX
    go_enter Try.func22, Try.ntmps22
    go_wp2_with fail
    refine (PO.out _ K0.out.1).mono ?_; rintro e uz1 ⟨rfl, bz2⟩
    have hz3 := K0.out.below bz2
    clear bz2
    obtain ⟨kc0, kf0, -⟩ := hz3.rd
    go_wp2_with fail
    refine (CO.out _ hz3.1).mono ?_; rintro e uz4 ⟨rfl, bz5⟩
    have hz6 := hz3.below bz5
    clear bz5 hz3 kc0 kf0
    obtain ⟨kc0, kf0, -⟩ := hz6.rd
    go_wp2_with fail
    go_ret
    exact ⟨by simp, hz6.1⟩
  · have hbl : ((L.length : Int) == sectorsOf key l) = false := beq_false_of_ne hs
    have HX := Lib.hid (cellsB_no (show ¬ cellsOk key l L from fun h => hs h.2))
    generalize sectorsOf key l = ss at PO hbl
    clear hs CO
    go_enter Try.func22, Try.ntmps22
    go_wp2_with fail
    refine (PO.out _ K0.out.1).mono ?_; rintro e uz1 ⟨rfl, bz2⟩
    have hz3 := K0.out.below bz2
    clear bz2
    obtain ⟨kc0, kf0, -⟩ := hz3.rd
    go_wp2_with fail
    go_ret
    exact ⟨by rw [HX.out]; rfl, hz3.1⟩
end Go.Proofs.Ytgaecedhkbneaaa.Mx
namespace Go.Proofs.Ytgaecedhkbneaaa.Mx
open Go.ChangeShapes Go.WideShapes Go.ChangeAt Go.RowKit
set_option linter.unusedVariables false
end Go.Proofs.Ytgaecedhkbneaaa.Mx

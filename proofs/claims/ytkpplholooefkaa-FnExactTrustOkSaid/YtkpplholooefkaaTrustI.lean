/- WHAT THE CODE'S TrustOk AND Behind ANSWER, at every argument; nothing that was there is written. -/
import Derived.Test.YtkpplholooefkaaTrustL
import Derived.Test.YtkpplholooefkaaBehindL
import Derived.Test.YtkpplholooefkaaPlanB
import Derived.Test.YtkpplholooefkaaRd
namespace Go.Proofs.Ytkpplholooefkaa.Mx
open Go.ChangeShapes Go.WideShapes Go.ChangeAt Go.RowKit
set_option linter.unusedVariables false

/-- isEpoch. -/
theorem isEpoch_yes (e_ : Int) (w : World) (h : 0 ≤ e_ ∧ e_ ≤ 1000) : Calls Try.prog 45 #[.int .i64 e_] w fun e w' => e = .returned (.bool true) ∧ w = w' := by
  obtain ⟨h0, h1⟩ := h
  go_enter Try.func45, Try.ntmps45
  go_wp2_with fail
  go_ret
  exact ⟨rfl, rfl⟩
theorem isEpoch_no (e_ : Int) (w : World) (h : ¬ (0 ≤ e_ ∧ e_ ≤ 1000)) : Calls Try.prog 45 #[.int .i64 e_] w fun e w' => e = .returned (.bool false) ∧ w = w' := by
  by_cases h0 : 0 ≤ e_
  · have h1 : ¬ e_ ≤ 1000 := by omega
    have hd : decide (e_ ≤ 1000) = false := decide_eq_false h1
    clear h
    go_enter Try.func45, Try.ntmps45
    go_wp2_with fail
    go_ret
    exact ⟨rfl, rfl⟩
  · have hd : decide (0 ≤ e_) = false := decide_eq_false h0
    clear h
    go_enter Try.func45, Try.ntmps45
    go_wp2_with fail
    go_ret
    exact ⟨rfl, rfl⟩
/-- isSum, as a proposition of its own. -/
theorem isSumP_yes (s : Int) (w : World) (h : isSumP s) : Calls Try.prog 55 #[.int .i64 s] w fun e w' => e = .returned (.bool true) ∧ w = w' := isSum_yes s w h.1 h.2
theorem isSumP_no (s : Int) (w : World) (h : ¬ isSumP s) : Calls Try.prog 55 #[.int .i64 s] w fun e w' => e = .returned (.bool false) ∧ w = w' := isSum_no s w (by unfold isSumP at h; omega)
/-- What is asked of the four sums. -/
def sumsP (t2 t3 t4 t5 t6 : Int) : Prop := (t2 = 0 → t5 = 0 ∧ t6 = 0) ∧ isSumP t3 ∧ isSumP t4 ∧ isSumP t5 ∧ isSumP t6
instance (t2 t3 t4 t5 t6 : Int) : Decidable (sumsP t2 t3 t4 t5 t6) := inferInstanceAs (Decidable (_ ∧ _))

set_option maxRecDepth 20000 in
set_option maxHeartbeats 4000000 in
/-- (*Trust).sumsOk. -/
theorem sumsOk_calls (p : Nat) (t0 t1 t2 t3 t4 t5 t6 : Int) (t7 : Bool) (w : World) (hp : CellsAt w p 31 #[.int .i64 t0, .int .i64 t1, .int .i64 t2, .int .i64 t3, .int .i64 t4, .int .i64 t5, .int .i64 t6, .bool t7]) :
    Calls Try.prog 46 #[.pointer (some ⟨p, 0, none⟩)] w fun e w' => e = .returned (.bool (decide (sumsP t2 t3 t4 t5 t6))) ∧ w = w' := by
  have kc : ∀ i, w.cell? ⟨p, i, none⟩ = #[.int .i64 t0, .int .i64 t1, .int .i64 t2, .int .i64 t3, .int .i64 t4, .int .i64 t5, .int .i64 t6, .bool t7][i]? := hp.cell
  clear hp
  by_cases h2 : t2 = 0
  · subst h2
    by_cases h5 : t5 = 0
    · subst h5
      by_cases h6 : t6 = 0
      · subst h6
        have s5 := Lib.hid (show isSumP 0 by decide)
        have s6 := Lib.hid (show isSumP 0 by decide)
        have C5 := Lib.hid (fun w => isSumP_yes 0 w (by decide))
        by_cases s3_ : isSumP t3
        · have s3 := Lib.hid s3_; have C3 := Lib.hid (fun w => isSumP_yes t3 w s3_); clear s3_
          by_cases s4_ : isSumP t4
          · have s4 := Lib.hid s4_; have C4 := Lib.hid (fun w => isSumP_yes t4 w s4_); clear s4_
            rw [decide_eq_true (show sumsP _ _ _ _ _ from ⟨fun _ => ⟨rfl, rfl⟩, s3.out, s4.out, s5.out, s6.out⟩)]
            go_enter Try.func46, Try.ntmps46
            go_wp2_with fail
            refine (C3.out _).mono ?_; rintro e w' ⟨rfl, rfl⟩
            go_wp2_with fail
            refine (C4.out _).mono ?_; rintro e w' ⟨rfl, rfl⟩
            go_wp2_with fail
            refine (C5.out _).mono ?_; rintro e w' ⟨rfl, rfl⟩
            go_wp2_with fail
            refine (C5.out _).mono ?_; rintro e w' ⟨rfl, rfl⟩
            go_wp2_with fail
            go_ret
            exact ⟨rfl, rfl⟩
          · have s4 := Lib.hid s4_; have C4 := Lib.hid (fun w => isSumP_no t4 w s4_); clear s4_
            rw [decide_eq_false (show ¬ sumsP _ _ _ _ _ from fun h => s4.out h.2.2.1)]
            go_enter Try.func46, Try.ntmps46
            go_wp2_with fail
            refine (C3.out _).mono ?_; rintro e w' ⟨rfl, rfl⟩
            go_wp2_with fail
            refine (C4.out _).mono ?_; rintro e w' ⟨rfl, rfl⟩
            go_wp2_with fail
            go_ret
            exact ⟨rfl, rfl⟩
        · have s3 := Lib.hid s3_; have C3 := Lib.hid (fun w => isSumP_no t3 w s3_); clear s3_
          rw [decide_eq_false (show ¬ sumsP _ _ _ _ _ from fun h => s3.out h.2.1)]
          go_enter Try.func46, Try.ntmps46
          go_wp2_with fail
          refine (C3.out _).mono ?_; rintro e w' ⟨rfl, rfl⟩
          go_wp2_with fail
          go_ret
          exact ⟨rfl, rfl⟩
      · have n6 : (t6 != 0) = true := by simpa using h6
        have N6 := Lib.hid h6
        clear h6
        rw [decide_eq_false (show ¬ sumsP _ _ _ _ _ from fun h => N6.out (h.1 rfl).2)]
        go_enter Try.func46, Try.ntmps46
        go_wp2_with fail
        go_ret
        exact ⟨rfl, rfl⟩
    · have n5 : (t5 != 0) = true := by simpa using h5
      have N5 := Lib.hid h5
      clear h5
      rw [decide_eq_false (show ¬ sumsP _ _ _ _ _ from fun h => N5.out (h.1 rfl).1)]
      go_enter Try.func46, Try.ntmps46
      go_wp2_with fail
      go_ret
      exact ⟨rfl, rfl⟩
  · have n2 : (t2 == 0) = false := by simpa using h2
    have N2 := Lib.hid h2
    clear h2
    by_cases s3_ : isSumP t3
    · have s3 := Lib.hid s3_; have C3 := Lib.hid (fun w => isSumP_yes t3 w s3_); clear s3_
      by_cases s4_ : isSumP t4
      · have s4 := Lib.hid s4_; have C4 := Lib.hid (fun w => isSumP_yes t4 w s4_); clear s4_
        by_cases s5_ : isSumP t5
        · have s5 := Lib.hid s5_; have C5 := Lib.hid (fun w => isSumP_yes t5 w s5_); clear s5_
          by_cases s6_ : isSumP t6
          · have s6 := Lib.hid s6_; have C6 := Lib.hid (fun w => isSumP_yes t6 w s6_); clear s6_
            rw [decide_eq_true (show sumsP _ _ _ _ _ from ⟨fun h => absurd h N2.out, s3.out, s4.out, s5.out, s6.out⟩)]
            go_enter Try.func46, Try.ntmps46
            go_wp2_with fail
            refine (C3.out _).mono ?_; rintro e w' ⟨rfl, rfl⟩
            go_wp2_with fail
            refine (C4.out _).mono ?_; rintro e w' ⟨rfl, rfl⟩
            go_wp2_with fail
            refine (C5.out _).mono ?_; rintro e w' ⟨rfl, rfl⟩
            go_wp2_with fail
            refine (C6.out _).mono ?_; rintro e w' ⟨rfl, rfl⟩
            go_wp2_with fail
            go_ret
            exact ⟨rfl, rfl⟩
          · have s6 := Lib.hid s6_; have C6 := Lib.hid (fun w => isSumP_no t6 w s6_); clear s6_
            rw [decide_eq_false (show ¬ sumsP _ _ _ _ _ from fun h => s6.out h.2.2.2.2)]
            go_enter Try.func46, Try.ntmps46
            go_wp2_with fail
            refine (C3.out _).mono ?_; rintro e w' ⟨rfl, rfl⟩
            go_wp2_with fail
            refine (C4.out _).mono ?_; rintro e w' ⟨rfl, rfl⟩
            go_wp2_with fail
            refine (C5.out _).mono ?_; rintro e w' ⟨rfl, rfl⟩
            go_wp2_with fail
            refine (C6.out _).mono ?_; rintro e w' ⟨rfl, rfl⟩
            go_wp2_with fail
            go_ret
            exact ⟨rfl, rfl⟩
        · have s5 := Lib.hid s5_; have C5 := Lib.hid (fun w => isSumP_no t5 w s5_); clear s5_
          rw [decide_eq_false (show ¬ sumsP _ _ _ _ _ from fun h => s5.out h.2.2.2.1)]
          go_enter Try.func46, Try.ntmps46
          go_wp2_with fail
          refine (C3.out _).mono ?_; rintro e w' ⟨rfl, rfl⟩
          go_wp2_with fail
          refine (C4.out _).mono ?_; rintro e w' ⟨rfl, rfl⟩
          go_wp2_with fail
          refine (C5.out _).mono ?_; rintro e w' ⟨rfl, rfl⟩
          go_wp2_with fail
          go_ret
          exact ⟨rfl, rfl⟩
      · have s4 := Lib.hid s4_; have C4 := Lib.hid (fun w => isSumP_no t4 w s4_); clear s4_
        rw [decide_eq_false (show ¬ sumsP _ _ _ _ _ from fun h => s4.out h.2.2.1)]
        go_enter Try.func46, Try.ntmps46
        go_wp2_with fail
        refine (C3.out _).mono ?_; rintro e w' ⟨rfl, rfl⟩
        go_wp2_with fail
        refine (C4.out _).mono ?_; rintro e w' ⟨rfl, rfl⟩
        go_wp2_with fail
        go_ret
        exact ⟨rfl, rfl⟩
    · have s3 := Lib.hid s3_; have C3 := Lib.hid (fun w => isSumP_no t3 w s3_); clear s3_
      rw [decide_eq_false (show ¬ sumsP _ _ _ _ _ from fun h => s3.out h.2.1)]
      go_enter Try.func46, Try.ntmps46
      go_wp2_with fail
      refine (C3.out _).mono ?_; rintro e w' ⟨rfl, rfl⟩
      go_wp2_with fail
      go_ret
      exact ⟨rfl, rfl⟩
/-- What is asked of a trust, of a region of n sectors. -/
def suitsP (n t0 t1 t2 t3 t4 t5 t6 : Int) : Prop := isTm t0 ∧ (0 ≤ t1 ∧ t1 ≤ 1000) ∧ 0 ≤ t2 ∧ t2 < n ∧ sumsP t2 t3 t4 t5 t6
instance (n t0 t1 t2 t3 t4 t5 t6 : Int) : Decidable (suitsP n t0 t1 t2 t3 t4 t5 t6) := inferInstanceAs (Decidable (_ ∧ _))

set_option maxRecDepth 20000 in
set_option maxHeartbeats 4000000 in
/-- (*Trust).suits. -/
theorem suits_calls (p : Nat) (n t0 t1 t2 t3 t4 t5 t6 : Int) (t7 : Bool) (w : World) (hp : CellsAt w p 31 #[.int .i64 t0, .int .i64 t1, .int .i64 t2, .int .i64 t3, .int .i64 t4, .int .i64 t5, .int .i64 t6, .bool t7]) :
    Calls Try.prog 28 #[.pointer (some ⟨p, 0, none⟩), .int .i64 n] w fun e w' => e = .returned (.bool (decide (suitsP n t0 t1 t2 t3 t4 t5 t6))) ∧ w = w' := by
  have kc : ∀ i, w.cell? ⟨p, i, none⟩ = #[.int .i64 t0, .int .i64 t1, .int .i64 t2, .int .i64 t3, .int .i64 t4, .int .i64 t5, .int .i64 t6, .bool t7][i]? := hp.cell
  by_cases h0 : isTm t0
  · have H0 := Lib.hid h0; have CT := Lib.hid (fun w => isTime_yes t0 w h0); clear h0
    by_cases h1 : 0 ≤ t1 ∧ t1 ≤ 1000
    · have H1 := Lib.hid h1; have CE := Lib.hid (fun w => isEpoch_yes t1 w h1); clear h1
      by_cases h2 : 0 ≤ t2
      · by_cases h3 : t2 < n
        · have hd0 : decide (0 ≤ t2) = true := decide_eq_true h2
          have hd1 : decide (t2 < n) = true := decide_eq_true h3
          have H2 := Lib.hid h2; have H3 := Lib.hid h3
          have CS := Lib.hid (fun u (h : CellsAt u p 31 #[.int .i64 t0, .int .i64 t1, .int .i64 t2, .int .i64 t3, .int .i64 t4, .int .i64 t5, .int .i64 t6, .bool t7]) => sumsOk_calls p t0 t1 t2 t3 t4 t5 t6 t7 u h)
          have HP := Lib.hid hp
          clear hp
          by_cases h4 : sumsP t2 t3 t4 t5 t6
          · rw [decide_eq_true h4] at CS
            have H4 := Lib.hid h4
            clear h4
            rw [decide_eq_true (show suitsP _ _ _ _ _ _ _ _ from ⟨H0.out, H1.out, H2.out, H3.out, H4.out⟩)]
            go_enter Try.func28, Try.ntmps28
            go_wp2_with fail
            refine (CT.out _).mono ?_; rintro e w' ⟨rfl, rfl⟩
            go_wp2_with fail
            refine (CE.out _).mono ?_; rintro e w' ⟨rfl, rfl⟩
            go_wp2_with fail
            refine (CS.out _ HP.out).mono ?_; rintro e w' ⟨rfl, rfl⟩
            go_wp2_with fail
            go_ret
            exact ⟨rfl, rfl⟩
          · rw [decide_eq_false h4] at CS
            have H4 := Lib.hid h4
            clear h4
            rw [decide_eq_false (show ¬ suitsP _ _ _ _ _ _ _ _ from fun h => H4.out h.2.2.2.2)]
            go_enter Try.func28, Try.ntmps28
            go_wp2_with fail
            refine (CT.out _).mono ?_; rintro e w' ⟨rfl, rfl⟩
            go_wp2_with fail
            refine (CE.out _).mono ?_; rintro e w' ⟨rfl, rfl⟩
            go_wp2_with fail
            refine (CS.out _ HP.out).mono ?_; rintro e w' ⟨rfl, rfl⟩
            go_wp2_with fail
            go_ret
            exact ⟨rfl, rfl⟩
        · have hd0 : decide (0 ≤ t2) = true := decide_eq_true h2
          have hd1 : decide (t2 < n) = false := decide_eq_false h3
          have H3 := Lib.hid h3
          rw [decide_eq_false (show ¬ suitsP _ _ _ _ _ _ _ _ from fun h => H3.out h.2.2.2.1)]
          go_enter Try.func28, Try.ntmps28
          go_wp2_with fail
          refine (CT.out _).mono ?_; rintro e w' ⟨rfl, rfl⟩
          go_wp2_with fail
          refine (CE.out _).mono ?_; rintro e w' ⟨rfl, rfl⟩
          go_wp2_with fail
          go_ret
          exact ⟨rfl, rfl⟩
      · have hd0 : decide (0 ≤ t2) = false := decide_eq_false h2
        have H3 := Lib.hid h2
        rw [decide_eq_false (show ¬ suitsP _ _ _ _ _ _ _ _ from fun h => H3.out h.2.2.1)]
        go_enter Try.func28, Try.ntmps28
        go_wp2_with fail
        refine (CT.out _).mono ?_; rintro e w' ⟨rfl, rfl⟩
        go_wp2_with fail
        refine (CE.out _).mono ?_; rintro e w' ⟨rfl, rfl⟩
        go_wp2_with fail
        go_ret
        exact ⟨rfl, rfl⟩
    · have H1 := Lib.hid h1; have CE := Lib.hid (fun w => isEpoch_no t1 w h1); clear h1
      rw [decide_eq_false (show ¬ suitsP _ _ _ _ _ _ _ _ from fun h => H1.out h.2.1)]
      go_enter Try.func28, Try.ntmps28
      go_wp2_with fail
      refine (CT.out _).mono ?_; rintro e w' ⟨rfl, rfl⟩
      go_wp2_with fail
      refine (CE.out _).mono ?_; rintro e w' ⟨rfl, rfl⟩
      go_wp2_with fail
      go_ret
      exact ⟨rfl, rfl⟩
  · have H0 := Lib.hid h0; have CT := Lib.hid (fun w => isTime_no t0 w h0); clear h0
    rw [decide_eq_false (show ¬ suitsP _ _ _ _ _ _ _ _ from fun h => H0.out h.1)]
    go_enter Try.func28, Try.ntmps28
    go_wp2_with fail
    refine (CT.out _).mono ?_; rintro e w' ⟨rfl, rfl⟩
    go_wp2_with fail
    go_ret
    exact ⟨rfl, rfl⟩

set_option maxRecDepth 20000 in
set_option maxHeartbeats 4000000 in
/-- impl.TrustOk. -/
theorem ansTrustOk : AnsTrustOk := by
  intro key x A l t0 t1 t2 t3 t4 t5 t6 t7 w hn hA hk hx ht
  clear ht hk hx
  have hm : l.length ≤ maxLen := by unfold maxLen; omega
  have F0 := fun (u : World) (hb : Below w.heap.size w u) => firstOf_calls key x A l l.length u hm (Nat.le_refl _) ((hA.below hb (Nat.le_refl _)).more hb.size)
  by_cases hf : 0 ≤ firstOf key l x
  · have hpr : planOk key l ∧ 0 ≤ x ∧ x < l.length := by
      refine Classical.byContradiction fun h => ?_
      unfold firstOf at hf
      rw [if_neg h] at hf
      omega
    obtain ⟨r, rfl⟩ : ∃ r : Nat, x = r := ⟨x.toNat, by omega⟩
    have hr : r < l.length := by omega
    obtain ⟨bb, oo, rfl, hbb, hcc⟩ := hA r hr
    have K0 := Lib.hid (show Kept w [(w.heap.size + 1, 31, #[.int .i64 t0, .int .i64 t1, .int .i64 t2, .int .i64 t3, .int .i64 t4, .int .i64 t5, .int .i64 t6, .bool t7]), (w.heap.size, 29, #[.int .i64 key, .slice (some ⟨bb, oo, none⟩) l.length l.length])] _ from (((Kept.refl w).put1 _ _ #[.int .i64 key, .slice (some ⟨bb, oo, none⟩) l.length l.length] rfl).put1 _ _ #[.int .i64 t0, .int .i64 t1, .int .i64 t2, .int .i64 t3, .int .i64 t4, .int .i64 t5, .int .i64 t6, .bool t7] (by simp)))
    have hd : decide (0 ≤ firstOf key l (r : Int)) = true := decide_eq_true hf
    have hi1 : (r : Int) < l.length := by omega
    have hi0 : (0 : Int) ≤ r := by omega
    have HC := Lib.hid (fun (u : World) (hb : Below w.heap.size w u) => (hb.cell (p := ⟨bb, oo + r, none⟩) hbb).trans hcc)
    have ev : l.getD ((r : Int)).toNat 0 = l.getD r 0 := by rw [Int.toNat_natCast]
    have HT := Lib.hid (show trustB key l (r : Int) ⟨t0, t1, t2, t3, t4, t5, t6, t7⟩ = decide (suitsP (l.getD r 0) t0 t1 t2 t3 t4 t5 t6) from by
      unfold trustB
      congr 1
      unfold trustOk suitsP sumsP
      rw [ev]
      simp only [eq_iff_iff]
      constructor
      · rintro ⟨_, _, a, b, ⟨c, d⟩, e, f⟩; exact ⟨a, b, c, by omega, e, f⟩
      · rintro ⟨a, b, c, d, e, f⟩; exact ⟨hpr.1, hpr.2, a, b, ⟨c, by omega⟩, e, f⟩)
    have SC := Lib.hid (fun u (h : CellsAt u (w.heap.size + 1) 31 #[.int .i64 t0, .int .i64 t1, .int .i64 t2, .int .i64 t3, .int .i64 t4, .int .i64 t5, .int .i64 t6, .bool t7]) => suits_calls (w.heap.size + 1) (l.getD r 0) t0 t1 t2 t3 t4 t5 t6 t7 u h)
    have F := Lib.hid F0
    generalize firstOf key l (r : Int) = f at F hd
    generalize l.getD r 0 = v at HC SC HT
    generalize decide (suitsP v t0 t1 t2 t3 t4 t5 t6) = z at SC HT
    clear hf hpr hr hcc ev hA F0 hm
    go_enter Try.func10, Try.ntmps10
    go_wp2_with fail
    refine (F.out _ K0.out.1).mono ?_; rintro e u1 ⟨rfl, hb⟩
    have hk1 := K0.out.below hb
    have cc := HC.out _ hk1.1
    have kz := hk1.at_ (p := w.heap.size + 1) (t := 31) (cs := #[.int .i64 t0, .int .i64 t1, .int .i64 t2, .int .i64 t3, .int .i64 t4, .int .i64 t5, .int .i64 t6, .bool t7]) (by simp)
    have KZ := Lib.hid kz
    have BL := Lib.hid hk1.1
    obtain ⟨kc0, kf0, kc1, kf1, -⟩ := hk1.rd
    clear hb hk1 kz F K0
    go_wp2_with fail
    refine (SC.out _ KZ.out).mono ?_; rintro e u2 ⟨rfl, rfl⟩
    go_wp2_with fail
    go_ret
    exact ⟨by rw [HT.out]; rfl, BL.out⟩
  · have K0 := Lib.hid (show Kept w [(w.heap.size + 1, 31, #[.int .i64 t0, .int .i64 t1, .int .i64 t2, .int .i64 t3, .int .i64 t4, .int .i64 t5, .int .i64 t6, .bool t7]), (w.heap.size, 29, #[.int .i64 key, .slice A l.length l.length])] _ from (((Kept.refl w).put1 _ _ #[.int .i64 key, .slice A l.length l.length] rfl).put1 _ _ #[.int .i64 t0, .int .i64 t1, .int .i64 t2, .int .i64 t3, .int .i64 t4, .int .i64 t5, .int .i64 t6, .bool t7] (by simp)))
    have hd : decide (0 ≤ firstOf key l x) = false := decide_eq_false hf
    have HT := Lib.hid (show trustB key l x ⟨t0, t1, t2, t3, t4, t5, t6, t7⟩ = false from trustB_no (fun h => hf (by
      have hp := h.1; have hx := h.2.1
      unfold firstOf
      rw [if_pos ⟨hp, hx⟩]
      exact (upTo_bd hp.2.2.1 (k := x.toNat) (by omega)).1)))
    have F := Lib.hid F0
    generalize firstOf key l x = f at F hd
    clear hf hA F0 hm
    go_enter Try.func10, Try.ntmps10
    go_wp2_with fail
    refine (F.out _ K0.out.1).mono ?_; rintro e u1 ⟨rfl, hb⟩
    have BL := Lib.hid (K0.out.below hb).1
    clear hb F K0
    go_wp2_with fail
    go_ret
    exact ⟨by rw [HT.out]; rfl, BL.out⟩
end Go.Proofs.Ytkpplholooefkaa.Mx

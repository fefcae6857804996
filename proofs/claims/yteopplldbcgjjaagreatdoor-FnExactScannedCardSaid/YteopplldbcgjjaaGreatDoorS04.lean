import Derived.Test.YteopplldbcgjjaaGreatDoorS03
import Derived.Test.YteopplldbcgjjaaGreatDoorS01
import Derived.Deep.QuietTactic
import Derived.BigQuiet
import Derived.Deep.RegionHeld3
import Derived.Deep.CutRange
import Derived.Test.YteopplldbcgjjaaGreatDoorS02
namespace Go.Proofs.YteopplldbcgjjaaGreatDoor.Mx
open Go.ChangeShapes Go.WideShapes Go.ChangeAt Go.RowKit
set_option linter.unusedVariables false
def isCell (t v : Int) : Prop := isTm t ∧ isVal v
instance (t v : Int) : Decidable (isCell t v) := inferInstanceAs (Decidable (_ ∧ _))
def isKey (key : Int) : Prop := 1 ≤ key ∧ key ≤ 1000000
instance (key : Int) : Decidable (isKey key) := inferInstanceAs (Decidable (_ ∧ _))
noncomputable def cellOf (key a t v : Int) : Int × Int := if isKey key ∧ isTri a t v then (t, hiddenOf key a t v) else (0, 0)
noncomputable def valueIn (key a t v : Int) : Int := if isKey key ∧ isAt a ∧ isCell t v then shownOf key a t v else -1
def tripleIn (a t v : Int) : Int × Int × Int := if isTri a t v then (a, t, v) else (0, 0, 0)
theorem cellOf_yes {key a t v : Int} (hk : isKey key) (h : isTri a t v) : cellOf key a t v = (t, hiddenOf key a t v) := by unfold cellOf; rw [if_pos ⟨hk, h⟩]
theorem cellOf_no {key a t v : Int} (h : ¬ (isKey key ∧ isTri a t v)) : cellOf key a t v = (0, 0) := by unfold cellOf; rw [if_neg h]
theorem valueIn_yes {key a t v : Int} (hk : isKey key) (ha : isAt a) (h : isCell t v) : valueIn key a t v = shownOf key a t v := by unfold valueIn; rw [if_pos ⟨hk, ha, h⟩]
theorem valueIn_no {key a t v : Int} (h : ¬ (isKey key ∧ isAt a ∧ isCell t v)) : valueIn key a t v = -1 := by unfold valueIn; rw [if_neg h]
theorem tripleIn_yes {a t v : Int} (h : isTri a t v) : tripleIn a t v = (a, t, v) := by unfold tripleIn; rw [if_pos h]
theorem tripleIn_no {a t v : Int} (h : ¬ isTri a t v) : tripleIn a t v = (0, 0, 0) := by unfold tripleIn; rw [if_neg h]
theorem specCellOk_calls (t v : Int) (w : World) :
    Calls Tryz.prog 41 #[.agg #[.int .i64 t, .int .i64 v]] w fun e w' => e = .returned (.bool (decide (isCell t v))) ∧ Below w.heap.size w w' := by
  by_cases ht : isTm t
  · have D := Lib.hid (fun w => l3Time_yes t w ht)
    by_cases hv : isVal v
    · have E := Lib.hid (fun w => l2Value_yes v w hv)
      rw [decide_eq_true (show isCell t v from ⟨ht, hv⟩)]
      clear ht hv
      go_enter Tryz.func41, Tryz.ntmps41
      go_wp2_with fail
      refine (D.out _).mono ?_; rintro e w' ⟨rfl, rfl⟩
      go_wp2_with fail
      refine (E.out _).mono ?_; rintro e w' ⟨rfl, rfl⟩
      go_wp2_with fail
      go_ret
      exact ⟨rfl, (Below.refl _ _).alloc (Nat.le_refl _) _⟩
    · have E := Lib.hid (fun w => l2Value_no v w hv)
      rw [decide_eq_false (show ¬ isCell t v from fun h => hv h.2)]
      clear ht hv
      go_enter Tryz.func41, Tryz.ntmps41
      go_wp2_with fail
      refine (D.out _).mono ?_; rintro e w' ⟨rfl, rfl⟩
      go_wp2_with fail
      refine (E.out _).mono ?_; rintro e w' ⟨rfl, rfl⟩
      go_wp2_with fail
      go_ret
      exact ⟨rfl, (Below.refl _ _).alloc (Nat.le_refl _) _⟩
  · have D := Lib.hid (fun w => l3Time_no t w ht)
    rw [decide_eq_false (show ¬ isCell t v from fun h => ht h.1)]
    clear ht
    go_enter Tryz.func41, Tryz.ntmps41
    go_wp2_with fail
    refine (D.out _).mono ?_; rintro e w' ⟨rfl, rfl⟩
    go_wp2_with fail
    go_ret
    exact ⟨rfl, (Below.refl _ _).alloc (Nat.le_refl _) _⟩
theorem cell_end {w w1 : World} {r : Nat} {x y x0 y0 : Value} (hk : CellsAt w1 r 30 #[x0, y0]) (hb : Below w.heap.size w w1) (hr : w.heap.size ≤ r) :
    ∃ w4, (w1.setCell ⟨r, 0, none⟩ x).setCell ⟨r, 1, none⟩ y = w4 ∧ (w4.cell? ⟨r, 0, none⟩ = some x ∧ w4.cell? ⟨r, 1, none⟩ = some y) ∧ Below w.heap.size w w4 := by
  have h := (hk.set_ 0 x).set_ 1 y
  exact ⟨_, rfl, ⟨h.cell 0, h.cell 1⟩, (hb.setCell (p := ⟨r, 0, none⟩) hr x).setCell (p := ⟨r, 1, none⟩) hr y⟩
theorem specCellOf_calls (key a t v : Int) (w : World) :
    Calls Tryz.prog 44 #[.int .i64 key, .int .i64 a, .int .i64 t, .int .i64 v] w fun e w' => e = .returned (.agg #[.int .i64 (cellOf key a t v).1, .int .i64 (cellOf key a t v).2]) ∧ Below w.heap.size w w' := by
  have HK := Lib.hid (CellsAt.new w 30 #[.int .i64 0, .int .i64 0])
  by_cases hk : isKey key
  · have C := Lib.hid (fun w => l1Key_yes key w hk.1 hk.2)
    have D := Lib.hid (fun w => specTripleOk_calls a t v w)
    by_cases h : isTri a t v
    · rw [cellOf_yes hk h]
      rw [decide_eq_true h] at D
      have E := Lib.hid (fun w => specHidden_calls key a t v w h.i64.1 h.i64.2.1)
      generalize hiddenOf key a t v = z at E
      clear hk h
      go_enter Tryz.func44, Tryz.ntmps44
      go_wp2_with fail
      refine (C.out _).mono ?_; rintro e w' ⟨rfl, rfl⟩
      go_wp2_with fail
      refine (D.out _).mono ?_; rintro e w1 ⟨rfl, b1⟩
      have B1 := Lib.hid b1
      clear b1
      go_wp2_with fail
      refine (E.out _).mono ?_; rintro e w2 ⟨rfl, b2⟩
      have bb := B1.out.trans (b2.mono B1.out.size)
      have hk2 := HK.out.below bb (by simp)
      have r0 : w2.cell? ⟨w.heap.size, 0, none⟩ = some (.int .i64 0) := hk2.cell 0
      have r1 : w2.cell? ⟨w.heap.size, 1, none⟩ = some (.int .i64 0) := hk2.cell 1
      have f0 := hk2.frozen 0
      have f1 := hk2.frozen 1
      have H2 := Lib.hid hk2
      have B2 := Lib.hid (((Below.refl w.heap.size w).alloc (Nat.le_refl _) _).trans (bb.mono (by simp)))
      clear b2 bb hk2 B1
      go_wp2_with fail
      obtain ⟨w9, e9, ⟨d0, d1⟩, hb⟩ := cell_end (x := .int .i64 t) (y := .int .i64 z) H2.out B2.out (Nat.le_refl _)
      rw [e9]
      exact bodyPost_ret (v := .agg #[.int .i64 t, .int .i64 z]) (by simp [results, Tryz.results44, go_sem, d0, d1]) rfl ⟨rfl, hb⟩
    · rw [cellOf_no (fun h' => h h'.2)]
      rw [decide_eq_false h] at D
      clear hk h
      go_enter Tryz.func44, Tryz.ntmps44
      go_wp2_with fail
      refine (C.out _).mono ?_; rintro e w' ⟨rfl, rfl⟩
      go_wp2_with fail
      refine (D.out _).mono ?_; rintro e w2 ⟨rfl, b2⟩
      have hk2 := HK.out.below b2 (by simp)
      have r0 : w2.cell? ⟨w.heap.size, 0, none⟩ = some (.int .i64 0) := hk2.cell 0
      have r1 : w2.cell? ⟨w.heap.size, 1, none⟩ = some (.int .i64 0) := hk2.cell 1
      have f0 := hk2.frozen 0
      have f1 := hk2.frozen 1
      have H2 := Lib.hid hk2
      have B2 := Lib.hid (((Below.refl w.heap.size w).alloc (Nat.le_refl _) _).trans (b2.mono (by simp)))
      clear b2 hk2
      go_wp2_with fail
      obtain ⟨w9, e9, ⟨d0, d1⟩, hb⟩ := cell_end (x := .int .i64 0) (y := .int .i64 0) H2.out B2.out (Nat.le_refl _)
      rw [e9]
      exact bodyPost_ret (v := .agg #[.int .i64 0, .int .i64 0]) (by simp [results, Tryz.results44, go_sem, d0, d1]) rfl ⟨rfl, hb⟩
  · have C := Lib.hid (fun w => l1Key_no key w (by unfold isKey at hk; omega))
    rw [cellOf_no (fun h' => hk h'.1)]
    clear hk
    go_enter Tryz.func44, Tryz.ntmps44
    go_wp2_with fail
    refine (C.out _).mono ?_; rintro e w' ⟨rfl, rfl⟩
    go_wp2_with fail
    exact bodyPost_ret (v := .agg #[.int .i64 0, .int .i64 0]) (by simp [results, Tryz.results44, go_sem]) rfl ⟨rfl, (Below.refl _ _).alloc (Nat.le_refl _) _⟩
theorem specValueIn_calls (key a t v : Int) (w : World) :
    Calls Tryz.prog 43 #[.int .i64 key, .int .i64 a, .agg #[.int .i64 t, .int .i64 v]] w fun e w' => e = .returned (.int .i64 (valueIn key a t v)) ∧ Below w.heap.size w w' := by
  have HK := Lib.hid (CellsAt.new w 30 #[.int .i64 t, .int .i64 v])
  by_cases hk : isKey key
  · have C := Lib.hid (fun w => l1Key_yes key w hk.1 hk.2)
    by_cases ha : isAt a
    · have D := Lib.hid (fun w => l3At_yes a w ha)
      have E := Lib.hid (fun w => specCellOk_calls t v w)
      by_cases h : isCell t v
      · rw [valueIn_yes hk ha h]
        rw [decide_eq_true h] at E
        have F := Lib.hid (fun w => specShown_calls key a t v w ⟨by have := ha.1; omega, by have := ha.2; omega⟩ ⟨by have := h.1.1; omega, by have := h.1.2; omega⟩)
        generalize shownOf key a t v = z at F
        clear hk ha h
        go_enter Tryz.func43, Tryz.ntmps43
        go_wp2_with fail
        refine (C.out _).mono ?_; rintro e w' ⟨rfl, rfl⟩
        go_wp2_with fail
        refine (D.out _).mono ?_; rintro e w' ⟨rfl, rfl⟩
        go_wp2_with fail
        refine (E.out _).mono ?_; rintro e w2 ⟨rfl, b2⟩
        have hk2 := HK.out.below b2 (by simp)
        have r0 : w2.cell? ⟨w.heap.size, 0, none⟩ = some (.int .i64 t) := hk2.cell 0
        have r1 : w2.cell? ⟨w.heap.size, 1, none⟩ = some (.int .i64 v) := hk2.cell 1
        have B2 := Lib.hid (((Below.refl w.heap.size w).alloc (Nat.le_refl _) _).trans (b2.mono (by simp)))
        clear b2 hk2
        go_wp2_with fail
        refine (F.out _).mono ?_; rintro e w3 ⟨rfl, b3⟩
        have B3 := Lib.hid (B2.out.trans (b3.mono B2.out.size))
        clear b3
        go_wp2_with fail
        go_ret
        exact ⟨rfl, B3.out⟩
      · rw [valueIn_no (fun h' => h h'.2.2)]
        rw [decide_eq_false h] at E
        clear hk ha h
        go_enter Tryz.func43, Tryz.ntmps43
        go_wp2_with fail
        refine (C.out _).mono ?_; rintro e w' ⟨rfl, rfl⟩
        go_wp2_with fail
        refine (D.out _).mono ?_; rintro e w' ⟨rfl, rfl⟩
        go_wp2_with fail
        refine (E.out _).mono ?_; rintro e w2 ⟨rfl, b2⟩
        have B2 := Lib.hid (((Below.refl w.heap.size w).alloc (Nat.le_refl _) _).trans (b2.mono (by simp)))
        clear b2
        go_wp2_with fail
        go_ret
        exact ⟨rfl, B2.out⟩
    · have D := Lib.hid (fun w => l3At_no a w ha)
      rw [valueIn_no (fun h' => ha h'.2.1)]
      clear hk ha
      go_enter Tryz.func43, Tryz.ntmps43
      go_wp2_with fail
      refine (C.out _).mono ?_; rintro e w' ⟨rfl, rfl⟩
      go_wp2_with fail
      refine (D.out _).mono ?_; rintro e w' ⟨rfl, rfl⟩
      go_wp2_with fail
      go_ret
      exact ⟨rfl, (Below.refl _ _).alloc (Nat.le_refl _) _⟩
  · have C := Lib.hid (fun w => l1Key_no key w (by unfold isKey at hk; omega))
    rw [valueIn_no (fun h' => hk h'.1)]
    clear hk
    go_enter Tryz.func43, Tryz.ntmps43
    go_wp2_with fail
    refine (C.out _).mono ?_; rintro e w' ⟨rfl, rfl⟩
    go_wp2_with fail
    go_ret
    exact ⟨rfl, (Below.refl _ _).alloc (Nat.le_refl _) _⟩
theorem triple_end {w w1 : World} {r : Nat} {x y z x0 y0 z0 : Value} (hk : CellsAt w1 r 85 #[x0, y0, z0]) (hb : Below w.heap.size w w1) (hr : w.heap.size ≤ r) :
    ∃ w4, ((w1.setCell ⟨r, 0, none⟩ x).setCell ⟨r, 1, none⟩ y).setCell ⟨r, 2, none⟩ z = w4 ∧ (w4.cell? ⟨r, 0, none⟩ = some x ∧ w4.cell? ⟨r, 1, none⟩ = some y ∧ w4.cell? ⟨r, 2, none⟩ = some z) ∧ Below w.heap.size w w4 := by
  have h := ((hk.set_ 0 x).set_ 1 y).set_ 2 z
  exact ⟨_, rfl, ⟨h.cell 0, h.cell 1, h.cell 2⟩, ((hb.setCell (p := ⟨r, 0, none⟩) hr x).setCell (p := ⟨r, 1, none⟩) hr y).setCell (p := ⟨r, 2, none⟩) hr z⟩
theorem specTripleIn_calls (a t v : Int) (w : World) :
    Calls Tryz.prog 47 #[.int .i64 a, .agg #[.int .i64 t, .int .i64 v]] w fun e w' => e = .returned (.agg #[.int .i64 (tripleIn a t v).1, .int .i64 (tripleIn a t v).2.1, .int .i64 (tripleIn a t v).2.2]) ∧ Below w.heap.size w w' := by
  have k0 := ((((Kept.refl w).new 30 #[.int .i64 t, .int .i64 v]).new 85 #[.int .i64 0, .int .i64 0, .int .i64 0]).new 85 #[.int .i64 a, .int .i64 t, .int .i64 v])
  rw [show ((w.alloc (.cells #[.int .i64 t, .int .i64 v] 30)).alloc (.cells #[.int .i64 0, .int .i64 0, .int .i64 0] 85)).heap.size = w.heap.size + 1 + 1 by simp, show (w.alloc (.cells #[.int .i64 t, .int .i64 v] 30)).heap.size = w.heap.size + 1 by simp] at k0
  have K0 := Lib.hid k0
  clear k0
  have D := Lib.hid (fun w => specTripleOk_calls a t v w)
  by_cases h : isTri a t v
  · rw [tripleIn_yes h]
    rw [decide_eq_true h] at D
    clear h
    go_enter Tryz.func47, Tryz.ntmps47
    go_wp2_with fail
    refine (D.out _).mono ?_; rintro e w1 ⟨rfl, b1⟩
    have k1 := K0.out.below b1
    obtain ⟨e0, e1, e2⟩ := k1.three
    obtain ⟨r0, r1, r2⟩ := k1.tail.three
    have f0 := k1.tail.frozen (List.mem_cons_self ..) 0
    have f1 := k1.tail.frozen (List.mem_cons_self ..) 1
    have f2 := k1.tail.frozen (List.mem_cons_self ..) 2
    have K1 := Lib.hid k1
    clear b1 k1
    go_wp2_with fail
    obtain ⟨w9, e9, ⟨d0, d1, d2⟩, hb⟩ := triple_end (x := .int .i64 a) (y := .int .i64 t) (z := .int .i64 v) (K1.out.tail.at_ (List.mem_cons_self ..)) K1.out.1 (Nat.le_succ _)
    rw [e9]
    exact bodyPost_ret (v := .agg #[.int .i64 a, .int .i64 t, .int .i64 v]) (by simp [results, Tryz.results47, go_sem, d0, d1, d2]) rfl ⟨rfl, hb⟩
  · rw [tripleIn_no h]
    rw [decide_eq_false h] at D
    clear h
    go_enter Tryz.func47, Tryz.ntmps47
    go_wp2_with fail
    refine (D.out _).mono ?_; rintro e w1 ⟨rfl, b1⟩
    have k1 := K0.out.below b1
    obtain ⟨r0, r1, r2⟩ := k1.tail.three
    have f0 := k1.tail.frozen (List.mem_cons_self ..) 0
    have f1 := k1.tail.frozen (List.mem_cons_self ..) 1
    have f2 := k1.tail.frozen (List.mem_cons_self ..) 2
    have K1 := Lib.hid k1
    clear b1 k1
    go_wp2_with fail
    obtain ⟨w9, e9, ⟨d0, d1, d2⟩, hb⟩ := triple_end (x := .int .i64 0) (y := .int .i64 0) (z := .int .i64 0) (K1.out.tail.at_ (List.mem_cons_self ..)) K1.out.1 (Nat.le_succ _)
    rw [e9]
    exact bodyPost_ret (v := .agg #[.int .i64 0, .int .i64 0, .int .i64 0]) (by simp [results, Tryz.results47, go_sem, d0, d1, d2]) rfl ⟨rfl, hb⟩
end Go.Proofs.YteopplldbcgjjaaGreatDoor.Mx
namespace Go.Proofs.YteopplldbcgjjaaGreatDoor.Mx
open Go.RowKit
set_option linter.unusedVariables false
theorem wp_region_class {P : Program} {C : World → Prop} {id : Nat} {Q : Exit → Act → World → Prop} {a : Act} {w : World} {l : List Oper} (hm : P.follows .mixedOrders = true) (hB : Region.lexB .any l.toArray = true) (hC : C w.drew)
    (h : wpQuiet P l.toArray C (fun a' => ∀ w', C w' → Q .normal a' w') l a) : (Code.region id l.toArray true).wp P Q a w :=
  wp_region_quiet (C := C) hm hB hC (by simpa using h)
theorem class_same {P : Program} {C : World → Prop} {f : FuncId} {args : Array Value} {u : World} {v : Value} (hu : C u) (h : Calls P f args u fun e w' => e = .returned v ∧ u = w') : Calls P f args u fun e w' => e = .returned v ∧ C w' :=
  h.mono fun e w' ⟨he, hw⟩ => ⟨he, hw ▸ hu⟩
end Go.Proofs.YteopplldbcgjjaaGreatDoor.Mx
namespace Go.Proofs.YteopplldbcgjjaaGreatDoor.Mx
open Go.ChangeShapes Go.WideShapes Go.ChangeAt Go.RowKit
set_option linter.unusedVariables false
structure Tru where
  clock : Int
  epoch : Int
  cursor : Int
  read : Int
  written : Int
  nread : Int
  nwritten : Int
  failed : Bool
def isSumP (s : Int) : Prop := 0 ≤ s ∧ s ≤ 4611686018427387903
instance (s : Int) : Decidable (isSumP s) := inferInstanceAs (Decidable (_ ∧ _))
def trustOk (key : Int) (l : List Int) (r : Int) (t : Tru) : Prop :=
  planOk key l ∧ (0 ≤ r ∧ r < l.length) ∧ isTm t.clock ∧ (0 ≤ t.epoch ∧ t.epoch ≤ 1000) ∧ (0 ≤ t.cursor ∧ t.cursor ≤ l.getD r.toNat 0 - 1) ∧
  (t.cursor = 0 → t.nread = 0 ∧ t.nwritten = 0) ∧ isSumP t.read ∧ isSumP t.written ∧ isSumP t.nread ∧ isSumP t.nwritten
open Classical in
noncomputable def trustB (key : Int) (l : List Int) (r : Int) (t : Tru) : Bool := decide (trustOk key l r t)
open Classical in
theorem trustB_yes {key : Int} {l : List Int} {r : Int} {t : Tru} (h : trustOk key l r t) : trustB key l r t = true := by unfold trustB; exact decide_eq_true h
open Classical in
theorem trustB_no {key : Int} {l : List Int} {r : Int} {t : Tru} (h : ¬ trustOk key l r t) : trustB key l r t = false := by unfold trustB; exact decide_eq_false h
def InB (s lo hi : Int) (z : Bool) : Prop := z = decide (lo ≤ s ∧ s ≤ hi)
theorem InB.yes {s lo hi : Int} (h0 : lo ≤ s) (h1 : s ≤ hi) : InB s lo hi true := (decide_eq_true ⟨h0, h1⟩).symm
theorem InB.no {s lo hi : Int} (h : ¬ (lo ≤ s ∧ s ≤ hi)) : InB s lo hi false := (decide_eq_false h).symm
theorem l1In_b (s lo hi : Int) (z : Bool) (w : World) (h : InB s lo hi z) :
    Calls Tryz.prog 76 #[.int .i64 s, .int .i64 lo, .int .i64 hi] w fun e w' => e = .returned (.bool z) ∧ w = w' := by
  unfold InB at h
  subst h
  by_cases hc : lo ≤ s ∧ s ≤ hi
  · rw [decide_eq_true hc]; exact l1In_yes s lo hi w hc.1 hc.2
  · rw [decide_eq_false hc]; exact l1In_no s lo hi w (by omega)
def TmB (s : Int) (z : Bool) : Prop := z = decide (isTm s)
theorem TmB.yes {s : Int} (h : isTm s) : TmB s true := (decide_eq_true h).symm
theorem TmB.no {s : Int} (h : ¬ isTm s) : TmB s false := (decide_eq_false h).symm
theorem l3Time_b (s : Int) (z : Bool) (w : World) (h : TmB s z) :
    Calls Tryz.prog 77 #[.int .i64 s] w fun e w' => e = .returned (.bool z) ∧ w = w' := by
  unfold TmB at h
  subst h
  by_cases hc : isTm s
  · rw [decide_eq_true hc]; exact l3Time_yes s w hc
  · rw [decide_eq_false hc]; exact l3Time_no s w hc
def SumB (s : Int) (z : Bool) : Prop := z = decide (isSumP s)
theorem SumB.yes {s : Int} (h : isSumP s) : SumB s true := (decide_eq_true h).symm
theorem SumB.no {s : Int} (h : ¬ isSumP s) : SumB s false := (decide_eq_false h).symm
theorem l7Sum_b (s : Int) (z : Bool) (w : World) (h : SumB s z) :
    Calls Tryz.prog 78 #[.int .i64 s] w fun e w' => e = .returned (.bool z) ∧ w = w' := by
  have C := Lib.hid (fun w => l1In_b s 0 4611686018427387903 z w h)
  clear h
  go_enter Tryz.func78, Tryz.ntmps78
  go_wp2_with fail
  refine (C.out _).mono ?_; rintro e w' ⟨rfl, rfl⟩
  go_wp2_with fail
  go_ret
  exact ⟨rfl, rfl⟩
def TrS (b : World) (p q : Nat) (cs ds : Array Value) (c : Addr) (x : Value) (w : World) : Prop :=
  Below b.heap.size b w ∧ CellsAt w p 26 cs ∧ CellsAt w q 28 ds ∧ c.block < w.heap.size ∧ w.cell? c = some x
section
variable {b w w' : World} {p q : Nat} {u v x0 x1 x2 x3 x4 x5 x6 x7 x : Value} {c : Addr}
theorem TrS.cells (h : TrS b p q #[u, v] #[x0, x1, x2, x3, x4, x5, x6, x7] c x w) :
    (w.cell? ⟨p, 0, none⟩ = some u ∧ w.cell? ⟨p, 1, none⟩ = some v ∧ w.cell? ⟨q, 0, none⟩ = some x0 ∧ w.cell? ⟨q, 1, none⟩ = some x1 ∧ w.cell? ⟨q, 2, none⟩ = some x2 ∧ w.cell? c = some x) ∧ TrS b p q #[u, v] #[x0, x1, x2, x3, x4, x5, x6, x7] c x w :=
  ⟨⟨h.2.1.cell 0, h.2.1.cell 1, h.2.2.1.cell 0, h.2.2.1.cell 1, h.2.2.1.cell 2, h.2.2.2.2⟩, h⟩
theorem TrS.keep (hb : Below w.heap.size w w')
    (h : (w.cell? ⟨p, 0, none⟩ = some u ∧ w.cell? ⟨p, 1, none⟩ = some v ∧ w.cell? ⟨q, 0, none⟩ = some x0 ∧ w.cell? ⟨q, 1, none⟩ = some x1 ∧ w.cell? ⟨q, 2, none⟩ = some x2 ∧ w.cell? c = some x) ∧ TrS b p q #[u, v] #[x0, x1, x2, x3, x4, x5, x6, x7] c x w) :
    (w'.cell? ⟨p, 0, none⟩ = some u ∧ w'.cell? ⟨p, 1, none⟩ = some v ∧ w'.cell? ⟨q, 0, none⟩ = some x0 ∧ w'.cell? ⟨q, 1, none⟩ = some x1 ∧ w'.cell? ⟨q, 2, none⟩ = some x2 ∧ w'.cell? c = some x) ∧ TrS b p q #[u, v] #[x0, x1, x2, x3, x4, x5, x6, x7] c x w' :=
  TrS.cells ⟨h.2.1.trans (hb.mono h.2.1.size), h.2.2.1.below hb h.2.2.1.lt, h.2.2.2.1.below hb h.2.2.2.1.lt, Nat.lt_of_lt_of_le h.2.2.2.2.1 hb.size, (hb.cell h.2.2.2.2.1).trans h.2.2.2.2.2⟩
end
set_option maxRecDepth 20000 in
set_option maxHeartbeats 4000000 in
theorem specTrustOk_calls (key x : Int) (A : Option Addr) (l : List Int) (cap : Nat) (t0 t1 t2 t3 t4 t5 t6 : Int) (t7 : Bool) (w : World) (hn : l.length ≤ maxLen) (hA : Ints w .i64 w.heap.size A l) :
    Calls Tryz.prog 40 #[.agg #[.int .i64 key, .slice A l.length cap], .int .i64 x, .agg #[.int .i64 t0, .int .i64 t1, .int .i64 t2, .int .i64 t3, .int .i64 t4, .int .i64 t5, .int .i64 t6, .bool t7]] w fun e w' => e = .returned (.bool (trustB key l x ⟨t0, t1, t2, t3, t4, t5, t6, t7⟩)) ∧ Below w.heap.size w w' := by
  have hm := hn
  unfold maxLen at hm
  have b0 : Below w.heap.size w ((w.alloc (.cells #[.int .i64 key, .slice A l.length cap] 26)).alloc (.cells #[.int .i64 t0, .int .i64 t1, .int .i64 t2, .int .i64 t3, .int .i64 t4, .int .i64 t5, .int .i64 t6, .bool t7] 28)) := ((Below.refl w.heap.size w).alloc (Nat.le_refl _) _).alloc (by simp) _
  have kp : CellsAt ((w.alloc (.cells #[.int .i64 key, .slice A l.length cap] 26)).alloc (.cells #[.int .i64 t0, .int .i64 t1, .int .i64 t2, .int .i64 t3, .int .i64 t4, .int .i64 t5, .int .i64 t6, .bool t7] 28)) w.heap.size 26 #[.int .i64 key, .slice A l.length cap] := CellsAt.grown (CellsAt.new w _ _) (World.grownBy_alloc _ _ none) (by simp)
  have kq : CellsAt ((w.alloc (.cells #[.int .i64 key, .slice A l.length cap] 26)).alloc (.cells #[.int .i64 t0, .int .i64 t1, .int .i64 t2, .int .i64 t3, .int .i64 t4, .int .i64 t5, .int .i64 t6, .bool t7] 28)) (w.heap.size + 1) 28 #[.int .i64 t0, .int .i64 t1, .int .i64 t2, .int .i64 t3, .int .i64 t4, .int .i64 t5, .int .i64 t6, .bool t7] := by
    have h := CellsAt.new (w.alloc (.cells #[.int .i64 key, .slice A l.length cap] 26)) 28 #[.int .i64 t0, .int .i64 t1, .int .i64 t2, .int .i64 t3, .int .i64 t4, .int .i64 t5, .int .i64 t6, .bool t7]
    rwa [show (w.alloc (.cells #[.int .i64 key, .slice A l.length cap] 26)).heap.size = w.heap.size + 1 by simp] at h
  have HA := Lib.hid hA
  have PO := Lib.hid (fun (u : World) (hb : Below w.heap.size w u) => specPlanOk_calls key A l cap u hn ((hA.below hb (Nat.le_refl _)).more hb.size))
  have EI := Lib.hid (fun (s lo hi : Int) (z : Bool) (h : InB s lo hi z) (u : World) => l1In_b s lo hi z u h)
  have ET := Lib.hid (fun (s : Int) (z : Bool) (h : TmB s z) (u : World) => l3Time_b s z u h)
  have T0 := Lib.hid (show TrS w w.heap.size (w.heap.size + 1) #[.int .i64 key, .slice A l.length cap] #[.int .i64 t0, .int .i64 t1, .int .i64 t2, .int .i64 t3, .int .i64 t4, .int .i64 t5, .int .i64 t6, .bool t7] ⟨w.heap.size, 0, none⟩ (.int .i64 key) ((w.alloc (.cells #[.int .i64 key, .slice A l.length cap] 26)).alloc (.cells #[.int .i64 t0, .int .i64 t1, .int .i64 t2, .int .i64 t3, .int .i64 t4, .int .i64 t5, .int .i64 t6, .bool t7] 28)).drew from ⟨b0.drew, kp.drew, kq.drew, by simp; omega, kp.cell 0⟩)
  have TF := Lib.hid (fun (hb : Below w.heap.size w ((w.alloc (.cells #[.int .i64 key, .slice A l.length cap] 26)).alloc (.cells #[.int .i64 t0, .int .i64 t1, .int .i64 t2, .int .i64 t3, .int .i64 t4, .int .i64 t5, .int .i64 t6, .bool t7] 28))) => (show ∀ (bb oo : Nat) (z : Int), A = some ⟨bb, oo, none⟩ → bb < w.heap.size → w.cell? ⟨bb, oo + x.toNat, none⟩ = some (.int .i64 z) → TrS w w.heap.size (w.heap.size + 1) #[.int .i64 key, .slice A l.length cap] #[.int .i64 t0, .int .i64 t1, .int .i64 t2, .int .i64 t3, .int .i64 t4, .int .i64 t5, .int .i64 t6, .bool t7] ⟨bb, oo + x.toNat, none⟩ (.int .i64 z) ((w.alloc (.cells #[.int .i64 key, .slice A l.length cap] 26)).alloc (.cells #[.int .i64 t0, .int .i64 t1, .int .i64 t2, .int .i64 t3, .int .i64 t4, .int .i64 t5, .int .i64 t6, .bool t7] 28)).drew from
    fun bb oo z _ hlt hc => ⟨hb.drew, kp.drew, kq.drew, by simp; omega, (hb.cell (p := ⟨bb, oo + x.toNat, none⟩) hlt).trans hc⟩))
  have B0 := Lib.hid b0
  have hwl : IntKind.i64.wrap ((l.length : Int) - 1) = l.length - 1 := IntWalk.i64_in _ (by omega)
  clear hA hn b0 kp kq
  go_enter Tryz.func40, Tryz.ntmps40
  go_upto_region 1 with fail
  go_cut [42] from 7 (fun s u => ∃ z : Bool, s = .bool z ∧ (z = false ↔ (planOk key l ∧ (0 ≤ x ∧ x < l.length) ∧ isTm t0 ∧ (0 ≤ t1 ∧ t1 ≤ 1000) ∧ 0 ≤ t2 ∧ t2 ≤ l.getD x.toNat 0 - 1)) ∧ Below w.heap.size w u ∧ CellsAt u (w.heap.size + 1) 28 #[.int .i64 t0, .int .i64 t1, .int .i64 t2, .int .i64 t3, .int .i64 t4, .int .i64 t5, .int .i64 t6, .bool t7])
  case first =>
    by_cases hp : planOk key l
    · by_cases hx : 0 ≤ x ∧ x < l.length
      · obtain ⟨r, rfl⟩ : ∃ r : Nat, x = r := ⟨x.toNat, by omega⟩
        have hr : r < l.length := by omega
        have hr' : (r : Int) < l.length := by omega
        have hr0 : (0 : Int) ≤ r := by omega
        obtain ⟨bb, oo, rfl, hbb, hcc⟩ := HA.out r hr
        have hv := hp.2.2.1 r hr
        have T1 := Lib.hid (TF.out B0.out bb oo (l.getD r 0) rfl hbb (by simpa using hcc))
        rw [show ((r : Int)).toNat = r by simp] at T1
        have hi : InB r 0 (l.length - 1) true := InB.yes (by omega) (by omega)
        obtain ⟨v, hvv⟩ : ∃ v, v = l.getD r 0 := ⟨_, rfl⟩
        rw [← hvv] at hcc hv T1
        have HV := Lib.hid (show l.getD ((r : Int)).toNat 0 = v by rw [hvv]; simp)
        clear hvv
        obtain ⟨v0, v1⟩ := hv
        have hwv : IntKind.i64.wrap (v - 1) = v - 1 := IntWalk.i64_in _ (by omega)
        by_cases h0 : isTm t0
        · have g0 : TmB t0 true := TmB.yes h0
          by_cases h1 : 0 ≤ t1 ∧ t1 ≤ 1000
          · have g1 : InB t1 0 1000 true := InB.yes h1.1 h1.2
            by_cases h2 : 0 ≤ t2 ∧ t2 ≤ v - 1
            · have g2 : InB t2 0 (v - 1) true := InB.yes h2.1 h2.2
              have P1 := Lib.hid (fun (u : World) (h : TrS w w.heap.size (w.heap.size + 1) #[.int .i64 key, .slice (some ⟨bb, oo, none⟩) l.length cap] #[.int .i64 t0, .int .i64 t1, .int .i64 t2, .int .i64 t3, .int .i64 t4, .int .i64 t5, .int .i64 t6, .bool t7] ⟨bb, oo + r, none⟩ (.int .i64 v) u) => (PO.out u h.1).mono (fun e w' ⟨he, hb⟩ => (⟨he, (TrS.keep hb (TrS.cells h)).2⟩ : _ ∧ TrS w w.heap.size (w.heap.size + 1) #[.int .i64 key, .slice (some ⟨bb, oo, none⟩) l.length cap] #[.int .i64 t0, .int .i64 t1, .int .i64 t2, .int .i64 t3, .int .i64 t4, .int .i64 t5, .int .i64 t6, .bool t7] ⟨bb, oo + r, none⟩ (.int .i64 v) w')))
              rw [okB_yes hp] at P1
              refine wp_region_class (C := fun u => TrS w w.heap.size (w.heap.size + 1) #[.int .i64 key, .slice (some ⟨bb, oo, none⟩) l.length cap] #[.int .i64 t0, .int .i64 t1, .int .i64 t2, .int .i64 t3, .int .i64 t4, .int .i64 t5, .int .i64 t6, .bool t7] ⟨bb, oo + r, none⟩ (.int .i64 v) u) (by kernel_rfl) (by kernel_rfl) T1.out ?_
              iterate 36 (first
                | go_big_quiet_skip
                | (go_big_quiet_want
                   go_big_quiet_op
                   first
                     | go_big_quiet_on
                     | (apply Exists.intro
                        refine ⟨fun u hu => ?_, ?_⟩
                        · first
                            | with_reducible rfl
                            | (go_at_call 75; exact P1.out u hu)
                            | (go_at_call 76; exact class_same hu (EI.out _ _ _ _ ‹InB _ _ _ _› u))
                            | (go_at_call 77; exact class_same hu (ET.out _ _ ‹TmB _ _› u))
                            | (obtain ⟨⟨e0, e1, e2, e3, e4, e5⟩, -⟩ := TrS.cells hu; go_simp; first | done | with_reducible rfl)
                        go_big_quiet_on)))
              refine wpQuiet_nil ?_
              intro wz hz
              go_wp2_with fail
              go_meet
              exact ⟨_, rfl, ⟨fun _ => ⟨hp, ⟨by omega, by omega⟩, h0, h1, by rw [HV.out]; exact h2⟩, fun _ => rfl⟩, hz.1, hz.2.2.1⟩
            · have g2 : InB t2 0 (v - 1) false := InB.no h2
              have P1 := Lib.hid (fun (u : World) (h : TrS w w.heap.size (w.heap.size + 1) #[.int .i64 key, .slice (some ⟨bb, oo, none⟩) l.length cap] #[.int .i64 t0, .int .i64 t1, .int .i64 t2, .int .i64 t3, .int .i64 t4, .int .i64 t5, .int .i64 t6, .bool t7] ⟨bb, oo + r, none⟩ (.int .i64 v) u) => (PO.out u h.1).mono (fun e w' ⟨he, hb⟩ => (⟨he, (TrS.keep hb (TrS.cells h)).2⟩ : _ ∧ TrS w w.heap.size (w.heap.size + 1) #[.int .i64 key, .slice (some ⟨bb, oo, none⟩) l.length cap] #[.int .i64 t0, .int .i64 t1, .int .i64 t2, .int .i64 t3, .int .i64 t4, .int .i64 t5, .int .i64 t6, .bool t7] ⟨bb, oo + r, none⟩ (.int .i64 v) w')))
              rw [okB_yes hp] at P1
              refine wp_region_class (C := fun u => TrS w w.heap.size (w.heap.size + 1) #[.int .i64 key, .slice (some ⟨bb, oo, none⟩) l.length cap] #[.int .i64 t0, .int .i64 t1, .int .i64 t2, .int .i64 t3, .int .i64 t4, .int .i64 t5, .int .i64 t6, .bool t7] ⟨bb, oo + r, none⟩ (.int .i64 v) u) (by kernel_rfl) (by kernel_rfl) T1.out ?_
              iterate 36 (first
                | go_big_quiet_skip
                | (go_big_quiet_want
                   go_big_quiet_op
                   first
                     | go_big_quiet_on
                     | (apply Exists.intro
                        refine ⟨fun u hu => ?_, ?_⟩
                        · first
                            | with_reducible rfl
                            | (go_at_call 75; exact P1.out u hu)
                            | (go_at_call 76; exact class_same hu (EI.out _ _ _ _ ‹InB _ _ _ _› u))
                            | (go_at_call 77; exact class_same hu (ET.out _ _ ‹TmB _ _› u))
                            | (obtain ⟨⟨e0, e1, e2, e3, e4, e5⟩, -⟩ := TrS.cells hu; go_simp; first | done | with_reducible rfl)
                        go_big_quiet_on)))
              refine wpQuiet_nil ?_
              intro wz hz
              go_wp2_with fail
              go_meet
              exact ⟨_, rfl, ⟨fun h => (by cases h), fun h => absurd (by have h5 := h.2.2.2.2; rw [HV.out] at h5; exact h5) h2⟩, hz.1, hz.2.2.1⟩
          · have g1 : InB t1 0 1000 false := InB.no h1
            have P1 := Lib.hid (fun (u : World) (h : TrS w w.heap.size (w.heap.size + 1) #[.int .i64 key, .slice (some ⟨bb, oo, none⟩) l.length cap] #[.int .i64 t0, .int .i64 t1, .int .i64 t2, .int .i64 t3, .int .i64 t4, .int .i64 t5, .int .i64 t6, .bool t7] ⟨bb, oo + r, none⟩ (.int .i64 v) u) => (PO.out u h.1).mono (fun e w' ⟨he, hb⟩ => (⟨he, (TrS.keep hb (TrS.cells h)).2⟩ : _ ∧ TrS w w.heap.size (w.heap.size + 1) #[.int .i64 key, .slice (some ⟨bb, oo, none⟩) l.length cap] #[.int .i64 t0, .int .i64 t1, .int .i64 t2, .int .i64 t3, .int .i64 t4, .int .i64 t5, .int .i64 t6, .bool t7] ⟨bb, oo + r, none⟩ (.int .i64 v) w')))
            rw [okB_yes hp] at P1
            refine wp_region_class (C := fun u => TrS w w.heap.size (w.heap.size + 1) #[.int .i64 key, .slice (some ⟨bb, oo, none⟩) l.length cap] #[.int .i64 t0, .int .i64 t1, .int .i64 t2, .int .i64 t3, .int .i64 t4, .int .i64 t5, .int .i64 t6, .bool t7] ⟨bb, oo + r, none⟩ (.int .i64 v) u) (by kernel_rfl) (by kernel_rfl) T1.out ?_
            iterate 36 (first
              | go_big_quiet_skip
              | (go_big_quiet_want
                 go_big_quiet_op
                 first
                   | go_big_quiet_on
                   | (apply Exists.intro
                      refine ⟨fun u hu => ?_, ?_⟩
                      · first
                          | with_reducible rfl
                          | (go_at_call 75; exact P1.out u hu)
                          | (go_at_call 76; exact class_same hu (EI.out _ _ _ _ ‹InB _ _ _ _› u))
                          | (go_at_call 77; exact class_same hu (ET.out _ _ ‹TmB _ _› u))
                          | (obtain ⟨⟨e0, e1, e2, e3, e4, e5⟩, -⟩ := TrS.cells hu; go_simp; first | done | with_reducible rfl)
                      go_big_quiet_on)))
            refine wpQuiet_nil ?_
            intro wz hz
            go_wp2_with fail
            go_meet
            exact ⟨_, rfl, ⟨fun h => (by cases h), fun h => absurd h.2.2.2.1 h1⟩, hz.1, hz.2.2.1⟩
        · have g0 : TmB t0 false := TmB.no h0
          have P1 := Lib.hid (fun (u : World) (h : TrS w w.heap.size (w.heap.size + 1) #[.int .i64 key, .slice (some ⟨bb, oo, none⟩) l.length cap] #[.int .i64 t0, .int .i64 t1, .int .i64 t2, .int .i64 t3, .int .i64 t4, .int .i64 t5, .int .i64 t6, .bool t7] ⟨bb, oo + r, none⟩ (.int .i64 v) u) => (PO.out u h.1).mono (fun e w' ⟨he, hb⟩ => (⟨he, (TrS.keep hb (TrS.cells h)).2⟩ : _ ∧ TrS w w.heap.size (w.heap.size + 1) #[.int .i64 key, .slice (some ⟨bb, oo, none⟩) l.length cap] #[.int .i64 t0, .int .i64 t1, .int .i64 t2, .int .i64 t3, .int .i64 t4, .int .i64 t5, .int .i64 t6, .bool t7] ⟨bb, oo + r, none⟩ (.int .i64 v) w')))
          rw [okB_yes hp] at P1
          refine wp_region_class (C := fun u => TrS w w.heap.size (w.heap.size + 1) #[.int .i64 key, .slice (some ⟨bb, oo, none⟩) l.length cap] #[.int .i64 t0, .int .i64 t1, .int .i64 t2, .int .i64 t3, .int .i64 t4, .int .i64 t5, .int .i64 t6, .bool t7] ⟨bb, oo + r, none⟩ (.int .i64 v) u) (by kernel_rfl) (by kernel_rfl) T1.out ?_
          iterate 36 (first
            | go_big_quiet_skip
            | (go_big_quiet_want
               go_big_quiet_op
               first
                 | go_big_quiet_on
                 | (apply Exists.intro
                    refine ⟨fun u hu => ?_, ?_⟩
                    · first
                        | with_reducible rfl
                        | (go_at_call 75; exact P1.out u hu)
                        | (go_at_call 76; exact class_same hu (EI.out _ _ _ _ ‹InB _ _ _ _› u))
                        | (go_at_call 77; exact class_same hu (ET.out _ _ ‹TmB _ _› u))
                        | (obtain ⟨⟨e0, e1, e2, e3, e4, e5⟩, -⟩ := TrS.cells hu; go_simp; first | done | with_reducible rfl)
                    go_big_quiet_on)))
          refine wpQuiet_nil ?_
          intro wz hz
          go_wp2_with fail
          go_meet
          exact ⟨_, rfl, ⟨fun h => (by cases h), fun h => absurd h.2.2.1 h0⟩, hz.1, hz.2.2.1⟩
      · have hi : InB x 0 (l.length - 1) false := InB.no (by omega)
        have P1 := Lib.hid (fun (u : World) (h : TrS w w.heap.size (w.heap.size + 1) #[.int .i64 key, .slice A l.length cap] #[.int .i64 t0, .int .i64 t1, .int .i64 t2, .int .i64 t3, .int .i64 t4, .int .i64 t5, .int .i64 t6, .bool t7] ⟨w.heap.size, 0, none⟩ (.int .i64 key) u) => (PO.out u h.1).mono (fun e w' ⟨he, hb⟩ => (⟨he, (TrS.keep hb (TrS.cells h)).2⟩ : _ ∧ TrS w w.heap.size (w.heap.size + 1) #[.int .i64 key, .slice A l.length cap] #[.int .i64 t0, .int .i64 t1, .int .i64 t2, .int .i64 t3, .int .i64 t4, .int .i64 t5, .int .i64 t6, .bool t7] ⟨w.heap.size, 0, none⟩ (.int .i64 key) w')))
        rw [okB_yes hp] at P1
        refine wp_region_class (C := fun u => TrS w w.heap.size (w.heap.size + 1) #[.int .i64 key, .slice A l.length cap] #[.int .i64 t0, .int .i64 t1, .int .i64 t2, .int .i64 t3, .int .i64 t4, .int .i64 t5, .int .i64 t6, .bool t7] ⟨w.heap.size, 0, none⟩ (.int .i64 key) u) (by kernel_rfl) (by kernel_rfl) T0.out ?_
        iterate 36 (first
          | go_big_quiet_skip
          | (go_big_quiet_want
             go_big_quiet_op
             first
               | go_big_quiet_on
               | (apply Exists.intro
                  refine ⟨fun u hu => ?_, ?_⟩
                  · first
                      | with_reducible rfl
                      | (go_at_call 75; exact P1.out u hu)
                      | (go_at_call 76; exact class_same hu (EI.out _ _ _ _ ‹InB _ _ _ _› u))
                      | (go_at_call 77; exact class_same hu (ET.out _ _ ‹TmB _ _› u))
                      | (obtain ⟨⟨e0, e1, e2, e3, e4, e5⟩, -⟩ := TrS.cells hu; go_simp; first | done | with_reducible rfl)
                  go_big_quiet_on)))
        refine wpQuiet_nil ?_
        intro wz hz
        go_wp2_with fail
        go_meet
        exact ⟨_, rfl, ⟨fun h => (by cases h), fun h => absurd h.2.1 hx⟩, hz.1, hz.2.2.1⟩
    · skip
      have P1 := Lib.hid (fun (u : World) (h : TrS w w.heap.size (w.heap.size + 1) #[.int .i64 key, .slice A l.length cap] #[.int .i64 t0, .int .i64 t1, .int .i64 t2, .int .i64 t3, .int .i64 t4, .int .i64 t5, .int .i64 t6, .bool t7] ⟨w.heap.size, 0, none⟩ (.int .i64 key) u) => (PO.out u h.1).mono (fun e w' ⟨he, hb⟩ => (⟨he, (TrS.keep hb (TrS.cells h)).2⟩ : _ ∧ TrS w w.heap.size (w.heap.size + 1) #[.int .i64 key, .slice A l.length cap] #[.int .i64 t0, .int .i64 t1, .int .i64 t2, .int .i64 t3, .int .i64 t4, .int .i64 t5, .int .i64 t6, .bool t7] ⟨w.heap.size, 0, none⟩ (.int .i64 key) w')))
      rw [okB_no hp] at P1
      refine wp_region_class (C := fun u => TrS w w.heap.size (w.heap.size + 1) #[.int .i64 key, .slice A l.length cap] #[.int .i64 t0, .int .i64 t1, .int .i64 t2, .int .i64 t3, .int .i64 t4, .int .i64 t5, .int .i64 t6, .bool t7] ⟨w.heap.size, 0, none⟩ (.int .i64 key) u) (by kernel_rfl) (by kernel_rfl) T0.out ?_
      iterate 36 (first
        | go_big_quiet_skip
        | (go_big_quiet_want
           go_big_quiet_op
           first
             | go_big_quiet_on
             | (apply Exists.intro
                refine ⟨fun u hu => ?_, ?_⟩
                · first
                    | with_reducible rfl
                    | (go_at_call 75; exact P1.out u hu)
                    | (go_at_call 76; exact class_same hu (EI.out _ _ _ _ ‹InB _ _ _ _› u))
                    | (go_at_call 77; exact class_same hu (ET.out _ _ ‹TmB _ _› u))
                    | (obtain ⟨⟨e0, e1, e2, e3, e4, e5⟩, -⟩ := TrS.cells hu; go_simp; first | done | with_reducible rfl)
                go_big_quiet_on)))
      refine wpQuiet_nil ?_
      intro wz hz
      go_wp2_with fail
      go_meet
      exact ⟨_, rfl, ⟨fun h => (by cases h), fun h => absurd h.1 hp⟩, hz.1, hz.2.2.1⟩
  case rest =>
  obtain ⟨z, rfl, hz, hb, hq⟩ := hcut
  have HBW := Lib.hid hb
  have q2 : wc.cell? ⟨w.heap.size + 1, 2, none⟩ = some (.int .i64 t2) := hq.cell 2
  have q3 : wc.cell? ⟨w.heap.size + 1, 3, none⟩ = some (.int .i64 t3) := hq.cell 3
  have q4 : wc.cell? ⟨w.heap.size + 1, 4, none⟩ = some (.int .i64 t4) := hq.cell 4
  have q5 : wc.cell? ⟨w.heap.size + 1, 5, none⟩ = some (.int .i64 t5) := hq.cell 5
  have q6 : wc.cell? ⟨w.heap.size + 1, 6, none⟩ = some (.int .i64 t6) := hq.cell 6
  clear hb hq PO EI ET T0 TF HA
  rcases z with _ | _
  · have hG := hz.1 rfl
    clear hz
    by_cases c2 : t2 = 0
    · skip
      by_cases c5 : t5 = 0
      · skip
        by_cases c6 : t6 = 0
        · subst c2 c5 c6
          have s0 : isSumP 0 := ⟨by omega, by omega⟩
          by_cases s3 : isSumP t3
          · by_cases s4 : isSumP t4
            · skip
              go_wp2_with fail
              refine (l7Sum_b t3 true _ (SumB.yes s3)).mono ?_; rintro e w' ⟨rfl, rfl⟩
              go_wp2_with fail
              refine (l7Sum_b t4 true _ (SumB.yes s4)).mono ?_; rintro e w' ⟨rfl, rfl⟩
              go_wp2_with fail
              refine (l7Sum_b 0 true _ (SumB.yes s0)).mono ?_; rintro e w' ⟨rfl, rfl⟩
              go_wp2_with fail
              refine (l7Sum_b 0 true _ (SumB.yes s0)).mono ?_; rintro e w' ⟨rfl, rfl⟩
              go_wp2_with fail
              go_ret
              exact ⟨by rw [trustB_yes ⟨hG.1, hG.2.1, hG.2.2.1, hG.2.2.2.1, hG.2.2.2.2, (fun _ => ⟨rfl, rfl⟩), s3, s4, s0, s0⟩]; rfl, HBW.out⟩
            · skip
              go_wp2_with fail
              refine (l7Sum_b t3 true _ (SumB.yes s3)).mono ?_; rintro e w' ⟨rfl, rfl⟩
              go_wp2_with fail
              refine (l7Sum_b t4 false _ (SumB.no s4)).mono ?_; rintro e w' ⟨rfl, rfl⟩
              go_wp2_with fail
              go_ret
              exact ⟨by rw [trustB_no (fun h => s4 h.2.2.2.2.2.2.2.1)]; rfl, HBW.out⟩
          · skip
            go_wp2_with fail
            refine (l7Sum_b t3 false _ (SumB.no s3)).mono ?_; rintro e w' ⟨rfl, rfl⟩
            go_wp2_with fail
            go_ret
            exact ⟨by rw [trustB_no (fun h => s3 h.2.2.2.2.2.2.1)]; rfl, HBW.out⟩
        · have c6' : (t6 == 0) = false := by simpa using c6
          go_wp2_with fail
          go_ret
          exact ⟨by rw [trustB_no (fun h => c6 (h.2.2.2.2.2.1 c2).2)]; rfl, HBW.out⟩
      · have c5' : (t5 == 0) = false := by simpa using c5
        go_wp2_with fail
        go_ret
        exact ⟨by rw [trustB_no (fun h => c5 (h.2.2.2.2.2.1 c2).1)]; rfl, HBW.out⟩
    · have c2' : (t2 == 0) = false := by simpa using c2
      by_cases s3 : isSumP t3
      · by_cases s4 : isSumP t4
        · by_cases s5 : isSumP t5
          · by_cases s6 : isSumP t6
            · skip
              go_wp2_with fail
              refine (l7Sum_b t3 true _ (SumB.yes s3)).mono ?_; rintro e w' ⟨rfl, rfl⟩
              go_wp2_with fail
              refine (l7Sum_b t4 true _ (SumB.yes s4)).mono ?_; rintro e w' ⟨rfl, rfl⟩
              go_wp2_with fail
              refine (l7Sum_b t5 true _ (SumB.yes s5)).mono ?_; rintro e w' ⟨rfl, rfl⟩
              go_wp2_with fail
              refine (l7Sum_b t6 true _ (SumB.yes s6)).mono ?_; rintro e w' ⟨rfl, rfl⟩
              go_wp2_with fail
              go_ret
              exact ⟨by rw [trustB_yes ⟨hG.1, hG.2.1, hG.2.2.1, hG.2.2.2.1, hG.2.2.2.2, (fun h => absurd h c2), s3, s4, s5, s6⟩]; rfl, HBW.out⟩
            · skip
              go_wp2_with fail
              refine (l7Sum_b t3 true _ (SumB.yes s3)).mono ?_; rintro e w' ⟨rfl, rfl⟩
              go_wp2_with fail
              refine (l7Sum_b t4 true _ (SumB.yes s4)).mono ?_; rintro e w' ⟨rfl, rfl⟩
              go_wp2_with fail
              refine (l7Sum_b t5 true _ (SumB.yes s5)).mono ?_; rintro e w' ⟨rfl, rfl⟩
              go_wp2_with fail
              refine (l7Sum_b t6 false _ (SumB.no s6)).mono ?_; rintro e w' ⟨rfl, rfl⟩
              go_wp2_with fail
              go_ret
              exact ⟨by rw [trustB_no (fun h => s6 h.2.2.2.2.2.2.2.2.2)]; rfl, HBW.out⟩
          · skip
            go_wp2_with fail
            refine (l7Sum_b t3 true _ (SumB.yes s3)).mono ?_; rintro e w' ⟨rfl, rfl⟩
            go_wp2_with fail
            refine (l7Sum_b t4 true _ (SumB.yes s4)).mono ?_; rintro e w' ⟨rfl, rfl⟩
            go_wp2_with fail
            refine (l7Sum_b t5 false _ (SumB.no s5)).mono ?_; rintro e w' ⟨rfl, rfl⟩
            go_wp2_with fail
            go_ret
            exact ⟨by rw [trustB_no (fun h => s5 h.2.2.2.2.2.2.2.2.1)]; rfl, HBW.out⟩
        · skip
          go_wp2_with fail
          refine (l7Sum_b t3 true _ (SumB.yes s3)).mono ?_; rintro e w' ⟨rfl, rfl⟩
          go_wp2_with fail
          refine (l7Sum_b t4 false _ (SumB.no s4)).mono ?_; rintro e w' ⟨rfl, rfl⟩
          go_wp2_with fail
          go_ret
          exact ⟨by rw [trustB_no (fun h => s4 h.2.2.2.2.2.2.2.1)]; rfl, HBW.out⟩
      · skip
        go_wp2_with fail
        refine (l7Sum_b t3 false _ (SumB.no s3)).mono ?_; rintro e w' ⟨rfl, rfl⟩
        go_wp2_with fail
        go_ret
        exact ⟨by rw [trustB_no (fun h => s3 h.2.2.2.2.2.2.1)]; rfl, HBW.out⟩
  · have hG : ¬ trustOk key l x ⟨t0, t1, t2, t3, t4, t5, t6, t7⟩ := fun h => by
      have := hz.2 ⟨h.1, h.2.1, h.2.2.1, h.2.2.2.1, h.2.2.2.2.1⟩
      cases this
    go_wp2_with fail
    go_ret
    exact ⟨by rw [trustB_no hG]; rfl, HBW.out⟩
end Go.Proofs.YteopplldbcgjjaaGreatDoor.Mx
namespace Go.Proofs.YteopplldbcgjjaaGreatDoor.Mx
open Go.ChangeShapes Go.WideShapes Go.ChangeAt Go.RowKit
set_option linter.unusedVariables false
set_option maxHeartbeats 2000000 in
theorem toTrust_calls (t0 t1 t2 t3 t4 t5 t6 : Int) (t7 : Bool) (w : World) :
    Calls Tryz.prog 22 #[.agg #[.int .i64 t0, .int .i64 t1, .int .i64 t2, .int .i64 t3, .int .i64 t4, .int .i64 t5, .int .i64 t6, .bool t7]] w fun e w' => e = .returned (.agg #[.int .i64 t0, .int .i64 t1, .int .i64 t2, .int .i64 t3, .int .i64 t4, .int .i64 t5, .int .i64 t6, .bool t7]) ∧ Below w.heap.size w w' := by
  go_enter Tryz.func22, Tryz.ntmps22
  go_wp2_with fail
  exact bodyPost_ret (v := .agg #[.int .i64 t0, .int .i64 t1, .int .i64 t2, .int .i64 t3, .int .i64 t4, .int .i64 t5, .int .i64 t6, .bool t7]) (by simp [results, Tryz.results22, go_sem]) rfl ⟨rfl, (((Below.refl _ _).alloc (Nat.le_refl _) _).alloc (by simp) _).alloc (by simp; omega) _⟩
set_option maxHeartbeats 2000000 in
theorem eqTrust_same (t0 t1 t2 t3 t4 t5 t6 : Int) (t7 : Bool) (w : World) :
    Calls Tryz.prog 24 #[.agg #[.int .i64 t0, .int .i64 t1, .int .i64 t2, .int .i64 t3, .int .i64 t4, .int .i64 t5, .int .i64 t6, .bool t7], .agg #[.int .i64 t0, .int .i64 t1, .int .i64 t2, .int .i64 t3, .int .i64 t4, .int .i64 t5, .int .i64 t6, .bool t7]] w fun e w' => e = .returned (.bool true) ∧ Below w.heap.size w w' := by
  have hk := ((Kept.refl w).new 28 #[.int .i64 t0, .int .i64 t1, .int .i64 t2, .int .i64 t3, .int .i64 t4, .int .i64 t5, .int .i64 t6, .bool t7]).new 28 #[.int .i64 t0, .int .i64 t1, .int .i64 t2, .int .i64 t3, .int .i64 t4, .int .i64 t5, .int .i64 t6, .bool t7]
  rw [show (w.alloc (.cells #[.int .i64 t0, .int .i64 t1, .int .i64 t2, .int .i64 t3, .int .i64 t4, .int .i64 t5, .int .i64 t6, .bool t7] 28)).heap.size = w.heap.size + 1 by simp] at hk
  have HK := Lib.hid hk
  clear hk
  have n0 : (t0 != t0) = false := by simp
  have n1 : (t1 != t1) = false := by simp
  have n2 : (t2 != t2) = false := by simp
  have n3 : (t3 != t3) = false := by simp
  have n4 : (t4 != t4) = false := by simp
  have n5 : (t5 != t5) = false := by simp
  have n6 : (t6 != t6) = false := by simp
  have n7 : (t7 != t7) = false := by simp
  go_enter Tryz.func24, Tryz.ntmps24
  go_wp2_with fail
  go_ret
  exact ⟨rfl, HK.out.1⟩
end Go.Proofs.YteopplldbcgjjaaGreatDoor.Mx

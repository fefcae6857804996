/- CONTRACTS OF spec.CellOk, CellOf, ValueIn, TripleIn: what each call answers, at every argument; nothing that was there is written. -/
import Derived.Test.YthbkccagpggljaaTripA
import Derived.Test.YthbkccagpggljaaStreamC
import Derived.Test.YthbkccagpggljaaKept
namespace Go.Proofs.Ythbkccagpggljaa.Mx
open Go.ChangeShapes Go.WideShapes Go.ChangeAt Go.RowKit
set_option linter.unusedVariables false

/-- A right cell. -/
def isCell (t v : Int) : Prop := isTm t ∧ isVal v
instance (t v : Int) : Decidable (isCell t v) := inferInstanceAs (Decidable (_ ∧ _))
def isKey (key : Int) : Prop := 1 ≤ key ∧ key ≤ 1000000
instance (key : Int) : Decidable (isKey key) := inferInstanceAs (Decidable (_ ∧ _))
/-- What chapter 6 asks of CellOf: the time and the value. -/
noncomputable def cellOf (key a t v : Int) : Int × Int := if isKey key ∧ isTri a t v then (t, hiddenOf key a t v) else (0, 0)
/-- What chapter 6 asks of ValueIn. -/
noncomputable def valueIn (key a t v : Int) : Int := if isKey key ∧ isAt a ∧ isCell t v then shownOf key a t v else -1
/-- What chapter 6 asks of TripleIn. -/
def tripleIn (a t v : Int) : Int × Int × Int := if isTri a t v then (a, t, v) else (0, 0, 0)
theorem cellOf_yes {key a t v : Int} (hk : isKey key) (h : isTri a t v) : cellOf key a t v = (t, hiddenOf key a t v) := by unfold cellOf; rw [if_pos ⟨hk, h⟩]
theorem cellOf_no {key a t v : Int} (h : ¬ (isKey key ∧ isTri a t v)) : cellOf key a t v = (0, 0) := by unfold cellOf; rw [if_neg h]
theorem valueIn_yes {key a t v : Int} (hk : isKey key) (ha : isAt a) (h : isCell t v) : valueIn key a t v = shownOf key a t v := by unfold valueIn; rw [if_pos ⟨hk, ha, h⟩]
theorem valueIn_no {key a t v : Int} (h : ¬ (isKey key ∧ isAt a ∧ isCell t v)) : valueIn key a t v = -1 := by unfold valueIn; rw [if_neg h]
theorem tripleIn_yes {a t v : Int} (h : isTri a t v) : tripleIn a t v = (a, t, v) := by unfold tripleIn; rw [if_pos h]
theorem tripleIn_no {a t v : Int} (h : ¬ isTri a t v) : tripleIn a t v = (0, 0, 0) := by unfold tripleIn; rw [if_neg h]

/-- A cell's block, its two cells written. -/
theorem cell_end {w w1 : World} {r : Nat} {x y x0 y0 : Value} (hk : CellsAt w1 r 43 #[x0, y0]) (hb : Below w.heap.size w w1) (hr : w.heap.size ≤ r) :
    ∃ w4, (w1.setCell ⟨r, 0, none⟩ x).setCell ⟨r, 1, none⟩ y = w4 ∧ (w4.cell? ⟨r, 0, none⟩ = some x ∧ w4.cell? ⟨r, 1, none⟩ = some y) ∧ Below w.heap.size w w4 := by
  have h := (hk.set_ 0 x).set_ 1 y
  exact ⟨_, rfl, ⟨h.cell 0, h.cell 1⟩, (hb.setCell (p := ⟨r, 0, none⟩) hr x).setCell (p := ⟨r, 1, none⟩) hr y⟩

/-- spec.CellOf, at every argument. -/
theorem specCellOf_calls (key a t v : Int) (w : World) :
    Calls Try.prog 16 #[.int .i64 key, .int .i64 a, .int .i64 t, .int .i64 v] w fun e w' => e = .returned (.agg #[.int .i64 (cellOf key a t v).1, .int .i64 (cellOf key a t v).2]) ∧ Below w.heap.size w w' := by
  have HK := Lib.hid (CellsAt.new w 43 #[.int .i64 0, .int .i64 0])
  by_cases hk : isKey key
  · have C := Lib.hid (fun w => l1Key_yes key w hk.1 hk.2)
    have D := Lib.hid (fun w => specTripleOk_calls a t v w)
    by_cases h : isTri a t v
    · rw [cellOf_yes hk h]
      rw [decide_eq_true h] at D
      have E := Lib.hid (fun w => specHidden_calls key a t v w h.i64.1 h.i64.2.1)
      generalize hiddenOf key a t v = z at E
      clear hk h
      go_enter Try.func16, Try.ntmps16
      go_wp2_with fail
      refine (C.out _).mono ?_; rintro e w' ⟨rfl, rfl⟩
      go_wp2_with fail
      refine (D.out _).mono ?_; rintro e w1 ⟨rfl, b1⟩
      have B1 := Lib.hid b1
      clear b1
      go_wp2_with fail
      refine (E.out _).mono ?_; rintro e w2 ⟨rfl, b2⟩
      have bb := B1.out.trans (b2.mono B1.out.size)
      have hk2 := HK.out.below bb (by simp)
      have r0 : w2.cell? ⟨w.heap.size, 0, none⟩ = some (.int .i64 0) := hk2.cell 0
      have r1 : w2.cell? ⟨w.heap.size, 1, none⟩ = some (.int .i64 0) := hk2.cell 1
      have f0 := hk2.frozen 0
      have f1 := hk2.frozen 1
      have H2 := Lib.hid hk2
      have B2 := Lib.hid (((Below.refl w.heap.size w).alloc (Nat.le_refl _) _).trans (bb.mono (by simp)))
      clear b2 bb hk2 B1
      go_wp2_with fail
      obtain ⟨w9, e9, ⟨d0, d1⟩, hb⟩ := cell_end (x := .int .i64 t) (y := .int .i64 z) H2.out B2.out (Nat.le_refl _)
      rw [e9]
      exact bodyPost_ret (v := .agg #[.int .i64 t, .int .i64 z]) (by simp [results, Try.results16, go_sem, d0, d1]) rfl ⟨rfl, hb⟩
    · rw [cellOf_no (fun h' => h h'.2)]
      rw [decide_eq_false h] at D
      clear hk h
      go_enter Try.func16, Try.ntmps16
      go_wp2_with fail
      refine (C.out _).mono ?_; rintro e w' ⟨rfl, rfl⟩
      go_wp2_with fail
      refine (D.out _).mono ?_; rintro e w2 ⟨rfl, b2⟩
      have hk2 := HK.out.below b2 (by simp)
      have r0 : w2.cell? ⟨w.heap.size, 0, none⟩ = some (.int .i64 0) := hk2.cell 0
      have r1 : w2.cell? ⟨w.heap.size, 1, none⟩ = some (.int .i64 0) := hk2.cell 1
      have f0 := hk2.frozen 0
      have f1 := hk2.frozen 1
      have H2 := Lib.hid hk2
      have B2 := Lib.hid (((Below.refl w.heap.size w).alloc (Nat.le_refl _) _).trans (b2.mono (by simp)))
      clear b2 hk2
      go_wp2_with fail
      obtain ⟨w9, e9, ⟨d0, d1⟩, hb⟩ := cell_end (x := .int .i64 0) (y := .int .i64 0) H2.out B2.out (Nat.le_refl _)
      rw [e9]
      exact bodyPost_ret (v := .agg #[.int .i64 0, .int .i64 0]) (by simp [results, Try.results16, go_sem, d0, d1]) rfl ⟨rfl, hb⟩
  · have C := Lib.hid (fun w => l1Key_no key w (by unfold isKey at hk; omega))
    rw [cellOf_no (fun h' => hk h'.1)]
    clear hk
    go_enter Try.func16, Try.ntmps16
    go_wp2_with fail
    refine (C.out _).mono ?_; rintro e w' ⟨rfl, rfl⟩
    go_wp2_with fail
    exact bodyPost_ret (v := .agg #[.int .i64 0, .int .i64 0]) (by simp [results, Try.results16, go_sem]) rfl ⟨rfl, (Below.refl _ _).alloc (Nat.le_refl _) _⟩

/-- A triple's block, its three cells written. -/
theorem triple_end {w w1 : World} {r : Nat} {x y z x0 y0 z0 : Value} (hk : CellsAt w1 r 46 #[x0, y0, z0]) (hb : Below w.heap.size w w1) (hr : w.heap.size ≤ r) :
    ∃ w4, ((w1.setCell ⟨r, 0, none⟩ x).setCell ⟨r, 1, none⟩ y).setCell ⟨r, 2, none⟩ z = w4 ∧ (w4.cell? ⟨r, 0, none⟩ = some x ∧ w4.cell? ⟨r, 1, none⟩ = some y ∧ w4.cell? ⟨r, 2, none⟩ = some z) ∧ Below w.heap.size w w4 := by
  have h := ((hk.set_ 0 x).set_ 1 y).set_ 2 z
  exact ⟨_, rfl, ⟨h.cell 0, h.cell 1, h.cell 2⟩, ((hb.setCell (p := ⟨r, 0, none⟩) hr x).setCell (p := ⟨r, 1, none⟩) hr y).setCell (p := ⟨r, 2, none⟩) hr z⟩

/-- spec.TripleIn, at every argument. -/
theorem specTripleIn_calls (a t v : Int) (w : World) :
    Calls Try.prog 17 #[.int .i64 a, .agg #[.int .i64 t, .int .i64 v]] w fun e w' => e = .returned (.agg #[.int .i64 (tripleIn a t v).1, .int .i64 (tripleIn a t v).2.1, .int .i64 (tripleIn a t v).2.2]) ∧ Below w.heap.size w w' := by
  have k0 := ((((Kept.refl w).new 43 #[.int .i64 t, .int .i64 v]).new 46 #[.int .i64 0, .int .i64 0, .int .i64 0]).new 46 #[.int .i64 a, .int .i64 t, .int .i64 v])
  rw [show ((w.alloc (.cells #[.int .i64 t, .int .i64 v] 43)).alloc (.cells #[.int .i64 0, .int .i64 0, .int .i64 0] 46)).heap.size = w.heap.size + 1 + 1 by simp, show (w.alloc (.cells #[.int .i64 t, .int .i64 v] 43)).heap.size = w.heap.size + 1 by simp] at k0
  have K0 := Lib.hid k0
  clear k0
  have D := Lib.hid (fun w => specTripleOk_calls a t v w)
  by_cases h : isTri a t v
  · rw [tripleIn_yes h]
    rw [decide_eq_true h] at D
    clear h
    go_enter Try.func17, Try.ntmps17
    go_wp2_with fail
    refine (D.out _).mono ?_; rintro e w1 ⟨rfl, b1⟩
    have k1 := K0.out.below b1
    obtain ⟨e0, e1, e2⟩ := k1.three
    obtain ⟨r0, r1, r2⟩ := k1.tail.three
    have f0 := k1.tail.frozen (List.mem_cons_self ..) 0
    have f1 := k1.tail.frozen (List.mem_cons_self ..) 1
    have f2 := k1.tail.frozen (List.mem_cons_self ..) 2
    have K1 := Lib.hid k1
    clear b1 k1
    go_wp2_with fail
    obtain ⟨w9, e9, ⟨d0, d1, d2⟩, hb⟩ := triple_end (x := .int .i64 a) (y := .int .i64 t) (z := .int .i64 v) (K1.out.tail.at_ (List.mem_cons_self ..)) K1.out.1 (Nat.le_succ _)
    rw [e9]
    exact bodyPost_ret (v := .agg #[.int .i64 a, .int .i64 t, .int .i64 v]) (by simp [results, Try.results17, go_sem, d0, d1, d2]) rfl ⟨rfl, hb⟩
  · rw [tripleIn_no h]
    rw [decide_eq_false h] at D
    clear h
    go_enter Try.func17, Try.ntmps17
    go_wp2_with fail
    refine (D.out _).mono ?_; rintro e w1 ⟨rfl, b1⟩
    have k1 := K0.out.below b1
    obtain ⟨r0, r1, r2⟩ := k1.tail.three
    have f0 := k1.tail.frozen (List.mem_cons_self ..) 0
    have f1 := k1.tail.frozen (List.mem_cons_self ..) 1
    have f2 := k1.tail.frozen (List.mem_cons_self ..) 2
    have K1 := Lib.hid k1
    clear b1 k1
    go_wp2_with fail
    obtain ⟨w9, e9, ⟨d0, d1, d2⟩, hb⟩ := triple_end (x := .int .i64 0) (y := .int .i64 0) (z := .int .i64 0) (K1.out.tail.at_ (List.mem_cons_self ..)) K1.out.1 (Nat.le_succ _)
    rw [e9]
    exact bodyPost_ret (v := .agg #[.int .i64 0, .int .i64 0, .int .i64 0]) (by simp [results, Try.results17, go_sem, d0, d1, d2]) rfl ⟨rfl, hb⟩
end Go.Proofs.Ythbkccagpggljaa.Mx

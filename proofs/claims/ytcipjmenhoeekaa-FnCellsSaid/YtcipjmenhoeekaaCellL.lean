/- THE WALKS OF laws.FnExactCellOk, CellOf, ValueIn, TripleIn, GIVEN WHAT THE CODE'S FOUR FUNCTIONS ANSWER: each returns true at every argument, and writes nothing that was there. -/
import Derived.Test.YtcipjmenhoeekaaCellS
namespace Go.Proofs.Ytcipjmenhoeekaa.Mx
open Go.ChangeShapes Go.WideShapes Go.ChangeAt Go.RowKit
set_option linter.unusedVariables false

/-- What the code's own four answer, at every argument: to be shown of the code that landed. -/
def AnsCellOk : Prop := ∀ (t v : Int) (w : World), I64 t → I64 v → Calls Try.prog 18 #[.agg #[.int .i64 t, .int .i64 v]] w fun e w' => e = .returned (.bool (decide (isCell t v))) ∧ Below w.heap.size w w'
def AnsCellOf : Prop := ∀ (key a t v : Int) (w : World), I64 key → I64 a → I64 t → I64 v → Calls Try.prog 10 #[.int .i64 key, .int .i64 a, .int .i64 t, .int .i64 v] w fun e w' => e = .returned (.agg #[.int .i64 (cellOf key a t v).1, .int .i64 (cellOf key a t v).2]) ∧ Below w.heap.size w w'
def AnsValueIn : Prop := ∀ (key a t v : Int) (w : World), I64 key → I64 a → I64 t → I64 v → Calls Try.prog 14 #[.int .i64 key, .int .i64 a, .agg #[.int .i64 t, .int .i64 v]] w fun e w' => e = .returned (.int .i64 (valueIn key a t v)) ∧ Below w.heap.size w w'
def AnsTripleIn : Prop := ∀ (a t v : Int) (w : World), I64 a → I64 t → I64 v → Calls Try.prog 16 #[.int .i64 a, .agg #[.int .i64 t, .int .i64 v]] w fun e w' => e = .returned (.agg #[.int .i64 (tripleIn a t v).1, .int .i64 (tripleIn a t v).2.1, .int .i64 (tripleIn a t v).2.2]) ∧ Below w.heap.size w w'

/-- A cell of the laws' own type, copied. -/
theorem toCell_calls (t v : Int) (w : World) :
    Calls Try.prog 22 #[.agg #[.int .i64 t, .int .i64 v]] w fun e w' => e = .returned (.agg #[.int .i64 t, .int .i64 v]) ∧ Below w.heap.size w w' := by
  go_enter Try.func22, Try.ntmps22
  go_wp2_with fail
  exact bodyPost_ret (v := .agg #[.int .i64 t, .int .i64 v]) (by simp [results, Try.results22, go_sem]) rfl ⟨rfl, (((Below.refl _ _).alloc (Nat.le_refl _) _).alloc (by simp) _).alloc (by simp; omega) _⟩

/-- Two that read alike are called equal. -/
theorem eqCel_same (t v : Int) (w : World) :
    Calls Try.prog 23 #[.agg #[.int .i64 t, .int .i64 v], .agg #[.int .i64 t, .int .i64 v]] w fun e w' => e = .returned (.bool true) ∧ Below w.heap.size w w' := by
  have hk := ((Kept.refl w).new 27 #[.int .i64 t, .int .i64 v]).new 27 #[.int .i64 t, .int .i64 v]
  rw [show (w.alloc (.cells #[.int .i64 t, .int .i64 v] 27)).heap.size = w.heap.size + 1 by simp] at hk
  have HK := Lib.hid hk
  clear hk
  have et : (t != t) = false := by simp
  have ev : (v != v) = false := by simp
  go_enter Try.func23, Try.ntmps23
  go_wp2_with fail
  go_ret
  exact ⟨rfl, HK.out.1⟩
theorem eqTrip_same (a t v : Int) (w : World) :
    Calls Try.prog 24 #[.agg #[.int .i64 a, .int .i64 t, .int .i64 v], .agg #[.int .i64 a, .int .i64 t, .int .i64 v]] w fun e w' => e = .returned (.bool true) ∧ Below w.heap.size w w' := by
  have hk := ((Kept.refl w).new 35 #[.int .i64 a, .int .i64 t, .int .i64 v]).new 35 #[.int .i64 a, .int .i64 t, .int .i64 v]
  rw [show (w.alloc (.cells #[.int .i64 a, .int .i64 t, .int .i64 v] 35)).heap.size = w.heap.size + 1 by simp] at hk
  have HK := Lib.hid hk
  clear hk
  have ea : (a != a) = false := by simp
  have et : (t != t) = false := by simp
  have ev : (v != v) = false := by simp
  go_enter Try.func24, Try.ntmps24
  go_wp2_with fail
  go_ret
  exact ⟨rfl, HK.out.1⟩

theorem exactCellOk_calls (H : AnsCellOk) (t v : Int) (w : World) (ht : I64 t) (hv : I64 v) :
    Calls Try.prog 4 #[.agg #[.int .i64 t, .int .i64 v]] w fun e w' => e = .returned (.bool true) ∧ Below w.heap.size w w' := by
  have T := Lib.hid (fun w => toCell_calls t v w)
  have C := Lib.hid (fun w => H t v w ht hv)
  have D := Lib.hid (fun w => specCellOk_calls t v w)
  have HB := Lib.hid (CellsAt.new w 42 #[.int .i64 t, .int .i64 v])
  generalize decide (isCell t v) = b at C D
  clear ht hv H
  go_enter Try.func4, Try.ntmps4
  go_wp2_with fail
  refine (T.out _).mono ?_; rintro e w1 ⟨rfl, b1⟩
  have B1 := Lib.hid b1
  clear b1
  go_wp2_with fail
  refine (D.out _).mono ?_; rintro e w2 ⟨rfl, b2⟩
  have B2 := Lib.hid (B1.out.trans (b2.mono B1.out.size))
  have hc := HB.out.below B2.out (by simp)
  have c0 : w2.cell? ⟨w.heap.size, 0, none⟩ = some (.int .i64 t) := hc.cell 0
  have c1 : w2.cell? ⟨w.heap.size, 1, none⟩ = some (.int .i64 v) := hc.cell 1
  clear b2 hc B1
  go_wp2_with fail
  refine (T.out _).mono ?_; rintro e w3 ⟨rfl, b3⟩
  have B3 := Lib.hid (B2.out.trans (b3.mono B2.out.size))
  clear b3 B2
  go_wp2_with fail
  refine (C.out _).mono ?_; rintro e w4 ⟨rfl, b4⟩
  have B4 := Lib.hid (B3.out.trans (b4.mono B3.out.size))
  clear b4 B3
  go_wp2_with fail
  go_ret
  exact ⟨rfl, ((Below.refl w.heap.size w).alloc (Nat.le_refl _) _).trans (B4.out.mono (by simp))⟩

theorem exactCellOf_calls (H : AnsCellOf) (key a t v : Int) (w : World) (hk : I64 key) (ha : I64 a) (ht : I64 t) (hv : I64 v) :
    Calls Try.prog 5 #[.int .i64 key, .int .i64 a, .int .i64 t, .int .i64 v] w fun e w' => e = .returned (.bool true) ∧ Below w.heap.size w w' := by
  have C := Lib.hid (fun w => H key a t v w hk ha ht hv)
  have D := Lib.hid (fun w => specCellOf_calls key a t v w)
  have Q := Lib.hid (fun w => eqCel_same (cellOf key a t v).1 (cellOf key a t v).2 w)
  generalize cellOf key a t v = q at C D Q
  obtain ⟨x, y⟩ := q
  simp only at C D Q
  clear hk ha ht hv H
  go_enter Try.func5, Try.ntmps5
  go_wp2_with fail
  refine (D.out _).mono ?_; rintro e w1 ⟨rfl, b1⟩
  have K1 := Lib.hid ((Kept.of_below b1).new 27 #[.int .i64 x, .int .i64 y])
  clear b1
  go_wp2_with fail
  refine (C.out _).mono ?_; rintro e w2 ⟨rfl, b2⟩
  have k2 := (K1.out.below b2).new 27 #[.int .i64 x, .int .i64 y]
  have c0 := k2.cell (List.mem_cons_of_mem _ (List.mem_cons_self ..)) 0
  have c1 := k2.cell (List.mem_cons_of_mem _ (List.mem_cons_self ..)) 1
  simp only [List.getElem?_toArray, List.getElem?_cons_zero, List.getElem?_cons_succ] at c0 c1
  have K2 := Lib.hid k2
  clear b2 K1 k2
  go_wp2_with fail
  refine (Q.out _).mono ?_; rintro e w3 ⟨rfl, b3⟩
  have B3 := Lib.hid (K2.out.below b3).1
  clear b3
  go_wp2_with fail
  go_ret
  exact ⟨rfl, B3.out⟩

theorem exactValueIn_calls (H : AnsValueIn) (key a t v : Int) (w : World) (hk : I64 key) (ha : I64 a) (ht : I64 t) (hv : I64 v) :
    Calls Try.prog 6 #[.int .i64 key, .int .i64 a, .agg #[.int .i64 t, .int .i64 v]] w fun e w' => e = .returned (.bool true) ∧ Below w.heap.size w w' := by
  have T := Lib.hid (fun w => toCell_calls t v w)
  have C := Lib.hid (fun w => H key a t v w hk ha ht hv)
  have D := Lib.hid (fun w => specValueIn_calls key a t v w)
  have HB := Lib.hid (CellsAt.new w 42 #[.int .i64 t, .int .i64 v])
  generalize valueIn key a t v = b at C D
  clear hk ha ht hv H
  go_enter Try.func6, Try.ntmps6
  go_wp2_with fail
  refine (T.out _).mono ?_; rintro e w1 ⟨rfl, b1⟩
  have B1 := Lib.hid b1
  clear b1
  go_wp2_with fail
  refine (D.out _).mono ?_; rintro e w2 ⟨rfl, b2⟩
  have B2 := Lib.hid (B1.out.trans (b2.mono B1.out.size))
  have hc := HB.out.below B2.out (by simp)
  have c0 : w2.cell? ⟨w.heap.size, 0, none⟩ = some (.int .i64 t) := hc.cell 0
  have c1 : w2.cell? ⟨w.heap.size, 1, none⟩ = some (.int .i64 v) := hc.cell 1
  clear b2 hc B1
  go_wp2_with fail
  refine (T.out _).mono ?_; rintro e w3 ⟨rfl, b3⟩
  have B3 := Lib.hid (B2.out.trans (b3.mono B2.out.size))
  clear b3 B2
  go_wp2_with fail
  refine (C.out _).mono ?_; rintro e w4 ⟨rfl, b4⟩
  have B4 := Lib.hid (B3.out.trans (b4.mono B3.out.size))
  clear b4 B3
  go_wp2_with fail
  go_ret
  exact ⟨rfl, ((Below.refl w.heap.size w).alloc (Nat.le_refl _) _).trans (B4.out.mono (by simp))⟩

theorem exactTripleIn_calls (H : AnsTripleIn) (a t v : Int) (w : World) (ha : I64 a) (ht : I64 t) (hv : I64 v) :
    Calls Try.prog 7 #[.int .i64 a, .agg #[.int .i64 t, .int .i64 v]] w fun e w' => e = .returned (.bool true) ∧ Below w.heap.size w w' := by
  have T := Lib.hid (fun w => toCell_calls t v w)
  have C := Lib.hid (fun w => H a t v w ha ht hv)
  have D := Lib.hid (fun w => specTripleIn_calls a t v w)
  have HB := Lib.hid (CellsAt.new w 42 #[.int .i64 t, .int .i64 v])
  have Q := Lib.hid (fun w => eqTrip_same (tripleIn a t v).1 (tripleIn a t v).2.1 (tripleIn a t v).2.2 w)
  generalize tripleIn a t v = q at C D Q
  obtain ⟨x, y, z⟩ := q
  simp only at C D Q
  clear ha ht hv H
  go_enter Try.func7, Try.ntmps7
  go_wp2_with fail
  refine (T.out _).mono ?_; rintro e w1 ⟨rfl, b1⟩
  have B1 := Lib.hid b1
  clear b1
  go_wp2_with fail
  refine (D.out _).mono ?_; rintro e w2 ⟨rfl, b2⟩
  have B2 := Lib.hid (B1.out.trans (b2.mono B1.out.size))
  have hc := HB.out.below B2.out (by simp)
  have c0 : w2.cell? ⟨w.heap.size, 0, none⟩ = some (.int .i64 t) := hc.cell 0
  have c1 : w2.cell? ⟨w.heap.size, 1, none⟩ = some (.int .i64 v) := hc.cell 1
  clear b2 hc B1
  have k2 := (((Kept.refl w).new 42 #[.int .i64 t, .int .i64 v]).below B2.out).new 35 #[.int .i64 x, .int .i64 y, .int .i64 z]
  have n0 := k2.tail.cell (List.mem_cons_self ..) 0
  have n1 := k2.tail.cell (List.mem_cons_self ..) 1
  simp only [List.getElem?_toArray, List.getElem?_cons_zero, List.getElem?_cons_succ] at n0 n1
  have KN := Lib.hid k2
  clear k2 B2
  go_wp2_with fail
  refine (T.out _).mono ?_; rintro e w3 ⟨rfl, b3⟩
  have K2 := Lib.hid (KN.out.below b3)
  clear b3 c0 c1 n0 n1 KN
  go_wp2_with fail
  refine (C.out _).mono ?_; rintro e w4 ⟨rfl, b4⟩
  have k4 := (K2.out.below b4).new 35 #[.int .i64 x, .int .i64 y, .int .i64 z]
  obtain ⟨c0, c1, c2⟩ := k4.tail.three
  have K4 := Lib.hid k4
  clear b4 K2 k4
  go_wp2_with fail
  refine (Q.out _).mono ?_; rintro e w5 ⟨rfl, b5⟩
  have B5 := Lib.hid (K4.out.below b5).1
  clear b5
  go_wp2_with fail
  go_ret
  exact ⟨rfl, B5.out⟩

end Go.Proofs.Ytcipjmenhoeekaa.Mx

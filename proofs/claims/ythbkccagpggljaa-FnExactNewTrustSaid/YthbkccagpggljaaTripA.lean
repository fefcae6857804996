/- CONTRACTS OF impl.isPlace, isTime, TripleOk, tagged AND spec.l3At, l3Time, TripleOk, TagOf: what each call answers, at every argument; nothing that was there is written. -/
import Derived.Test.YthbkccagpggljaaStreamA
namespace Go.Proofs.Ythbkccagpggljaa.Mx
open Go.ChangeShapes Go.WideShapes Go.ChangeAt Go.RowKit
set_option linter.unusedVariables false

def isAt (a : Int) : Prop := 0 ≤ a ∧ a ≤ 23
def isTm (t : Int) : Prop := 0 ≤ t ∧ t ≤ 100000
/-- A right triple. -/
def isTri (a t v : Int) : Prop := isAt a ∧ isTm t ∧ isVal v
instance (a : Int) : Decidable (isAt a) := inferInstanceAs (Decidable (_ ∧ _))
instance (a : Int) : Decidable (isTm a) := inferInstanceAs (Decidable (_ ∧ _))
instance (a : Int) : Decidable (isVal a) := inferInstanceAs (Decidable (_ ∧ _))
instance (a t v : Int) : Decidable (isTri a t v) := inferInstanceAs (Decidable (_ ∧ _))
/-- What chapter 3 asks of TagOf. -/
noncomputable def tagOf (key a t v : Int) : Int := if isTri a t v then mixOf key [2, a, t, v] else -1
theorem tagOf_yes {key a t v : Int} (h : isTri a t v) : tagOf key a t v = mixOf key [2, a, t, v] := by unfold tagOf; rw [if_pos h]
theorem tagOf_no {key a t v : Int} (h : ¬ isTri a t v) : tagOf key a t v = -1 := by unfold tagOf; rw [if_neg h]
theorem tagOf_bd (key a t v : Int) : -1 ≤ tagOf key a t v ∧ tagOf key a t v ≤ 4611686018427387903 := by
  by_cases h : isTri a t v
  · rw [tagOf_yes h]; exact mixOf_bd _ _
  · rw [tagOf_no h]; omega
theorem isTri.i64 {a t v : Int} (h : isTri a t v) : I64 a ∧ I64 t ∧ I64 v := by
  unfold isTri isAt isTm isVal at h
  exact ⟨⟨by omega, by omega⟩, ⟨by omega, by omega⟩, ⟨by omega, by omega⟩⟩

theorem isPlace_yes (s : Int) (w : World) (h : isAt s) :
    Calls Try.prog 56 #[.int .i64 s] w fun e w' => e = .returned (.bool true) ∧ w = w' := by
  obtain ⟨h0, h1⟩ := h
  have h2 : s < 24 := by omega
  go_enter Try.func56, Try.ntmps56
  go_wp2
  go_ret
  exact ⟨rfl, rfl⟩
theorem isPlace_no (s : Int) (w : World) (h : ¬ isAt s) :
    Calls Try.prog 56 #[.int .i64 s] w fun e w' => e = .returned (.bool false) ∧ w = w' := by
  unfold isAt at h
  by_cases h0 : 0 ≤ s
  · have h2 : ¬ s < 24 := by omega
    clear h
    go_enter Try.func56, Try.ntmps56
    go_wp2
    go_ret
    exact ⟨rfl, rfl⟩
  · clear h
    go_enter Try.func56, Try.ntmps56
    go_wp2
    go_ret
    exact ⟨rfl, rfl⟩
theorem isTime_yes (s : Int) (w : World) (h : isTm s) :
    Calls Try.prog 70 #[.int .i64 s] w fun e w' => e = .returned (.bool true) ∧ w = w' := by
  obtain ⟨h0, h1⟩ := h
  go_enter Try.func70, Try.ntmps70
  go_wp2
  go_ret
  exact ⟨rfl, rfl⟩
theorem isTime_no (s : Int) (w : World) (h : ¬ isTm s) :
    Calls Try.prog 70 #[.int .i64 s] w fun e w' => e = .returned (.bool false) ∧ w = w' := by
  unfold isTm at h
  by_cases h0 : 0 ≤ s
  · have h2 : ¬ s ≤ 100000 := by omega
    clear h
    go_enter Try.func70, Try.ntmps70
    go_wp2
    go_ret
    exact ⟨rfl, rfl⟩
  · clear h
    go_enter Try.func70, Try.ntmps70
    go_wp2
    go_ret
    exact ⟨rfl, rfl⟩
theorem l3At_yes (s : Int) (w : World) (h : isAt s) :
    Calls Try.prog 37 #[.int .i64 s] w fun e w' => e = .returned (.bool true) ∧ w = w' := by
  obtain ⟨h0, h1⟩ := h
  go_enter Try.func37, Try.ntmps37
  go_wp2_with (go_at_call 27; refine (l1In_yes _ _ _ _ h0 h1).mono ?_; rintro e w' ⟨rfl, rfl⟩)
  go_ret
  exact ⟨rfl, rfl⟩
theorem l3At_no (s : Int) (w : World) (h : ¬ isAt s) :
    Calls Try.prog 37 #[.int .i64 s] w fun e w' => e = .returned (.bool false) ∧ w = w' := by
  unfold isAt at h
  have h' : s < 0 ∨ 23 < s := by omega
  clear h
  go_enter Try.func37, Try.ntmps37
  go_wp2_with (go_at_call 27; refine (l1In_no _ _ _ _ h').mono ?_; rintro e w' ⟨rfl, rfl⟩)
  go_ret
  exact ⟨rfl, rfl⟩
theorem l3Time_yes (s : Int) (w : World) (h : isTm s) :
    Calls Try.prog 38 #[.int .i64 s] w fun e w' => e = .returned (.bool true) ∧ w = w' := by
  obtain ⟨h0, h1⟩ := h
  go_enter Try.func38, Try.ntmps38
  go_wp2_with (go_at_call 27; refine (l1In_yes _ _ _ _ h0 h1).mono ?_; rintro e w' ⟨rfl, rfl⟩)
  go_ret
  exact ⟨rfl, rfl⟩
theorem l3Time_no (s : Int) (w : World) (h : ¬ isTm s) :
    Calls Try.prog 38 #[.int .i64 s] w fun e w' => e = .returned (.bool false) ∧ w = w' := by
  unfold isTm at h
  have h' : s < 0 ∨ 100000 < s := by omega
  clear h
  go_enter Try.func38, Try.ntmps38
  go_wp2_with (go_at_call 27; refine (l1In_no _ _ _ _ h').mono ?_; rintro e w' ⟨rfl, rfl⟩)
  go_ret
  exact ⟨rfl, rfl⟩

/-- impl.TripleOk, at every triple. -/
theorem tripleOk_calls (a t v : Int) (w : World) :
    Calls Try.prog 63 #[.agg #[.int .i64 a, .int .i64 t, .int .i64 v]] w fun e w' => e = .returned (.bool (decide (isTri a t v))) ∧ Below w.heap.size w w' := by
  by_cases ha : isAt a
  · by_cases ht : isTm t
    · by_cases hv : isVal v
      · have C := Lib.hid (fun w => isPlace_yes a w ha)
        have D := Lib.hid (fun w => isTime_yes t w ht)
        have E := Lib.hid (fun w => isValue_yes v w hv)
        rw [decide_eq_true (show isTri a t v from ⟨ha, ht, hv⟩)]
        clear ha ht hv
        go_enter Try.func63, Try.ntmps63
        go_wp2_with fail
        refine (C.out _).mono ?_; rintro e w' ⟨rfl, rfl⟩
        go_wp2_with fail
        refine (D.out _).mono ?_; rintro e w' ⟨rfl, rfl⟩
        go_wp2_with fail
        refine (E.out _).mono ?_; rintro e w' ⟨rfl, rfl⟩
        go_wp2_with fail
        go_ret
        exact ⟨rfl, (Below.refl _ _).alloc (Nat.le_refl _) _⟩
      · have C := Lib.hid (fun w => isPlace_yes a w ha)
        have D := Lib.hid (fun w => isTime_yes t w ht)
        have E := Lib.hid (fun w => isValue_no v w hv)
        rw [decide_eq_false (show ¬ isTri a t v from fun h => hv h.2.2)]
        clear ha ht hv
        go_enter Try.func63, Try.ntmps63
        go_wp2_with fail
        refine (C.out _).mono ?_; rintro e w' ⟨rfl, rfl⟩
        go_wp2_with fail
        refine (D.out _).mono ?_; rintro e w' ⟨rfl, rfl⟩
        go_wp2_with fail
        refine (E.out _).mono ?_; rintro e w' ⟨rfl, rfl⟩
        go_wp2_with fail
        go_ret
        exact ⟨rfl, (Below.refl _ _).alloc (Nat.le_refl _) _⟩
    · have C := Lib.hid (fun w => isPlace_yes a w ha)
      have D := Lib.hid (fun w => isTime_no t w ht)
      rw [decide_eq_false (show ¬ isTri a t v from fun h => ht h.2.1)]
      clear ha ht
      go_enter Try.func63, Try.ntmps63
      go_wp2_with fail
      refine (C.out _).mono ?_; rintro e w' ⟨rfl, rfl⟩
      go_wp2_with fail
      refine (D.out _).mono ?_; rintro e w' ⟨rfl, rfl⟩
      go_wp2_with fail
      go_ret
      exact ⟨rfl, (Below.refl _ _).alloc (Nat.le_refl _) _⟩
  · have C := Lib.hid (fun w => isPlace_no a w ha)
    rw [decide_eq_false (show ¬ isTri a t v from fun h => ha h.1)]
    clear ha
    go_enter Try.func63, Try.ntmps63
    go_wp2_with fail
    refine (C.out _).mono ?_; rintro e w' ⟨rfl, rfl⟩
    go_wp2_with fail
    go_ret
    exact ⟨rfl, (Below.refl _ _).alloc (Nat.le_refl _) _⟩

/-- spec.TripleOk, at every triple. -/
theorem specTripleOk_calls (a t v : Int) (w : World) :
    Calls Try.prog 30 #[.agg #[.int .i64 a, .int .i64 t, .int .i64 v]] w fun e w' => e = .returned (.bool (decide (isTri a t v))) ∧ Below w.heap.size w w' := by
  by_cases ha : isAt a
  · by_cases ht : isTm t
    · by_cases hv : isVal v
      · have C := Lib.hid (fun w => l3At_yes a w ha)
        have D := Lib.hid (fun w => l3Time_yes t w ht)
        have E := Lib.hid (fun w => l2Value_yes v w hv)
        rw [decide_eq_true (show isTri a t v from ⟨ha, ht, hv⟩)]
        clear ha ht hv
        go_enter Try.func30, Try.ntmps30
        go_wp2_with fail
        refine (C.out _).mono ?_; rintro e w' ⟨rfl, rfl⟩
        go_wp2_with fail
        refine (D.out _).mono ?_; rintro e w' ⟨rfl, rfl⟩
        go_wp2_with fail
        refine (E.out _).mono ?_; rintro e w' ⟨rfl, rfl⟩
        go_wp2_with fail
        go_ret
        exact ⟨rfl, (Below.refl _ _).alloc (Nat.le_refl _) _⟩
      · have C := Lib.hid (fun w => l3At_yes a w ha)
        have D := Lib.hid (fun w => l3Time_yes t w ht)
        have E := Lib.hid (fun w => l2Value_no v w hv)
        rw [decide_eq_false (show ¬ isTri a t v from fun h => hv h.2.2)]
        clear ha ht hv
        go_enter Try.func30, Try.ntmps30
        go_wp2_with fail
        refine (C.out _).mono ?_; rintro e w' ⟨rfl, rfl⟩
        go_wp2_with fail
        refine (D.out _).mono ?_; rintro e w' ⟨rfl, rfl⟩
        go_wp2_with fail
        refine (E.out _).mono ?_; rintro e w' ⟨rfl, rfl⟩
        go_wp2_with fail
        go_ret
        exact ⟨rfl, (Below.refl _ _).alloc (Nat.le_refl _) _⟩
    · have C := Lib.hid (fun w => l3At_yes a w ha)
      have D := Lib.hid (fun w => l3Time_no t w ht)
      rw [decide_eq_false (show ¬ isTri a t v from fun h => ht h.2.1)]
      clear ha ht
      go_enter Try.func30, Try.ntmps30
      go_wp2_with fail
      refine (C.out _).mono ?_; rintro e w' ⟨rfl, rfl⟩
      go_wp2_with fail
      refine (D.out _).mono ?_; rintro e w' ⟨rfl, rfl⟩
      go_wp2_with fail
      go_ret
      exact ⟨rfl, (Below.refl _ _).alloc (Nat.le_refl _) _⟩
  · have C := Lib.hid (fun w => l3At_no a w ha)
    rw [decide_eq_false (show ¬ isTri a t v from fun h => ha h.1)]
    clear ha
    go_enter Try.func30, Try.ntmps30
    go_wp2_with fail
    refine (C.out _).mono ?_; rintro e w' ⟨rfl, rfl⟩
    go_wp2_with fail
    go_ret
    exact ⟨rfl, (Below.refl _ _).alloc (Nat.le_refl _) _⟩

/-- Four numbers laid by the call itself, mixed. -/
theorem mixed_four (key x y z u : Int) (g : Nat) (w : World) (hg : w.heap.size = g) (a : I64 x) (b : I64 y) (c : I64 z) (d : I64 u) :
    Calls Try.prog 68 #[.int .i64 key, .slice (some ⟨g, 0, none⟩) 4 4] (w.alloc (.cells #[.int .i64 x, .int .i64 y, .int .i64 z, .int .i64 u] 2)) fun e w' => e = .returned (.int .i64 (mixOf key [x, y, z, u])) ∧ w.alloc (.cells #[.int .i64 x, .int .i64 y, .int .i64 z, .int .i64 u] 2) = w' := by
  subst hg
  exact mixed_calls key (some ⟨w.heap.size, 0, none⟩) [x, y, z, u] 4 (w.heap.size + 1) _ (by simp [maxLen]) (CellsAt.reads [x, y, z, u] (CellsAt.new w 2 _)) (I64s.cons a.1 a.2 (i64s_three b c d))
theorem specMix_four (key x y z u : Int) (g : Nat) (w : World) (hg : w.heap.size = g) (a : I64 x) (b : I64 y) (c : I64 z) (d : I64 u) :
    Calls Try.prog 41 #[.int .i64 key, .slice (some ⟨g, 0, none⟩) 4 4] (w.alloc (.cells #[.int .i64 x, .int .i64 y, .int .i64 z, .int .i64 u] 2)) fun e w' => e = .returned (.int .i64 (mixOf key [x, y, z, u])) ∧ w.alloc (.cells #[.int .i64 x, .int .i64 y, .int .i64 z, .int .i64 u] 2) = w' := by
  subst hg
  exact specMix_calls key (some ⟨w.heap.size, 0, none⟩) [x, y, z, u] 4 (w.heap.size + 1) _ (by simp [maxLen]) (CellsAt.reads [x, y, z, u] (CellsAt.new w 2 _)) (I64s.cons a.1 a.2 (i64s_three b c d))

theorem two_i64 : I64 2 := ⟨by omega, by omega⟩

theorem tagged_calls (key a t v : Int) (w : World) :
    Calls Try.prog 69 #[.int .i64 key, .agg #[.int .i64 a, .int .i64 t, .int .i64 v]] w fun e w' => e = .returned (.int .i64 (tagOf key a t v)) ∧ Below w.heap.size w w' := by
  by_cases h : isTri a t v
  · have K := Lib.hid (fun w => tripleOk_calls a t v w)
    rw [decide_eq_true h] at K
    have C := Lib.hid (fun g w hg => mixed_four key 2 a t v g w hg two_i64 h.i64.1 h.i64.2.1 h.i64.2.2)
    rw [tagOf_yes h]
    clear h
    generalize mixOf key [2, a, t, v] = m at C
    go_enter Try.func69, Try.ntmps69
    go_wp2_with fail
    refine (K.out _).mono ?_; rintro e w1 ⟨rfl, b1⟩
    have hb := (CellsAt.new w 46 #[.int .i64 a, .int .i64 t, .int .i64 v]).below b1 (by simp)
    have c0 : w1.cell? ⟨w.heap.size, 0, none⟩ = some (.int .i64 a) := hb.cell 0
    have c1 : w1.cell? ⟨w.heap.size, 1, none⟩ = some (.int .i64 t) := hb.cell 1
    have c2 : w1.cell? ⟨w.heap.size, 2, none⟩ = some (.int .i64 v) := hb.cell 2
    have B1 := Lib.hid (((Below.refl w.heap.size w).alloc (Nat.le_refl _) _).trans (b1.mono (by simp)))
    clear hb b1
    go_wp2_with fail
    refine (C.out _ _ ?_).mono ?_; (first | rfl | simp); rintro e w7 ⟨rfl, h7⟩
    subst h7
    go_wp2_with fail
    go_ret
    exact ⟨rfl, B1.out.alloc B1.out.size _⟩
  · have K := Lib.hid (fun w => tripleOk_calls a t v w)
    rw [decide_eq_false h] at K
    rw [tagOf_no h]
    clear h
    go_enter Try.func69, Try.ntmps69
    go_wp2_with fail
    refine (K.out _).mono ?_; rintro e w1 ⟨rfl, b1⟩
    have B1 := Lib.hid (((Below.refl w.heap.size w).alloc (Nat.le_refl _) _).trans (b1.mono (by simp)))
    clear b1
    go_wp2_with fail
    go_ret
    exact ⟨rfl, B1.out⟩

theorem specTag_calls (key a t v : Int) (w : World) :
    Calls Try.prog 33 #[.int .i64 key, .agg #[.int .i64 a, .int .i64 t, .int .i64 v]] w fun e w' => e = .returned (.int .i64 (tagOf key a t v)) ∧ Below w.heap.size w w' := by
  by_cases h : isTri a t v
  · have K := Lib.hid (fun w => specTripleOk_calls a t v w)
    rw [decide_eq_true h] at K
    have C := Lib.hid (fun g w hg => specMix_four key 2 a t v g w hg two_i64 h.i64.1 h.i64.2.1 h.i64.2.2)
    rw [tagOf_yes h]
    clear h
    generalize mixOf key [2, a, t, v] = m at C
    go_enter Try.func33, Try.ntmps33
    go_wp2_with fail
    refine (K.out _).mono ?_; rintro e w1 ⟨rfl, b1⟩
    have hb := (CellsAt.new w 46 #[.int .i64 a, .int .i64 t, .int .i64 v]).below b1 (by simp)
    have c0 : w1.cell? ⟨w.heap.size, 0, none⟩ = some (.int .i64 a) := hb.cell 0
    have c1 : w1.cell? ⟨w.heap.size, 1, none⟩ = some (.int .i64 t) := hb.cell 1
    have c2 : w1.cell? ⟨w.heap.size, 2, none⟩ = some (.int .i64 v) := hb.cell 2
    have B1 := Lib.hid (((Below.refl w.heap.size w).alloc (Nat.le_refl _) _).trans (b1.mono (by simp)))
    clear hb b1
    go_wp2_with fail
    refine (C.out _ _ ?_).mono ?_; (first | rfl | simp); rintro e w7 ⟨rfl, h7⟩
    subst h7
    go_wp2_with fail
    go_ret
    exact ⟨rfl, B1.out.alloc B1.out.size _⟩
  · have K := Lib.hid (fun w => specTripleOk_calls a t v w)
    rw [decide_eq_false h] at K
    rw [tagOf_no h]
    clear h
    go_enter Try.func33, Try.ntmps33
    go_wp2_with fail
    refine (K.out _).mono ?_; rintro e w1 ⟨rfl, b1⟩
    have B1 := Lib.hid (((Below.refl w.heap.size w).alloc (Nat.le_refl _) _).trans (b1.mono (by simp)))
    clear b1
    go_wp2_with fail
    go_ret
    exact ⟨rfl, B1.out⟩
end Go.Proofs.Ythbkccagpggljaa.Mx

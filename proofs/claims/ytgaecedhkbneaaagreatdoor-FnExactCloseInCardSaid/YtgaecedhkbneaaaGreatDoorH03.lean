import Derived.Test.YtgaecedhkbneaaaGreatDoorH02
import Derived.Test.YtgaecedhkbneaaaGreatDoorH01
import Derived.Deep.RegionWith
namespace Go.Proofs.YtgaecedhkbneaaaGreatDoor.Mx
open Go.ChangeShapes Go.WideShapes Go.ChangeAt Go.RowKit
set_option linter.unusedVariables false
theorem szInt64S_no (A : Option Addr) (n cap : Nat) (w : World) (hn : n ≤ maxLen) (h : 1048576 < n) :
    Calls Tryz.prog 135 #[.slice A n cap, .int .i64 1048576] w fun e w' => e = .returned (.int .i64 (-1)) ∧ w = w' := by
  unfold maxLen at hn
  have hs : (1048576 : Int) - n < 0 := by omega
  go_enter Tryz.func135, Tryz.ntmps135
  go_wp2
  go_ret
  exact ⟨rfl, rfl⟩
theorem szInt64S_yes (A : Option Addr) (n cap : Nat) (w : World) (h : n ≤ 1048576) :
    Calls Tryz.prog 135 #[.slice A n cap, .int .i64 1048576] w fun e w' => e = .returned (.int .i64 (1048576 - n)) ∧ w = w' := by
  have hs : ¬ (1048576 : Int) - n < 0 := by omega
  go_enter Tryz.func135, Tryz.ntmps135
  go_wp2
  go_ret
  exact ⟨rfl, rfl⟩
theorem szPlan_no (key : Int) (A : Option Addr) (n cap : Nat) (w : World) (hn : n ≤ maxLen) (h : 1048576 < n) :
    Calls Tryz.prog 70 #[.agg (pA key A n cap), .int .i64 1048576] w fun e w' => e = .returned (.int .i64 (-1)) ∧ Below w.heap.size w w' := by
  have C := Lib.hid (fun w => szInt64S_no A n cap w hn h)
  clear hn h
  go_enter Tryz.func70, Tryz.ntmps70
  go_wp2_with fail
  refine (C.out _).mono ?_; rintro e w' ⟨rfl, rfl⟩
  go_wp2_with fail
  go_ret
  exact ⟨rfl, box_below w _⟩
theorem szPlan_yes (key : Int) (A : Option Addr) (n cap : Nat) (w : World) (h : n ≤ 1048576) :
    Calls Tryz.prog 70 #[.agg (pA key A n cap), .int .i64 1048576] w fun e w' => e = .returned (.int .i64 (1048576 - n)) ∧ Below w.heap.size w w' := by
  have C := Lib.hid (fun w => szInt64S_yes A n cap w h)
  have hs : ¬ (1048576 : Int) - n < 0 := by omega
  clear h
  go_enter Tryz.func70, Tryz.ntmps70
  go_wp2_with fail
  refine (C.out _).mono ?_; rintro e w' ⟨rfl, rfl⟩
  go_wp2_with fail
  go_ret
  exact ⟨rfl, box_below w _⟩
theorem eqPlan_same (key : Int) (A C : Option Addr) (l : List Int) (cap cap' : Nat) (w : World) (hn : l.length ≤ 1048576) (hA : Ints w .i64 w.heap.size A l) (hC : Ints w .i64 w.heap.size C l) :
    Calls Tryz.prog 78 #[.agg (pA key A l.length cap), .agg (pA key C l.length cap')] w fun e w' => e = .returned (.bool true) ∧ Below w.heap.size w w' := by
  have E := Lib.hid (fun w hA hC => eqInt64S_same A C l cap cap' w hn hA hC)
  have HA := Lib.hid ((hA.boxed (.cells (pA key A l.length cap) 26)).boxed (.cells (pA key C l.length cap') 26))
  have HC := Lib.hid ((hC.boxed (.cells (pA key A l.length cap) 26)).boxed (.cells (pA key C l.length cap') 26))
  clear hA hC
  go_enter Tryz.func78, Tryz.ntmps78
  go_wp2_with fail
  refine (E.out _ HA.out HC.out).mono ?_; rintro e w1 ⟨rfl, b1⟩
  have B1 := Lib.hid ((((Below.refl w.heap.size w).alloc (Nat.le_refl _) (.cells (pA key A l.length cap) 26)).alloc (by simp) (.cells (pA key C l.length cap') 26)).trans (b1.mono (by simp; omega)))
  clear b1
  go_wp2_with fail
  go_ret
  exact ⟨rfl, B1.out⟩
def isAt (a : Int) : Prop := 0 ≤ a ∧ a ≤ 23
def isTm (t : Int) : Prop := 0 ≤ t ∧ t ≤ 100000
def isTri (a t v : Int) : Prop := isAt a ∧ isTm t ∧ isVal v
instance (a : Int) : Decidable (isAt a) := inferInstanceAs (Decidable (_ ∧ _))
instance (a : Int) : Decidable (isTm a) := inferInstanceAs (Decidable (_ ∧ _))
instance (a : Int) : Decidable (isVal a) := inferInstanceAs (Decidable (_ ∧ _))
instance (a t v : Int) : Decidable (isTri a t v) := inferInstanceAs (Decidable (_ ∧ _))
noncomputable def tagOf (key a t v : Int) : Int := if isTri a t v then mixOf key [2, a, t, v] else -1
theorem tagOf_yes {key a t v : Int} (h : isTri a t v) : tagOf key a t v = mixOf key [2, a, t, v] := by unfold tagOf; rw [if_pos h]
theorem tagOf_no {key a t v : Int} (h : ¬ isTri a t v) : tagOf key a t v = -1 := by unfold tagOf; rw [if_neg h]
theorem tagOf_bd (key a t v : Int) : -1 ≤ tagOf key a t v ∧ tagOf key a t v ≤ 4611686018427387903 := by
  by_cases h : isTri a t v
  · rw [tagOf_yes h]; exact mixOf_bd _ _
  · rw [tagOf_no h]; omega
theorem isTri.i64 {a t v : Int} (h : isTri a t v) : I64 a ∧ I64 t ∧ I64 v := by
  unfold isTri isAt isTm isVal at h
  exact ⟨⟨by omega, by omega⟩, ⟨by omega, by omega⟩, ⟨by omega, by omega⟩⟩
theorem isPlace_yes (s : Int) (w : World) (h : isAt s) :
    Calls Tryz.prog 237 #[.int .i64 s] w fun e w' => e = .returned (.bool true) ∧ w = w' := by
  obtain ⟨h0, h1⟩ := h
  have h2 : s < 24 := by omega
  go_enter Tryz.func237, Tryz.ntmps237
  go_wp2
  go_ret
  exact ⟨rfl, rfl⟩
theorem isPlace_no (s : Int) (w : World) (h : ¬ isAt s) :
    Calls Tryz.prog 237 #[.int .i64 s] w fun e w' => e = .returned (.bool false) ∧ w = w' := by
  unfold isAt at h
  by_cases h0 : 0 ≤ s
  · have h2 : ¬ s < 24 := by omega
    clear h
    go_enter Tryz.func237, Tryz.ntmps237
    go_wp2
    go_ret
    exact ⟨rfl, rfl⟩
  · clear h
    go_enter Tryz.func237, Tryz.ntmps237
    go_wp2
    go_ret
    exact ⟨rfl, rfl⟩
theorem isTime_yes (s : Int) (w : World) (h : isTm s) :
    Calls Tryz.prog 212 #[.int .i64 s] w fun e w' => e = .returned (.bool true) ∧ w = w' := by
  obtain ⟨h0, h1⟩ := h
  go_enter Tryz.func212, Tryz.ntmps212
  go_wp2
  go_ret
  exact ⟨rfl, rfl⟩
theorem isTime_no (s : Int) (w : World) (h : ¬ isTm s) :
    Calls Tryz.prog 212 #[.int .i64 s] w fun e w' => e = .returned (.bool false) ∧ w = w' := by
  unfold isTm at h
  by_cases h0 : 0 ≤ s
  · have h2 : ¬ s ≤ 100000 := by omega
    clear h
    go_enter Tryz.func212, Tryz.ntmps212
    go_wp2
    go_ret
    exact ⟨rfl, rfl⟩
  · clear h
    go_enter Tryz.func212, Tryz.ntmps212
    go_wp2
    go_ret
    exact ⟨rfl, rfl⟩
theorem l3At_yes (s : Int) (w : World) (h : isAt s) :
    Calls Tryz.prog 204 #[.int .i64 s] w fun e w' => e = .returned (.bool true) ∧ w = w' := by
  obtain ⟨h0, h1⟩ := h
  go_enter Tryz.func204, Tryz.ntmps204
  go_wp2_with (go_at_call 69; refine (l1In_yes _ _ _ _ h0 h1).mono ?_; rintro e w' ⟨rfl, rfl⟩)
  go_ret
  exact ⟨rfl, rfl⟩
theorem l3At_no (s : Int) (w : World) (h : ¬ isAt s) :
    Calls Tryz.prog 204 #[.int .i64 s] w fun e w' => e = .returned (.bool false) ∧ w = w' := by
  unfold isAt at h
  have h' : s < 0 ∨ 23 < s := by omega
  clear h
  go_enter Tryz.func204, Tryz.ntmps204
  go_wp2_with (go_at_call 69; refine (l1In_no _ _ _ _ h').mono ?_; rintro e w' ⟨rfl, rfl⟩)
  go_ret
  exact ⟨rfl, rfl⟩
theorem l3Time_yes (s : Int) (w : World) (h : isTm s) :
    Calls Tryz.prog 186 #[.int .i64 s] w fun e w' => e = .returned (.bool true) ∧ w = w' := by
  obtain ⟨h0, h1⟩ := h
  go_enter Tryz.func186, Tryz.ntmps186
  go_wp2_with (go_at_call 69; refine (l1In_yes _ _ _ _ h0 h1).mono ?_; rintro e w' ⟨rfl, rfl⟩)
  go_ret
  exact ⟨rfl, rfl⟩
theorem l3Time_no (s : Int) (w : World) (h : ¬ isTm s) :
    Calls Tryz.prog 186 #[.int .i64 s] w fun e w' => e = .returned (.bool false) ∧ w = w' := by
  unfold isTm at h
  have h' : s < 0 ∨ 100000 < s := by omega
  clear h
  go_enter Tryz.func186, Tryz.ntmps186
  go_wp2_with (go_at_call 69; refine (l1In_no _ _ _ _ h').mono ?_; rintro e w' ⟨rfl, rfl⟩)
  go_ret
  exact ⟨rfl, rfl⟩
theorem tripleOk_calls (a t v : Int) (w : World) :
    Calls Tryz.prog 236 #[.agg #[.int .i64 a, .int .i64 t, .int .i64 v]] w fun e w' => e = .returned (.bool (decide (isTri a t v))) ∧ Below w.heap.size w w' := by
  by_cases ha : isAt a
  · by_cases ht : isTm t
    · by_cases hv : isVal v
      · have C := Lib.hid (fun w => isPlace_yes a w ha)
        have D := Lib.hid (fun w => isTime_yes t w ht)
        have E := Lib.hid (fun w => isValue_yes v w hv)
        rw [decide_eq_true (show isTri a t v from ⟨ha, ht, hv⟩)]
        clear ha ht hv
        go_enter Tryz.func236, Tryz.ntmps236
        go_wp2_with fail
        refine (C.out _).mono ?_; rintro e w' ⟨rfl, rfl⟩
        go_wp2_with fail
        refine (D.out _).mono ?_; rintro e w' ⟨rfl, rfl⟩
        go_wp2_with fail
        refine (E.out _).mono ?_; rintro e w' ⟨rfl, rfl⟩
        go_wp2_with fail
        go_ret
        exact ⟨rfl, (Below.refl _ _).alloc (Nat.le_refl _) _⟩
      · have C := Lib.hid (fun w => isPlace_yes a w ha)
        have D := Lib.hid (fun w => isTime_yes t w ht)
        have E := Lib.hid (fun w => isValue_no v w hv)
        rw [decide_eq_false (show ¬ isTri a t v from fun h => hv h.2.2)]
        clear ha ht hv
        go_enter Tryz.func236, Tryz.ntmps236
        go_wp2_with fail
        refine (C.out _).mono ?_; rintro e w' ⟨rfl, rfl⟩
        go_wp2_with fail
        refine (D.out _).mono ?_; rintro e w' ⟨rfl, rfl⟩
        go_wp2_with fail
        refine (E.out _).mono ?_; rintro e w' ⟨rfl, rfl⟩
        go_wp2_with fail
        go_ret
        exact ⟨rfl, (Below.refl _ _).alloc (Nat.le_refl _) _⟩
    · have C := Lib.hid (fun w => isPlace_yes a w ha)
      have D := Lib.hid (fun w => isTime_no t w ht)
      rw [decide_eq_false (show ¬ isTri a t v from fun h => ht h.2.1)]
      clear ha ht
      go_enter Tryz.func236, Tryz.ntmps236
      go_wp2_with fail
      refine (C.out _).mono ?_; rintro e w' ⟨rfl, rfl⟩
      go_wp2_with fail
      refine (D.out _).mono ?_; rintro e w' ⟨rfl, rfl⟩
      go_wp2_with fail
      go_ret
      exact ⟨rfl, (Below.refl _ _).alloc (Nat.le_refl _) _⟩
  · have C := Lib.hid (fun w => isPlace_no a w ha)
    rw [decide_eq_false (show ¬ isTri a t v from fun h => ha h.1)]
    clear ha
    go_enter Tryz.func236, Tryz.ntmps236
    go_wp2_with fail
    refine (C.out _).mono ?_; rintro e w' ⟨rfl, rfl⟩
    go_wp2_with fail
    go_ret
    exact ⟨rfl, (Below.refl _ _).alloc (Nat.le_refl _) _⟩
theorem specTripleOk_calls (a t v : Int) (w : World) :
    Calls Tryz.prog 178 #[.agg #[.int .i64 a, .int .i64 t, .int .i64 v]] w fun e w' => e = .returned (.bool (decide (isTri a t v))) ∧ Below w.heap.size w w' := by
  by_cases ha : isAt a
  · by_cases ht : isTm t
    · by_cases hv : isVal v
      · have C := Lib.hid (fun w => l3At_yes a w ha)
        have D := Lib.hid (fun w => l3Time_yes t w ht)
        have E := Lib.hid (fun w => l2Value_yes v w hv)
        rw [decide_eq_true (show isTri a t v from ⟨ha, ht, hv⟩)]
        clear ha ht hv
        go_enter Tryz.func178, Tryz.ntmps178
        go_wp2_with fail
        refine (C.out _).mono ?_; rintro e w' ⟨rfl, rfl⟩
        go_wp2_with fail
        refine (D.out _).mono ?_; rintro e w' ⟨rfl, rfl⟩
        go_wp2_with fail
        refine (E.out _).mono ?_; rintro e w' ⟨rfl, rfl⟩
        go_wp2_with fail
        go_ret
        exact ⟨rfl, (Below.refl _ _).alloc (Nat.le_refl _) _⟩
      · have C := Lib.hid (fun w => l3At_yes a w ha)
        have D := Lib.hid (fun w => l3Time_yes t w ht)
        have E := Lib.hid (fun w => l2Value_no v w hv)
        rw [decide_eq_false (show ¬ isTri a t v from fun h => hv h.2.2)]
        clear ha ht hv
        go_enter Tryz.func178, Tryz.ntmps178
        go_wp2_with fail
        refine (C.out _).mono ?_; rintro e w' ⟨rfl, rfl⟩
        go_wp2_with fail
        refine (D.out _).mono ?_; rintro e w' ⟨rfl, rfl⟩
        go_wp2_with fail
        refine (E.out _).mono ?_; rintro e w' ⟨rfl, rfl⟩
        go_wp2_with fail
        go_ret
        exact ⟨rfl, (Below.refl _ _).alloc (Nat.le_refl _) _⟩
    · have C := Lib.hid (fun w => l3At_yes a w ha)
      have D := Lib.hid (fun w => l3Time_no t w ht)
      rw [decide_eq_false (show ¬ isTri a t v from fun h => ht h.2.1)]
      clear ha ht
      go_enter Tryz.func178, Tryz.ntmps178
      go_wp2_with fail
      refine (C.out _).mono ?_; rintro e w' ⟨rfl, rfl⟩
      go_wp2_with fail
      refine (D.out _).mono ?_; rintro e w' ⟨rfl, rfl⟩
      go_wp2_with fail
      go_ret
      exact ⟨rfl, (Below.refl _ _).alloc (Nat.le_refl _) _⟩
  · have C := Lib.hid (fun w => l3At_no a w ha)
    rw [decide_eq_false (show ¬ isTri a t v from fun h => ha h.1)]
    clear ha
    go_enter Tryz.func178, Tryz.ntmps178
    go_wp2_with fail
    refine (C.out _).mono ?_; rintro e w' ⟨rfl, rfl⟩
    go_wp2_with fail
    go_ret
    exact ⟨rfl, (Below.refl _ _).alloc (Nat.le_refl _) _⟩
theorem mixed_four (key x y z u : Int) (g : Nat) (w : World) (hg : w.heap.size = g) (a : I64 x) (b : I64 y) (c : I64 z) (d : I64 u) :
    Calls Tryz.prog 177 (pA key (some ⟨g, 0, none⟩) 4 4) (w.alloc (.cells #[.int .i64 x, .int .i64 y, .int .i64 z, .int .i64 u] 2)) fun e w' => e = .returned (.int .i64 (mixOf key [x, y, z, u])) ∧ w.alloc (.cells #[.int .i64 x, .int .i64 y, .int .i64 z, .int .i64 u] 2) = w' := by
  subst hg
  exact mixed_calls key (some ⟨w.heap.size, 0, none⟩) [x, y, z, u] 4 (w.heap.size + 1) _ (by simp [maxLen]) (CellsAt.reads [x, y, z, u] (CellsAt.new w 2 _)) (I64s.cons a.1 a.2 (i64s_three b c d))
theorem specMix_four (key x y z u : Int) (g : Nat) (w : World) (hg : w.heap.size = g) (a : I64 x) (b : I64 y) (c : I64 z) (d : I64 u) :
    Calls Tryz.prog 181 (pA key (some ⟨g, 0, none⟩) 4 4) (w.alloc (.cells #[.int .i64 x, .int .i64 y, .int .i64 z, .int .i64 u] 2)) fun e w' => e = .returned (.int .i64 (mixOf key [x, y, z, u])) ∧ w.alloc (.cells #[.int .i64 x, .int .i64 y, .int .i64 z, .int .i64 u] 2) = w' := by
  subst hg
  exact specMix_calls key (some ⟨w.heap.size, 0, none⟩) [x, y, z, u] 4 (w.heap.size + 1) _ (by simp [maxLen]) (CellsAt.reads [x, y, z, u] (CellsAt.new w 2 _)) (I64s.cons a.1 a.2 (i64s_three b c d))
theorem two_i64 : I64 2 := ⟨by omega, by omega⟩
theorem tagged_calls (key a t v : Int) (w : World) :
    Calls Tryz.prog 242 #[.int .i64 key, .agg #[.int .i64 a, .int .i64 t, .int .i64 v]] w fun e w' => e = .returned (.int .i64 (tagOf key a t v)) ∧ Below w.heap.size w w' := by
  by_cases h : isTri a t v
  · have K := Lib.hid (fun w => tripleOk_calls a t v w)
    rw [decide_eq_true h] at K
    have C := Lib.hid (fun g w hg => mixed_four key 2 a t v g w hg two_i64 h.i64.1 h.i64.2.1 h.i64.2.2)
    rw [tagOf_yes h]
    clear h
    generalize mixOf key [2, a, t, v] = m at C
    go_enter Tryz.func242, Tryz.ntmps242
    go_wp2_with fail
    refine (K.out _).mono ?_; rintro e w1 ⟨rfl, b1⟩
    have hb := (CellsAt.new w 137 #[.int .i64 a, .int .i64 t, .int .i64 v]).below b1 (by simp)
    have c0 : w1.cell? ⟨w.heap.size, 0, none⟩ = some (.int .i64 a) := hb.cell 0
    have c1 : w1.cell? ⟨w.heap.size, 1, none⟩ = some (.int .i64 t) := hb.cell 1
    have c2 : w1.cell? ⟨w.heap.size, 2, none⟩ = some (.int .i64 v) := hb.cell 2
    have B1 := Lib.hid (((Below.refl w.heap.size w).alloc (Nat.le_refl _) _).trans (b1.mono (by simp)))
    clear hb b1
    go_wp2_with fail
    refine (C.out _ _ ?_).mono ?_; (first | rfl | simp); rintro e w7 ⟨rfl, h7⟩
    subst h7
    go_wp2_with fail
    go_ret
    exact ⟨rfl, B1.out.alloc B1.out.size _⟩
  · have K := Lib.hid (fun w => tripleOk_calls a t v w)
    rw [decide_eq_false h] at K
    rw [tagOf_no h]
    clear h
    go_enter Tryz.func242, Tryz.ntmps242
    go_wp2_with fail
    refine (K.out _).mono ?_; rintro e w1 ⟨rfl, b1⟩
    have B1 := Lib.hid (((Below.refl w.heap.size w).alloc (Nat.le_refl _) _).trans (b1.mono (by simp)))
    clear b1
    go_wp2_with fail
    go_ret
    exact ⟨rfl, B1.out⟩
theorem specTag_calls (key a t v : Int) (w : World) :
    Calls Tryz.prog 172 #[.int .i64 key, .agg #[.int .i64 a, .int .i64 t, .int .i64 v]] w fun e w' => e = .returned (.int .i64 (tagOf key a t v)) ∧ Below w.heap.size w w' := by
  by_cases h : isTri a t v
  · have K := Lib.hid (fun w => specTripleOk_calls a t v w)
    rw [decide_eq_true h] at K
    have C := Lib.hid (fun g w hg => specMix_four key 2 a t v g w hg two_i64 h.i64.1 h.i64.2.1 h.i64.2.2)
    rw [tagOf_yes h]
    clear h
    generalize mixOf key [2, a, t, v] = m at C
    go_enter Tryz.func172, Tryz.ntmps172
    go_wp2_with fail
    refine (K.out _).mono ?_; rintro e w1 ⟨rfl, b1⟩
    have hb := (CellsAt.new w 137 #[.int .i64 a, .int .i64 t, .int .i64 v]).below b1 (by simp)
    have c0 : w1.cell? ⟨w.heap.size, 0, none⟩ = some (.int .i64 a) := hb.cell 0
    have c1 : w1.cell? ⟨w.heap.size, 1, none⟩ = some (.int .i64 t) := hb.cell 1
    have c2 : w1.cell? ⟨w.heap.size, 2, none⟩ = some (.int .i64 v) := hb.cell 2
    have B1 := Lib.hid (((Below.refl w.heap.size w).alloc (Nat.le_refl _) _).trans (b1.mono (by simp)))
    clear hb b1
    go_wp2_with fail
    refine (C.out _ _ ?_).mono ?_; (first | rfl | simp); rintro e w7 ⟨rfl, h7⟩
    subst h7
    go_wp2_with fail
    go_ret
    exact ⟨rfl, B1.out.alloc B1.out.size _⟩
  · have K := Lib.hid (fun w => specTripleOk_calls a t v w)
    rw [decide_eq_false h] at K
    rw [tagOf_no h]
    clear h
    go_enter Tryz.func172, Tryz.ntmps172
    go_wp2_with fail
    refine (K.out _).mono ?_; rintro e w1 ⟨rfl, b1⟩
    have B1 := Lib.hid (((Below.refl w.heap.size w).alloc (Nat.le_refl _) _).trans (b1.mono (by simp)))
    clear b1
    go_wp2_with fail
    go_ret
    exact ⟨rfl, B1.out⟩
theorem turned_calls (by_ : Int) (p : Addr) (w : World) :
    Calls Tryz.prog 243 #[.int .i64 by_, .pointer (some p)] w fun e w' => e = .returned (.func (.func 244) #[] #[.pointer (some p), .pointer (some ⟨w.heap.size, 0, none⟩)]) ∧ w.alloc (.cells #[.int .i64 by_] 2) = w' := by
  have hmf : ∀ (fn : Fn) (first cap : Array Value) (w : World), (Instr.makeFunc fn first cap).run Tryz.prog w = .ok (.func fn first cap) w := fun _ _ _ _ => rfl
  go_enter Tryz.func243, Tryz.ntmps243
  go_wp2_with fail
  go_ret
  exact ⟨rfl, rfl⟩
def IsTurn (w : World) (p : Nat) (s by_ : Int) (v : Value) : Prop :=
  ∃ q, v = .func (.func 244) #[] #[.pointer (some ⟨p, 0, none⟩), .pointer (some ⟨q, 0, none⟩)] ∧ w.cell? ⟨p, 0, none⟩ = some (.int .i64 s) ∧ w.cell? ⟨q, 0, none⟩ = some (.int .i64 by_)
def Veils (s : Int) (w : World) (e : Ending) (w' : World) : Prop :=
  ∃ (p : Nat) (u v : Value), e = .returned (.tuple #[u, v]) ∧ IsTurn w' p s s u ∧ IsTurn w' p s (10007 - s) v ∧ Below w.heap.size w w'
theorem three_cells (w : World) (t : TypeId) (x y z : Value) : (((w.alloc (.cells #[x] t)).alloc (.cells #[y] t)).alloc (.cells #[z] t)).cell? ⟨w.heap.size, 0, none⟩ = some x ∧ (((w.alloc (.cells #[x] t)).alloc (.cells #[y] t)).alloc (.cells #[z] t)).cell? ⟨w.heap.size + 1, 0, none⟩ = some y ∧ (((w.alloc (.cells #[x] t)).alloc (.cells #[y] t)).alloc (.cells #[z] t)).cell? ⟨w.heap.size + 1 + 1, 0, none⟩ = some z := by
  refine ⟨?_, ?_, ?_⟩
  · rw [World.cell?_alloc_past _ _ _ (by simp; omega), World.cell?_alloc_past _ _ _ (by simp), World.cell?_alloc_at _ _ _ _ rfl]; rfl
  · rw [World.cell?_alloc_past _ _ _ (by simp), World.cell?_alloc_at _ _ _ _ (by simp)]; rfl
  · rw [World.cell?_alloc_at _ _ _ _ (by simp)]; rfl
theorem veil_calls (s : Int) (w : World) (s0 : -1 ≤ s) (s1 : s ≤ 10006) :
    Calls Tryz.prog 239 #[.int .i64 s] w (Veils s w) := by
  have hmf : ∀ (fn : Fn) (first cap : Array Value) (w : World), (Instr.makeFunc fn first cap).run Tryz.prog w = .ok (.func fn first cap) w := fun _ _ _ _ => rfl
  have hw : IntKind.i64.wrap (10007 - s) = 10007 - s := IntWalk.i64_in _ (by omega)
  have HW := Lib.hid hw
  clear hw
  go_enter Tryz.func239, Tryz.ntmps239
  go_wp2_with fail
  go_region_with (go_at_call 243; refine (turned_calls _ _ _).mono ?_; rintro e wx ⟨rfl, rfl⟩)
  all_goals
    go_wp2_with fail
    go_ret2
    rw [HW.out]
    have K := three_cells w 2 (.int .i64 s) (.int .i64 s) (.int .i64 (10007 - s))
    have L := three_cells w 2 (.int .i64 s) (.int .i64 (10007 - s)) (.int .i64 s)
    have B := fun x y => ((((Below.refl w.heap.size w).alloc (Nat.le_refl _) (.cells #[.int .i64 s] 2)).alloc (by simp) (.cells #[x] 2)).alloc (by simp; omega) (.cells #[y] 2)).drew
    first
      | exact ⟨w.heap.size, _, _, rfl, ⟨_, rfl, K.1, K.2.1⟩, ⟨_, rfl, K.1, K.2.2⟩, B _ _⟩
      | exact ⟨w.heap.size, _, _, rfl, ⟨_, rfl, L.1, L.2.2⟩, ⟨_, rfl, L.1, L.2.1⟩, B _ _⟩
open Classical in
noncomputable def turnOf (s by_ v : Int) : Int := if 0 ≤ s ∧ isVal v then (v + by_) % 10007 else -1
theorem turnOf_yes {s by_ v : Int} (h : 0 ≤ s) (hv : isVal v) : turnOf s by_ v = (v + by_) % 10007 := by unfold turnOf; rw [if_pos ⟨h, hv⟩]
theorem turnOf_neg {s by_ v : Int} (h : s < 0) : turnOf s by_ v = -1 := by unfold turnOf; rw [if_neg (by omega)]
theorem turnOf_no {s by_ v : Int} (hv : ¬ isVal v) : turnOf s by_ v = -1 := by unfold turnOf; rw [if_neg (fun h => hv h.2)]
theorem turnOf_bd (s by_ v : Int) : -1 ≤ turnOf s by_ v ∧ turnOf s by_ v ≤ 10006 := by
  unfold turnOf
  split <;> omega
noncomputable def hiddenOf (key at_ time v : Int) : Int := turnOf (streamOf key at_ time) (streamOf key at_ time) v
noncomputable def shownOf (key at_ time v : Int) : Int := turnOf (streamOf key at_ time) (10007 - streamOf key at_ time) v
theorem hidden_nat {key at_ time v : Int} (k0 : 1 ≤ key) (k1 : key ≤ 1000000) (ha : 0 ≤ at_) (ht : 0 ≤ time) (hv : isVal v) : ¬ hiddenOf key at_ time v < 0 := by
  have := streamOf_nat k0 k1 ha ht
  unfold hiddenOf
  rw [turnOf_yes this hv]
  unfold isVal at hv
  omega
theorem turn_calls (s by_ v : Int) (p q : Nat) (w : World) (hp : w.cell? ⟨p, 0, none⟩ = some (.int .i64 s)) (hq : w.cell? ⟨q, 0, none⟩ = some (.int .i64 by_)) (b0 : -1 ≤ by_) (b1 : by_ ≤ 10008) (b2 : 0 ≤ s → 0 ≤ by_) :
    Calls Tryz.prog 244 #[.int .i64 v, .pointer (some ⟨p, 0, none⟩), .pointer (some ⟨q, 0, none⟩)] w fun e w' => e = .returned (.int .i64 (turnOf s by_ v)) ∧ w = w' := by
  by_cases hs : s < 0
  · rw [turnOf_neg hs]
    go_enter Tryz.func244, Tryz.ntmps244
    go_wp2_with fail
    go_ret
    exact ⟨rfl, rfl⟩
  · by_cases hv : isVal v
    · rw [turnOf_yes (by omega) hv]
      have C := Lib.hid (fun w => isValue_yes v w hv)
      obtain ⟨v0, v1⟩ := hv
      have b3 := b2 (by omega)
      go_enter Tryz.func244, Tryz.ntmps244
      go_wp2_with fail
      refine (C.out _).mono ?_; rintro e w' ⟨rfl, rfl⟩
      go_wp2_with fail
      go_ret
      exact ⟨rfl, rfl⟩
    · rw [turnOf_no hv]
      have C := Lib.hid (fun w => isValue_no v w hv)
      clear hv
      go_enter Tryz.func244, Tryz.ntmps244
      go_wp2_with fail
      refine (C.out _).mono ?_; rintro e w' ⟨rfl, rfl⟩
      go_wp2_with fail
      go_ret
      exact ⟨rfl, rfl⟩
theorem hidden_calls (key at_ time v : Int) (w : World) (ha : I64 at_) (ht : I64 time) :
    Calls Tryz.prog 229 #[.int .i64 key, .int .i64 at_, .int .i64 time, .int .i64 v] w fun e w' => e = .returned (.int .i64 (hiddenOf key at_ time v)) ∧ Below w.heap.size w w' := by
  have C := Lib.hid (fun w => stream_calls key at_ time w ha ht)
  have S := streamOf_bd key at_ time
  unfold hiddenOf
  clear ha ht
  generalize streamOf key at_ time = s at C S
  obtain ⟨s0, s1⟩ := S
  go_enter Tryz.func229, Tryz.ntmps229
  go_wp2_with fail
  refine (C.out _).mono ?_; rintro e w1 ⟨rfl, b1⟩
  have B1 := Lib.hid b1
  clear b1
  go_wp2_with fail
  refine (veil_calls s w1 s0 s1).mono ?_; rintro e w2 ⟨p, U, V, rfl, hU, hV, b2⟩
  have B2 := Lib.hid (B1.out.trans (b2.mono B1.out.size))
  obtain ⟨q, rfl, cp, cq⟩ := hU
  have T := Lib.hid (turn_calls s _ v p q w2 cp cq (by omega) (by omega) (by omega))
  clear b2 cp cq hV
  go_wp2_with fail
  refine T.out.mono ?_; rintro e w' ⟨rfl, rfl⟩
  go_wp2_with fail
  go_ret
  exact ⟨rfl, B2.out⟩
theorem shown_calls (key at_ time v : Int) (w : World) (ha : I64 at_) (ht : I64 time) :
    Calls Tryz.prog 228 #[.int .i64 key, .int .i64 at_, .int .i64 time, .int .i64 v] w fun e w' => e = .returned (.int .i64 (shownOf key at_ time v)) ∧ Below w.heap.size w w' := by
  have C := Lib.hid (fun w => stream_calls key at_ time w ha ht)
  have S := streamOf_bd key at_ time
  unfold shownOf
  clear ha ht
  generalize streamOf key at_ time = s at C S
  obtain ⟨s0, s1⟩ := S
  go_enter Tryz.func228, Tryz.ntmps228
  go_wp2_with fail
  refine (C.out _).mono ?_; rintro e w1 ⟨rfl, b1⟩
  have B1 := Lib.hid b1
  clear b1
  go_wp2_with fail
  refine (veil_calls s w1 s0 s1).mono ?_; rintro e w2 ⟨p, U, V, rfl, hU, hV, b2⟩
  have B2 := Lib.hid (B1.out.trans (b2.mono B1.out.size))
  obtain ⟨q, rfl, cp, cq⟩ := hV
  have T := Lib.hid (turn_calls s _ v p q w2 cp cq (by omega) (by omega) (by omega))
  clear b2 cp cq hU
  go_wp2_with fail
  refine T.out.mono ?_; rintro e w' ⟨rfl, rfl⟩
  go_wp2_with fail
  go_ret
  exact ⟨rfl, B2.out⟩
theorem specHidden_calls (key at_ time v : Int) (w : World) (ha : I64 at_) (ht : I64 time) :
    Calls Tryz.prog 179 #[.int .i64 key, .int .i64 at_, .int .i64 time, .int .i64 v] w fun e w' => e = .returned (.int .i64 (hiddenOf key at_ time v)) ∧ Below w.heap.size w w' := by
  have C := Lib.hid (fun w => specStream_calls key at_ time w ha ht)
  have S := streamOf_bd key at_ time
  unfold hiddenOf
  clear ha ht
  generalize streamOf key at_ time = s at C S
  obtain ⟨s0, s1⟩ := S
  by_cases hs : s < 0
  · rw [turnOf_neg hs]
    go_enter Tryz.func179, Tryz.ntmps179
    go_wp2_with fail
    refine (C.out _).mono ?_; rintro e w1 ⟨rfl, b1⟩
    have B1 := Lib.hid b1
    clear b1
    go_wp2_with fail
    go_ret
    exact ⟨rfl, B1.out⟩
  · by_cases hv : isVal v
    · rw [turnOf_yes (by omega) hv]
      have D := Lib.hid (fun w => l2Value_yes v w hv)
      obtain ⟨v0, v1⟩ := hv
      go_enter Tryz.func179, Tryz.ntmps179
      go_wp2_with fail
      refine (C.out _).mono ?_; rintro e w1 ⟨rfl, b1⟩
      have B1 := Lib.hid b1
      clear b1
      go_wp2_with fail
      refine (D.out _).mono ?_; rintro e w' ⟨rfl, rfl⟩
      go_wp2_with fail
      go_ret
      exact ⟨rfl, B1.out⟩
    · rw [turnOf_no hv]
      have D := Lib.hid (fun w => l2Value_no v w hv)
      clear hv
      go_enter Tryz.func179, Tryz.ntmps179
      go_wp2_with fail
      refine (C.out _).mono ?_; rintro e w1 ⟨rfl, b1⟩
      have B1 := Lib.hid b1
      clear b1
      go_wp2_with fail
      refine (D.out _).mono ?_; rintro e w' ⟨rfl, rfl⟩
      go_wp2_with fail
      go_ret
      exact ⟨rfl, B1.out⟩
theorem specShown_calls (key at_ time v : Int) (w : World) (ha : I64 at_) (ht : I64 time) :
    Calls Tryz.prog 205 #[.int .i64 key, .int .i64 at_, .int .i64 time, .int .i64 v] w fun e w' => e = .returned (.int .i64 (shownOf key at_ time v)) ∧ Below w.heap.size w w' := by
  have C := Lib.hid (fun w => specStream_calls key at_ time w ha ht)
  have S := streamOf_bd key at_ time
  unfold shownOf
  clear ha ht
  generalize streamOf key at_ time = s at C S
  obtain ⟨s0, s1⟩ := S
  by_cases hs : s < 0
  · rw [turnOf_neg hs]
    go_enter Tryz.func205, Tryz.ntmps205
    go_wp2_with fail
    refine (C.out _).mono ?_; rintro e w1 ⟨rfl, b1⟩
    have B1 := Lib.hid b1
    clear b1
    go_wp2_with fail
    go_ret
    exact ⟨rfl, B1.out⟩
  · by_cases hv : isVal v
    · rw [turnOf_yes (by omega) hv]
      have D := Lib.hid (fun w => l2Value_yes v w hv)
      obtain ⟨v0, v1⟩ := hv
      go_enter Tryz.func205, Tryz.ntmps205
      go_wp2_with fail
      refine (C.out _).mono ?_; rintro e w1 ⟨rfl, b1⟩
      have B1 := Lib.hid b1
      clear b1
      go_wp2_with fail
      refine (D.out _).mono ?_; rintro e w' ⟨rfl, rfl⟩
      go_wp2_with fail
      go_ret
      exact ⟨by rw [show v + (10007 - s) = v - s + 10007 by omega]; rfl, B1.out⟩
    · rw [turnOf_no hv]
      have D := Lib.hid (fun w => l2Value_no v w hv)
      clear hv
      go_enter Tryz.func205, Tryz.ntmps205
      go_wp2_with fail
      refine (C.out _).mono ?_; rintro e w1 ⟨rfl, b1⟩
      have B1 := Lib.hid b1
      clear b1
      go_wp2_with fail
      refine (D.out _).mono ?_; rintro e w' ⟨rfl, rfl⟩
      go_wp2_with fail
      go_ret
      exact ⟨rfl, B1.out⟩
def isCell (t v : Int) : Prop := isTm t ∧ isVal v
instance (t v : Int) : Decidable (isCell t v) := inferInstanceAs (Decidable (_ ∧ _))
def isKey (key : Int) : Prop := 1 ≤ key ∧ key ≤ 1000000
instance (key : Int) : Decidable (isKey key) := inferInstanceAs (Decidable (_ ∧ _))
noncomputable def cellOf (key a t v : Int) : Int × Int := if isKey key ∧ isTri a t v then (t, hiddenOf key a t v) else (0, 0)
noncomputable def valueIn (key a t v : Int) : Int := if isKey key ∧ isAt a ∧ isCell t v then shownOf key a t v else -1
def tripleIn (a t v : Int) : Int × Int × Int := if isTri a t v then (a, t, v) else (0, 0, 0)
theorem cellOf_yes {key a t v : Int} (hk : isKey key) (h : isTri a t v) : cellOf key a t v = (t, hiddenOf key a t v) := by unfold cellOf; rw [if_pos ⟨hk, h⟩]
theorem cellOf_no {key a t v : Int} (h : ¬ (isKey key ∧ isTri a t v)) : cellOf key a t v = (0, 0) := by unfold cellOf; rw [if_neg h]
theorem valueIn_yes {key a t v : Int} (hk : isKey key) (ha : isAt a) (h : isCell t v) : valueIn key a t v = shownOf key a t v := by unfold valueIn; rw [if_pos ⟨hk, ha, h⟩]
theorem valueIn_no {key a t v : Int} (h : ¬ (isKey key ∧ isAt a ∧ isCell t v)) : valueIn key a t v = -1 := by unfold valueIn; rw [if_neg h]
theorem tripleIn_yes {a t v : Int} (h : isTri a t v) : tripleIn a t v = (a, t, v) := by unfold tripleIn; rw [if_pos h]
theorem tripleIn_no {a t v : Int} (h : ¬ isTri a t v) : tripleIn a t v = (0, 0, 0) := by unfold tripleIn; rw [if_neg h]
theorem specCellOk_calls (t v : Int) (w : World) :
    Calls Tryz.prog 133 #[.agg (cA t v)] w fun e w' => e = .returned (.bool (decide (isCell t v))) ∧ Below w.heap.size w w' := by
  by_cases ht : isTm t
  · have D := Lib.hid (fun w => l3Time_yes t w ht)
    by_cases hv : isVal v
    · have E := Lib.hid (fun w => l2Value_yes v w hv)
      rw [decide_eq_true (show isCell t v from ⟨ht, hv⟩)]
      clear ht hv
      go_enter Tryz.func133, Tryz.ntmps133
      go_wp2_with fail
      refine (D.out _).mono ?_; rintro e w' ⟨rfl, rfl⟩
      go_wp2_with fail
      refine (E.out _).mono ?_; rintro e w' ⟨rfl, rfl⟩
      go_wp2_with fail
      go_ret
      exact ⟨rfl, (Below.refl _ _).alloc (Nat.le_refl _) _⟩
    · have E := Lib.hid (fun w => l2Value_no v w hv)
      rw [decide_eq_false (show ¬ isCell t v from fun h => hv h.2)]
      clear ht hv
      go_enter Tryz.func133, Tryz.ntmps133
      go_wp2_with fail
      refine (D.out _).mono ?_; rintro e w' ⟨rfl, rfl⟩
      go_wp2_with fail
      refine (E.out _).mono ?_; rintro e w' ⟨rfl, rfl⟩
      go_wp2_with fail
      go_ret
      exact ⟨rfl, (Below.refl _ _).alloc (Nat.le_refl _) _⟩
  · have D := Lib.hid (fun w => l3Time_no t w ht)
    rw [decide_eq_false (show ¬ isCell t v from fun h => ht h.1)]
    clear ht
    go_enter Tryz.func133, Tryz.ntmps133
    go_wp2_with fail
    refine (D.out _).mono ?_; rintro e w' ⟨rfl, rfl⟩
    go_wp2_with fail
    go_ret
    exact ⟨rfl, (Below.refl _ _).alloc (Nat.le_refl _) _⟩
theorem cell_end {w w1 : World} {r : Nat} {x y x0 y0 : Value} (hk : CellsAt w1 r 112 #[x0, y0]) (hb : Below w.heap.size w w1) (hr : w.heap.size ≤ r) :
    ∃ w4, (w1.setCell ⟨r, 0, none⟩ x).setCell ⟨r, 1, none⟩ y = w4 ∧ (w4.cell? ⟨r, 0, none⟩ = some x ∧ w4.cell? ⟨r, 1, none⟩ = some y) ∧ Below w.heap.size w w4 := by
  have h := (hk.set_ 0 x).set_ 1 y
  exact ⟨_, rfl, ⟨h.cell 0, h.cell 1⟩, (hb.setCell (p := ⟨r, 0, none⟩) hr x).setCell (p := ⟨r, 1, none⟩) hr y⟩
theorem specCellOf_calls (key a t v : Int) (w : World) :
    Calls Tryz.prog 120 #[.int .i64 key, .int .i64 a, .int .i64 t, .int .i64 v] w fun e w' => e = .returned (.agg (cA ((cellOf key a t v).1) ((cellOf key a t v).2))) ∧ Below w.heap.size w w' := by
  have HK := Lib.hid (CellsAt.new w 112 zC)
  by_cases hk : isKey key
  · have C := Lib.hid (fun w => l1Key_yes key w hk.1 hk.2)
    have D := Lib.hid (fun w => specTripleOk_calls a t v w)
    by_cases h : isTri a t v
    · rw [cellOf_yes hk h]
      rw [decide_eq_true h] at D
      have E := Lib.hid (fun w => specHidden_calls key a t v w h.i64.1 h.i64.2.1)
      generalize hiddenOf key a t v = z at E
      clear hk h
      go_enter Tryz.func120, Tryz.ntmps120
      go_wp2_with fail
      refine (C.out _).mono ?_; rintro e w' ⟨rfl, rfl⟩
      go_wp2_with fail
      refine (D.out _).mono ?_; rintro e w1 ⟨rfl, b1⟩
      have B1 := Lib.hid b1
      clear b1
      go_wp2_with fail
      refine (E.out _).mono ?_; rintro e w2 ⟨rfl, b2⟩
      have bb := B1.out.trans (b2.mono B1.out.size)
      have hk2 := HK.out.below bb (by simp)
      have r0 : w2.cell? ⟨w.heap.size, 0, none⟩ = some (.int .i64 0) := hk2.cell 0
      have r1 : w2.cell? ⟨w.heap.size, 1, none⟩ = some (.int .i64 0) := hk2.cell 1
      have f0 := hk2.frozen 0
      have f1 := hk2.frozen 1
      have H2 := Lib.hid hk2
      have B2 := Lib.hid (((Below.refl w.heap.size w).alloc (Nat.le_refl _) _).trans (bb.mono (by simp)))
      clear b2 bb hk2 B1
      go_wp2_with fail
      obtain ⟨w9, e9, ⟨d0, d1⟩, hb⟩ := cell_end (x := .int .i64 t) (y := .int .i64 z) H2.out B2.out (Nat.le_refl _)
      rw [e9]
      exact bodyPost_ret (v := .agg (cA t z)) (by simp [results, Tryz.results120, go_sem, d0, d1]) rfl ⟨rfl, hb⟩
    · rw [cellOf_no (fun h' => h h'.2)]
      rw [decide_eq_false h] at D
      clear hk h
      go_enter Tryz.func120, Tryz.ntmps120
      go_wp2_with fail
      refine (C.out _).mono ?_; rintro e w' ⟨rfl, rfl⟩
      go_wp2_with fail
      refine (D.out _).mono ?_; rintro e w2 ⟨rfl, b2⟩
      have hk2 := HK.out.below b2 (by simp)
      have r0 : w2.cell? ⟨w.heap.size, 0, none⟩ = some (.int .i64 0) := hk2.cell 0
      have r1 : w2.cell? ⟨w.heap.size, 1, none⟩ = some (.int .i64 0) := hk2.cell 1
      have f0 := hk2.frozen 0
      have f1 := hk2.frozen 1
      have H2 := Lib.hid hk2
      have B2 := Lib.hid (((Below.refl w.heap.size w).alloc (Nat.le_refl _) _).trans (b2.mono (by simp)))
      clear b2 hk2
      go_wp2_with fail
      obtain ⟨w9, e9, ⟨d0, d1⟩, hb⟩ := cell_end (x := .int .i64 0) (y := .int .i64 0) H2.out B2.out (Nat.le_refl _)
      rw [e9]
      exact bodyPost_ret (v := .agg zC) (by simp [results, Tryz.results120, go_sem, d0, d1]) rfl ⟨rfl, hb⟩
  · have C := Lib.hid (fun w => l1Key_no key w (by unfold isKey at hk; omega))
    rw [cellOf_no (fun h' => hk h'.1)]
    clear hk
    go_enter Tryz.func120, Tryz.ntmps120
    go_wp2_with fail
    refine (C.out _).mono ?_; rintro e w' ⟨rfl, rfl⟩
    go_wp2_with fail
    exact bodyPost_ret (v := .agg zC) (by simp [results, Tryz.results120, go_sem]) rfl ⟨rfl, (Below.refl _ _).alloc (Nat.le_refl _) _⟩
theorem specValueIn_calls (key a t v : Int) (w : World) :
    Calls Tryz.prog 163 #[.int .i64 key, .int .i64 a, .agg (cA t v)] w fun e w' => e = .returned (.int .i64 (valueIn key a t v)) ∧ Below w.heap.size w w' := by
  have HK := Lib.hid (CellsAt.new w 112 (cA t v))
  by_cases hk : isKey key
  · have C := Lib.hid (fun w => l1Key_yes key w hk.1 hk.2)
    by_cases ha : isAt a
    · have D := Lib.hid (fun w => l3At_yes a w ha)
      have E := Lib.hid (fun w => specCellOk_calls t v w)
      by_cases h : isCell t v
      · rw [valueIn_yes hk ha h]
        rw [decide_eq_true h] at E
        have F := Lib.hid (fun w => specShown_calls key a t v w ⟨by have := ha.1; omega, by have := ha.2; omega⟩ ⟨by have := h.1.1; omega, by have := h.1.2; omega⟩)
        generalize shownOf key a t v = z at F
        clear hk ha h
        go_enter Tryz.func163, Tryz.ntmps163
        go_wp2_with fail
        refine (C.out _).mono ?_; rintro e w' ⟨rfl, rfl⟩
        go_wp2_with fail
        refine (D.out _).mono ?_; rintro e w' ⟨rfl, rfl⟩
        go_wp2_with fail
        refine (E.out _).mono ?_; rintro e w2 ⟨rfl, b2⟩
        have hk2 := HK.out.below b2 (by simp)
        have r0 : w2.cell? ⟨w.heap.size, 0, none⟩ = some (.int .i64 t) := hk2.cell 0
        have r1 : w2.cell? ⟨w.heap.size, 1, none⟩ = some (.int .i64 v) := hk2.cell 1
        have B2 := Lib.hid (((Below.refl w.heap.size w).alloc (Nat.le_refl _) _).trans (b2.mono (by simp)))
        clear b2 hk2
        go_wp2_with fail
        refine (F.out _).mono ?_; rintro e w3 ⟨rfl, b3⟩
        have B3 := Lib.hid (B2.out.trans (b3.mono B2.out.size))
        clear b3
        go_wp2_with fail
        go_ret
        exact ⟨rfl, B3.out⟩
      · rw [valueIn_no (fun h' => h h'.2.2)]
        rw [decide_eq_false h] at E
        clear hk ha h
        go_enter Tryz.func163, Tryz.ntmps163
        go_wp2_with fail
        refine (C.out _).mono ?_; rintro e w' ⟨rfl, rfl⟩
        go_wp2_with fail
        refine (D.out _).mono ?_; rintro e w' ⟨rfl, rfl⟩
        go_wp2_with fail
        refine (E.out _).mono ?_; rintro e w2 ⟨rfl, b2⟩
        have B2 := Lib.hid (((Below.refl w.heap.size w).alloc (Nat.le_refl _) _).trans (b2.mono (by simp)))
        clear b2
        go_wp2_with fail
        go_ret
        exact ⟨rfl, B2.out⟩
    · have D := Lib.hid (fun w => l3At_no a w ha)
      rw [valueIn_no (fun h' => ha h'.2.1)]
      clear hk ha
      go_enter Tryz.func163, Tryz.ntmps163
      go_wp2_with fail
      refine (C.out _).mono ?_; rintro e w' ⟨rfl, rfl⟩
      go_wp2_with fail
      refine (D.out _).mono ?_; rintro e w' ⟨rfl, rfl⟩
      go_wp2_with fail
      go_ret
      exact ⟨rfl, (Below.refl _ _).alloc (Nat.le_refl _) _⟩
  · have C := Lib.hid (fun w => l1Key_no key w (by unfold isKey at hk; omega))
    rw [valueIn_no (fun h' => hk h'.1)]
    clear hk
    go_enter Tryz.func163, Tryz.ntmps163
    go_wp2_with fail
    refine (C.out _).mono ?_; rintro e w' ⟨rfl, rfl⟩
    go_wp2_with fail
    go_ret
    exact ⟨rfl, (Below.refl _ _).alloc (Nat.le_refl _) _⟩
theorem triple_end {w w1 : World} {r : Nat} {x y z x0 y0 z0 : Value} (hk : CellsAt w1 r 137 #[x0, y0, z0]) (hb : Below w.heap.size w w1) (hr : w.heap.size ≤ r) :
    ∃ w4, ((w1.setCell ⟨r, 0, none⟩ x).setCell ⟨r, 1, none⟩ y).setCell ⟨r, 2, none⟩ z = w4 ∧ (w4.cell? ⟨r, 0, none⟩ = some x ∧ w4.cell? ⟨r, 1, none⟩ = some y ∧ w4.cell? ⟨r, 2, none⟩ = some z) ∧ Below w.heap.size w w4 := by
  have h := ((hk.set_ 0 x).set_ 1 y).set_ 2 z
  exact ⟨_, rfl, ⟨h.cell 0, h.cell 1, h.cell 2⟩, ((hb.setCell (p := ⟨r, 0, none⟩) hr x).setCell (p := ⟨r, 1, none⟩) hr y).setCell (p := ⟨r, 2, none⟩) hr z⟩
theorem specTripleIn_calls (a t v : Int) (w : World) :
    Calls Tryz.prog 121 #[.int .i64 a, .agg (cA t v)] w fun e w' => e = .returned (.agg #[.int .i64 (tripleIn a t v).1, .int .i64 (tripleIn a t v).2.1, .int .i64 (tripleIn a t v).2.2]) ∧ Below w.heap.size w w' := by
  have k0 := ((((Kept.refl w).new 112 (cA t v)).new 137 #[.int .i64 0, .int .i64 0, .int .i64 0]).new 137 #[.int .i64 a, .int .i64 t, .int .i64 v])
  rw [show ((w.alloc (.cells (cA t v) 112)).alloc (.cells #[.int .i64 0, .int .i64 0, .int .i64 0] 137)).heap.size = w.heap.size + 1 + 1 by simp, show (w.alloc (.cells (cA t v) 112)).heap.size = w.heap.size + 1 by simp] at k0
  have K0 := Lib.hid k0
  clear k0
  have D := Lib.hid (fun w => specTripleOk_calls a t v w)
  by_cases h : isTri a t v
  · rw [tripleIn_yes h]
    rw [decide_eq_true h] at D
    clear h
    go_enter Tryz.func121, Tryz.ntmps121
    go_wp2_with fail
    refine (D.out _).mono ?_; rintro e w1 ⟨rfl, b1⟩
    have k1 := K0.out.below b1
    obtain ⟨e0, e1, e2⟩ := k1.three
    obtain ⟨r0, r1, r2⟩ := k1.tail.three
    have f0 := k1.tail.frozen (List.mem_cons_self ..) 0
    have f1 := k1.tail.frozen (List.mem_cons_self ..) 1
    have f2 := k1.tail.frozen (List.mem_cons_self ..) 2
    have K1 := Lib.hid k1
    clear b1 k1
    go_wp2_with fail
    obtain ⟨w9, e9, ⟨d0, d1, d2⟩, hb⟩ := triple_end (x := .int .i64 a) (y := .int .i64 t) (z := .int .i64 v) (K1.out.tail.at_ (List.mem_cons_self ..)) K1.out.1 (Nat.le_succ _)
    rw [e9]
    exact bodyPost_ret (v := .agg #[.int .i64 a, .int .i64 t, .int .i64 v]) (by simp [results, Tryz.results121, go_sem, d0, d1, d2]) rfl ⟨rfl, hb⟩
  · rw [tripleIn_no h]
    rw [decide_eq_false h] at D
    clear h
    go_enter Tryz.func121, Tryz.ntmps121
    go_wp2_with fail
    refine (D.out _).mono ?_; rintro e w1 ⟨rfl, b1⟩
    have k1 := K0.out.below b1
    obtain ⟨r0, r1, r2⟩ := k1.tail.three
    have f0 := k1.tail.frozen (List.mem_cons_self ..) 0
    have f1 := k1.tail.frozen (List.mem_cons_self ..) 1
    have f2 := k1.tail.frozen (List.mem_cons_self ..) 2
    have K1 := Lib.hid k1
    clear b1 k1
    go_wp2_with fail
    obtain ⟨w9, e9, ⟨d0, d1, d2⟩, hb⟩ := triple_end (x := .int .i64 0) (y := .int .i64 0) (z := .int .i64 0) (K1.out.tail.at_ (List.mem_cons_self ..)) K1.out.1 (Nat.le_succ _)
    rw [e9]
    exact bodyPost_ret (v := .agg #[.int .i64 0, .int .i64 0, .int .i64 0]) (by simp [results, Tryz.results121, go_sem, d0, d1, d2]) rfl ⟨rfl, hb⟩
def AnsCellOk : Prop := ∀ (t v : Int) (w : World), I64 t → I64 v → Calls Tryz.prog 184 #[.agg (cA t v)] w fun e w' => e = .returned (.bool (decide (isCell t v))) ∧ Below w.heap.size w w'
def AnsCellOf : Prop := ∀ (key a t v : Int) (w : World), I64 key → I64 a → I64 t → I64 v → Calls Tryz.prog 202 #[.int .i64 key, .int .i64 a, .int .i64 t, .int .i64 v] w fun e w' => e = .returned (.agg (cA ((cellOf key a t v).1) ((cellOf key a t v).2))) ∧ Below w.heap.size w w'
def AnsValueIn : Prop := ∀ (key a t v : Int) (w : World), I64 key → I64 a → I64 t → I64 v → Calls Tryz.prog 201 #[.int .i64 key, .int .i64 a, .agg (cA t v)] w fun e w' => e = .returned (.int .i64 (valueIn key a t v)) ∧ Below w.heap.size w w'
def AnsTripleIn : Prop := ∀ (a t v : Int) (w : World), I64 a → I64 t → I64 v → Calls Tryz.prog 226 #[.int .i64 a, .agg (cA t v)] w fun e w' => e = .returned (.agg #[.int .i64 (tripleIn a t v).1, .int .i64 (tripleIn a t v).2.1, .int .i64 (tripleIn a t v).2.2]) ∧ Below w.heap.size w w'
theorem toCell_calls (t v : Int) (w : World) :
    Calls Tryz.prog 139 #[.agg (cA t v)] w fun e w' => e = .returned (.agg (cA t v)) ∧ Below w.heap.size w w' := by
  go_enter Tryz.func139, Tryz.ntmps139
  go_wp2_with fail
  exact bodyPost_ret (v := .agg (cA t v)) (by simp [results, Tryz.results139, go_sem]) rfl ⟨rfl, (((Below.refl _ _).alloc (Nat.le_refl _) _).alloc (by simp) _).alloc (by simp; omega) _⟩
theorem eqCel_same (t v : Int) (w : World) :
    Calls Tryz.prog 143 #[.agg (cA t v), .agg (cA t v)] w fun e w' => e = .returned (.bool true) ∧ Below w.heap.size w w' := by
  have hk := ((Kept.refl w).new 112 (cA t v)).new 112 (cA t v)
  rw [show (w.alloc (.cells (cA t v) 112)).heap.size = w.heap.size + 1 by simp] at hk
  have HK := Lib.hid hk
  clear hk
  have et : (t != t) = false := by simp
  have ev : (v != v) = false := by simp
  go_enter Tryz.func143, Tryz.ntmps143
  go_wp2_with fail
  go_ret
  exact ⟨rfl, HK.out.1⟩
end Go.Proofs.YtgaecedhkbneaaaGreatDoor.Mx

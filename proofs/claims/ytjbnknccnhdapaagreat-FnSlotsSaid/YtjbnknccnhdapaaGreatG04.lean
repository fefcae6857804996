import Derived.Test.YtjbnknccnhdapaaGreatG03
import Derived.Deep.RegionWith
import Derived.Test.YtjbnknccnhdapaaGreatG01
namespace Go.Proofs.YtjbnknccnhdapaaGreat.Mx
open Go.ChangeShapes Go.WideShapes Go.ChangeAt Go.RowKit
set_option linter.unusedVariables false
def isAt (a : Int) : Prop := 0 ≤ a ∧ a ≤ 23
def isTm (t : Int) : Prop := 0 ≤ t ∧ t ≤ 100000
def isTri (a t v : Int) : Prop := isAt a ∧ isTm t ∧ isVal v
instance (a : Int) : Decidable (isAt a) := inferInstanceAs (Decidable (_ ∧ _))
instance (a : Int) : Decidable (isTm a) := inferInstanceAs (Decidable (_ ∧ _))
instance (a : Int) : Decidable (isVal a) := inferInstanceAs (Decidable (_ ∧ _))
instance (a t v : Int) : Decidable (isTri a t v) := inferInstanceAs (Decidable (_ ∧ _))
noncomputable def tagOf (key a t v : Int) : Int := if isTri a t v then mixOf key [2, a, t, v] else -1
theorem tagOf_yes {key a t v : Int} (h : isTri a t v) : tagOf key a t v = mixOf key [2, a, t, v] := by unfold tagOf; rw [if_pos h]
theorem tagOf_no {key a t v : Int} (h : ¬ isTri a t v) : tagOf key a t v = -1 := by unfold tagOf; rw [if_neg h]
theorem tagOf_bd (key a t v : Int) : -1 ≤ tagOf key a t v ∧ tagOf key a t v ≤ 4611686018427387903 := by
 by_cases h : isTri a t v
 ·rw [tagOf_yes h]; exact mixOf_bd _ _
 ·rw [tagOf_no h]; omega
theorem isTri.i64 {a t v : Int} (h : isTri a t v) : I64 a ∧ I64 t ∧ I64 v := by
 unfold isTri isAt isTm isVal at h
 exact ⟨⟨by omega, by omega⟩, ⟨by omega, by omega⟩, ⟨by omega, by omega⟩⟩
theorem isTime_yes (s : Int) (w : World) (h : isTm s) :
    Calls Tryz.prog 115 #[.int .i64 s] w fun e w' => e = .returned (.bool true) ∧ w = w' := by
 obtain ⟨h0, h1⟩ := h
 go_enter Tryz.func115, Tryz.ntmps115
 go_wp2
 go_ret
 exact ⟨rfl, rfl⟩
theorem isTime_no (s : Int) (w : World) (h : ¬ isTm s) :
    Calls Tryz.prog 115 #[.int .i64 s] w fun e w' => e = .returned (.bool false) ∧ w = w' := by
 unfold isTm at h
 by_cases h0 : 0 ≤ s
 ·have h2 : ¬ s ≤ 100000 := by omega
  clear h
  go_enter Tryz.func115, Tryz.ntmps115
  go_wp2
  go_ret
  exact ⟨rfl, rfl⟩
 ·clear h
  go_enter Tryz.func115, Tryz.ntmps115
  go_wp2
  go_ret
  exact ⟨rfl, rfl⟩
theorem l3At_yes (s : Int) (w : World) (h : isAt s) :
    Calls Tryz.prog 95 #[.int .i64 s] w fun e w' => e = .returned (.bool true) ∧ w = w' := by
 obtain ⟨h0, h1⟩ := h
 go_enter Tryz.func95, Tryz.ntmps95
 go_wp2_with (go_at_call 31; refine (l1In_yes _ _ _ _ h0 h1).mono ?_; rintro e w' ⟨rfl, rfl⟩)
 go_ret
 exact ⟨rfl, rfl⟩
theorem l3At_no (s : Int) (w : World) (h : ¬ isAt s) :
    Calls Tryz.prog 95 #[.int .i64 s] w fun e w' => e = .returned (.bool false) ∧ w = w' := by
 unfold isAt at h
 have h' : s < 0 ∨ 23 < s := by omega
 clear h
 go_enter Tryz.func95, Tryz.ntmps95
 go_wp2_with (go_at_call 31; refine (l1In_no _ _ _ _ h').mono ?_; rintro e w' ⟨rfl, rfl⟩)
 go_ret
 exact ⟨rfl, rfl⟩
theorem l3Time_yes (s : Int) (w : World) (h : isTm s) :
    Calls Tryz.prog 74 #[.int .i64 s] w fun e w' => e = .returned (.bool true) ∧ w = w' := by
 obtain ⟨h0, h1⟩ := h
 go_enter Tryz.func74, Tryz.ntmps74
 go_wp2_with (go_at_call 31; refine (l1In_yes _ _ _ _ h0 h1).mono ?_; rintro e w' ⟨rfl, rfl⟩)
 go_ret
 exact ⟨rfl, rfl⟩
theorem l3Time_no (s : Int) (w : World) (h : ¬ isTm s) :
    Calls Tryz.prog 74 #[.int .i64 s] w fun e w' => e = .returned (.bool false) ∧ w = w' := by
 unfold isTm at h
 have h' : s < 0 ∨ 100000 < s := by omega
 clear h
 go_enter Tryz.func74, Tryz.ntmps74
 go_wp2_with (go_at_call 31; refine (l1In_no _ _ _ _ h').mono ?_; rintro e w' ⟨rfl, rfl⟩)
 go_ret
 exact ⟨rfl, rfl⟩
theorem specTripleOk_calls (a t v : Int) (w : World) :
    Calls Tryz.prog 76 #[.agg #[.int .i64 a, .int .i64 t, .int .i64 v]] w fun e w' => e = .returned (.bool (decide (isTri a t v))) ∧ Below w.heap.size w w' := by
 by_cases ha : isAt a
 ·by_cases ht : isTm t
  ·by_cases hv : isVal v
   ·have C := Lib.hid (fun w => l3At_yes a w ha)
    have D := Lib.hid (fun w => l3Time_yes t w ht)
    have E := Lib.hid (fun w => l2Value_yes v w hv)
    rw [decide_eq_true (show isTri a t v from ⟨ha, ht, hv⟩)]
    clear ha ht hv
    go_enter Tryz.func76, Tryz.ntmps76
    go_wp2_with fail
    refine (C.out _).mono ?_; rintro e w' ⟨rfl, rfl⟩
    go_wp2_with fail
    refine (D.out _).mono ?_; rintro e w' ⟨rfl, rfl⟩
    go_wp2_with fail
    refine (E.out _).mono ?_; rintro e w' ⟨rfl, rfl⟩
    go_wp2_with fail
    go_ret
    exact ⟨rfl, (Below.refl _ _).alloc (Nat.le_refl _) _⟩
   ·have C := Lib.hid (fun w => l3At_yes a w ha)
    have D := Lib.hid (fun w => l3Time_yes t w ht)
    have E := Lib.hid (fun w => l2Value_no v w hv)
    rw [decide_eq_false (show ¬ isTri a t v from fun h => hv h.2.2)]
    clear ha ht hv
    go_enter Tryz.func76, Tryz.ntmps76
    go_wp2_with fail
    refine (C.out _).mono ?_; rintro e w' ⟨rfl, rfl⟩
    go_wp2_with fail
    refine (D.out _).mono ?_; rintro e w' ⟨rfl, rfl⟩
    go_wp2_with fail
    refine (E.out _).mono ?_; rintro e w' ⟨rfl, rfl⟩
    go_wp2_with fail
    go_ret
    exact ⟨rfl, (Below.refl _ _).alloc (Nat.le_refl _) _⟩
  ·have C := Lib.hid (fun w => l3At_yes a w ha)
   have D := Lib.hid (fun w => l3Time_no t w ht)
   rw [decide_eq_false (show ¬ isTri a t v from fun h => ht h.2.1)]
   clear ha ht
   go_enter Tryz.func76, Tryz.ntmps76
   go_wp2_with fail
   refine (C.out _).mono ?_; rintro e w' ⟨rfl, rfl⟩
   go_wp2_with fail
   refine (D.out _).mono ?_; rintro e w' ⟨rfl, rfl⟩
   go_wp2_with fail
   go_ret
   exact ⟨rfl, (Below.refl _ _).alloc (Nat.le_refl _) _⟩
 ·have C := Lib.hid (fun w => l3At_no a w ha)
  rw [decide_eq_false (show ¬ isTri a t v from fun h => ha h.1)]
  clear ha
  go_enter Tryz.func76, Tryz.ntmps76
  go_wp2_with fail
  refine (C.out _).mono ?_; rintro e w' ⟨rfl, rfl⟩
  go_wp2_with fail
  go_ret
  exact ⟨rfl, (Below.refl _ _).alloc (Nat.le_refl _) _⟩
theorem specMix_four (key x y z u : Int) (g : Nat) (w : World) (hg : w.heap.size = g) (a : I64 x) (b : I64 y) (c : I64 z) (d : I64 u) :
    Calls Tryz.prog 55 (pA key (some ⟨g, 0, none⟩) 4 4) (w.alloc (.cells #[.int .i64 x, .int .i64 y, .int .i64 z, .int .i64 u] 2)) fun e w' => e = .returned (.int .i64 (mixOf key [x, y, z, u])) ∧ w.alloc (.cells #[.int .i64 x, .int .i64 y, .int .i64 z, .int .i64 u] 2) = w' := by
 subst hg
 exact specMix_calls key (some ⟨w.heap.size, 0, none⟩) [x, y, z, u] 4 (w.heap.size + 1) _ (by simp [maxLen]) (CellsAt.reads [x, y, z, u] (CellsAt.new w 2 _)) (I64s.cons a.1 a.2 (i64s_three b c d))
theorem two_i64 : I64 2 := ⟨by omega, by omega⟩
theorem specTag_calls (key a t v : Int) (w : World) :
    Calls Tryz.prog 79 #[.int .i64 key, .agg #[.int .i64 a, .int .i64 t, .int .i64 v]] w fun e w' => e = .returned (.int .i64 (tagOf key a t v)) ∧ Below w.heap.size w w' := by
 by_cases h : isTri a t v
 ·have K := Lib.hid (fun w => specTripleOk_calls a t v w)
  rw [decide_eq_true h] at K
  have C := Lib.hid (fun g w hg => specMix_four key 2 a t v g w hg two_i64 h.i64.1 h.i64.2.1 h.i64.2.2)
  rw [tagOf_yes h]
  clear h
  generalize mixOf key [2, a, t, v] = m at C
  go_enter Tryz.func79, Tryz.ntmps79
  go_wp2_with fail
  refine (K.out _).mono ?_; rintro e w1 ⟨rfl, b1⟩
  have hb := (CellsAt.new w 97 #[.int .i64 a, .int .i64 t, .int .i64 v]).below b1 (by simp)
  have c0 : w1.cell? ⟨w.heap.size, 0, none⟩ = some (.int .i64 a) := hb.cell 0
  have c1 : w1.cell? ⟨w.heap.size, 1, none⟩ = some (.int .i64 t) := hb.cell 1
  have c2 : w1.cell? ⟨w.heap.size, 2, none⟩ = some (.int .i64 v) := hb.cell 2
  have B1 := Lib.hid (((Below.refl w.heap.size w).alloc (Nat.le_refl _) _).trans (b1.mono (by simp)))
  clear hb b1
  go_wp2_with fail
  refine (C.out _ _ ?_).mono ?_; (first | rfl | simp); rintro e w7 ⟨rfl, h7⟩
  subst h7
  go_wp2_with fail
  go_ret
  exact ⟨rfl, B1.out.alloc B1.out.size _⟩
 ·have K := Lib.hid (fun w => specTripleOk_calls a t v w)
  rw [decide_eq_false h] at K
  rw [tagOf_no h]
  clear h
  go_enter Tryz.func79, Tryz.ntmps79
  go_wp2_with fail
  refine (K.out _).mono ?_; rintro e w1 ⟨rfl, b1⟩
  have B1 := Lib.hid (((Below.refl w.heap.size w).alloc (Nat.le_refl _) _).trans (b1.mono (by simp)))
  clear b1
  go_wp2_with fail
  go_ret
  exact ⟨rfl, B1.out⟩
open Classical in
noncomputable def turnOf (s by_ v : Int) : Int := if 0 ≤ s ∧ isVal v then (v + by_) % 10007 else -1
theorem turnOf_yes {s by_ v : Int} (h : 0 ≤ s) (hv : isVal v) : turnOf s by_ v = (v + by_) % 10007 := by unfold turnOf; rw [if_pos ⟨h, hv⟩]
theorem turnOf_neg {s by_ v : Int} (h : s < 0) : turnOf s by_ v = -1 := by unfold turnOf; rw [if_neg (by omega)]
theorem turnOf_no {s by_ v : Int} (hv : ¬ isVal v) : turnOf s by_ v = -1 := by unfold turnOf; rw [if_neg (fun h => hv h.2)]
noncomputable def hiddenOf (key at_ time v : Int) : Int := turnOf (streamOf key at_ time) (streamOf key at_ time) v
noncomputable def shownOf (key at_ time v : Int) : Int := turnOf (streamOf key at_ time) (10007 - streamOf key at_ time) v
theorem specHidden_calls (key at_ time v : Int) (w : World) (ha : I64 at_) (ht : I64 time) :
    Calls Tryz.prog 77 #[.int .i64 key, .int .i64 at_, .int .i64 time, .int .i64 v] w fun e w' => e = .returned (.int .i64 (hiddenOf key at_ time v)) ∧ Below w.heap.size w w' := by
 have C := Lib.hid (fun w => specStream_calls key at_ time w ha ht)
 have S := streamOf_bd key at_ time
 unfold hiddenOf
 clear ha ht
 generalize streamOf key at_ time = s at C S
 obtain ⟨s0, s1⟩ := S
 by_cases hs : s < 0
 ·rw [turnOf_neg hs]
  go_enter Tryz.func77, Tryz.ntmps77
  go_wp2_with fail
  refine (C.out _).mono ?_; rintro e w1 ⟨rfl, b1⟩
  have B1 := Lib.hid b1
  clear b1
  go_wp2_with fail
  go_ret
  exact ⟨rfl, B1.out⟩
 ·by_cases hv : isVal v
  ·rw [turnOf_yes (by omega) hv]
   have D := Lib.hid (fun w => l2Value_yes v w hv)
   obtain ⟨v0, v1⟩ := hv
   go_enter Tryz.func77, Tryz.ntmps77
   go_wp2_with fail
   refine (C.out _).mono ?_; rintro e w1 ⟨rfl, b1⟩
   have B1 := Lib.hid b1
   clear b1
   go_wp2_with fail
   refine (D.out _).mono ?_; rintro e w' ⟨rfl, rfl⟩
   go_wp2_with fail
   go_ret
   exact ⟨rfl, B1.out⟩
  ·rw [turnOf_no hv]
   have D := Lib.hid (fun w => l2Value_no v w hv)
   clear hv
   go_enter Tryz.func77, Tryz.ntmps77
   go_wp2_with fail
   refine (C.out _).mono ?_; rintro e w1 ⟨rfl, b1⟩
   have B1 := Lib.hid b1
   clear b1
   go_wp2_with fail
   refine (D.out _).mono ?_; rintro e w' ⟨rfl, rfl⟩
   go_wp2_with fail
   go_ret
   exact ⟨rfl, B1.out⟩
theorem specShown_calls (key at_ time v : Int) (w : World) (ha : I64 at_) (ht : I64 time) :
    Calls Tryz.prog 112 #[.int .i64 key, .int .i64 at_, .int .i64 time, .int .i64 v] w fun e w' => e = .returned (.int .i64 (shownOf key at_ time v)) ∧ Below w.heap.size w w' := by
 have C := Lib.hid (fun w => specStream_calls key at_ time w ha ht)
 have S := streamOf_bd key at_ time
 unfold shownOf
 clear ha ht
 generalize streamOf key at_ time = s at C S
 obtain ⟨s0, s1⟩ := S
 by_cases hs : s < 0
 ·rw [turnOf_neg hs]
  go_enter Tryz.func112, Tryz.ntmps112
  go_wp2_with fail
  refine (C.out _).mono ?_; rintro e w1 ⟨rfl, b1⟩
  have B1 := Lib.hid b1
  clear b1
  go_wp2_with fail
  go_ret
  exact ⟨rfl, B1.out⟩
 ·by_cases hv : isVal v
  ·rw [turnOf_yes (by omega) hv]
   have D := Lib.hid (fun w => l2Value_yes v w hv)
   obtain ⟨v0, v1⟩ := hv
   go_enter Tryz.func112, Tryz.ntmps112
   go_wp2_with fail
   refine (C.out _).mono ?_; rintro e w1 ⟨rfl, b1⟩
   have B1 := Lib.hid b1
   clear b1
   go_wp2_with fail
   refine (D.out _).mono ?_; rintro e w' ⟨rfl, rfl⟩
   go_wp2_with fail
   go_ret
   exact ⟨by rw [show v + (10007 - s) = v - s + 10007 by omega]; rfl, B1.out⟩
  ·rw [turnOf_no hv]
   have D := Lib.hid (fun w => l2Value_no v w hv)
   clear hv
   go_enter Tryz.func112, Tryz.ntmps112
   go_wp2_with fail
   refine (C.out _).mono ?_; rintro e w1 ⟨rfl, b1⟩
   have B1 := Lib.hid b1
   clear b1
   go_wp2_with fail
   refine (D.out _).mono ?_; rintro e w' ⟨rfl, rfl⟩
   go_wp2_with fail
   go_ret
   exact ⟨rfl, B1.out⟩
def isCell (t v : Int) : Prop := isTm t ∧ isVal v
instance (t v : Int) : Decidable (isCell t v) := inferInstanceAs (Decidable (_ ∧ _))
def isKey (key : Int) : Prop := 1 ≤ key ∧ key ≤ 1000000
instance (key : Int) : Decidable (isKey key) := inferInstanceAs (Decidable (_ ∧ _))
noncomputable def cellOf (key a t v : Int) : Int × Int := if isKey key ∧ isTri a t v then (t, hiddenOf key a t v) else (0, 0)
noncomputable def valueIn (key a t v : Int) : Int := if isKey key ∧ isAt a ∧ isCell t v then shownOf key a t v else -1
def tripleIn (a t v : Int) : Int × Int × Int := if isTri a t v then (a, t, v) else (0, 0, 0)
theorem cellOf_yes {key a t v : Int} (hk : isKey key) (h : isTri a t v) : cellOf key a t v = (t, hiddenOf key a t v) := by unfold cellOf; rw [if_pos ⟨hk, h⟩]
theorem cellOf_no {key a t v : Int} (h : ¬ (isKey key ∧ isTri a t v)) : cellOf key a t v = (0, 0) := by unfold cellOf; rw [if_neg h]
theorem valueIn_yes {key a t v : Int} (hk : isKey key) (ha : isAt a) (h : isCell t v) : valueIn key a t v = shownOf key a t v := by unfold valueIn; rw [if_pos ⟨hk, ha, h⟩]
theorem valueIn_no {key a t v : Int} (h : ¬ (isKey key ∧ isAt a ∧ isCell t v)) : valueIn key a t v = -1 := by unfold valueIn; rw [if_neg h]
theorem tripleIn_yes {a t v : Int} (h : isTri a t v) : tripleIn a t v = (a, t, v) := by unfold tripleIn; rw [if_pos h]
theorem tripleIn_no {a t v : Int} (h : ¬ isTri a t v) : tripleIn a t v = (0, 0, 0) := by unfold tripleIn; rw [if_neg h]
theorem specCellOk_calls (t v : Int) (w : World) :
    Calls Tryz.prog 44 #[.agg (cA t v)] w fun e w' => e = .returned (.bool (decide (isCell t v))) ∧ Below w.heap.size w w' := by
 by_cases ht : isTm t
 ·have D := Lib.hid (fun w => l3Time_yes t w ht)
  by_cases hv : isVal v
  ·have E := Lib.hid (fun w => l2Value_yes v w hv)
   rw [decide_eq_true (show isCell t v from ⟨ht, hv⟩)]
   clear ht hv
   go_enter Tryz.func44, Tryz.ntmps44
   go_wp2_with fail
   refine (D.out _).mono ?_; rintro e w' ⟨rfl, rfl⟩
   go_wp2_with fail
   refine (E.out _).mono ?_; rintro e w' ⟨rfl, rfl⟩
   go_wp2_with fail
   go_ret
   exact ⟨rfl, (Below.refl _ _).alloc (Nat.le_refl _) _⟩
  ·have E := Lib.hid (fun w => l2Value_no v w hv)
   rw [decide_eq_false (show ¬ isCell t v from fun h => hv h.2)]
   clear ht hv
   go_enter Tryz.func44, Tryz.ntmps44
   go_wp2_with fail
   refine (D.out _).mono ?_; rintro e w' ⟨rfl, rfl⟩
   go_wp2_with fail
   refine (E.out _).mono ?_; rintro e w' ⟨rfl, rfl⟩
   go_wp2_with fail
   go_ret
   exact ⟨rfl, (Below.refl _ _).alloc (Nat.le_refl _) _⟩
 ·have D := Lib.hid (fun w => l3Time_no t w ht)
  rw [decide_eq_false (show ¬ isCell t v from fun h => ht h.1)]
  clear ht
  go_enter Tryz.func44, Tryz.ntmps44
  go_wp2_with fail
  refine (D.out _).mono ?_; rintro e w' ⟨rfl, rfl⟩
  go_wp2_with fail
  go_ret
  exact ⟨rfl, (Below.refl _ _).alloc (Nat.le_refl _) _⟩
theorem cell_end {w w1 : World} {r : Nat} {x y x0 y0 : Value} (hk : CellsAt w1 r 55 #[x0, y0]) (hb : Below w.heap.size w w1) (hr : w.heap.size ≤ r) :
    ∃ w4, (w1.setCell ⟨r, 0, none⟩ x).setCell ⟨r, 1, none⟩ y = w4 ∧ (w4.cell? ⟨r, 0, none⟩ = some x ∧ w4.cell? ⟨r, 1, none⟩ = some y) ∧ Below w.heap.size w w4 := by
 have h := (hk.set_ 0 x).set_ 1 y
 exact ⟨_, rfl, ⟨h.cell 0, h.cell 1⟩, (hb.setCell (p := ⟨r, 0, none⟩) hr x).setCell (p := ⟨r, 1, none⟩) hr y⟩
theorem specCellOf_calls (key a t v : Int) (w : World) :
    Calls Tryz.prog 50 #[.int .i64 key, .int .i64 a, .int .i64 t, .int .i64 v] w fun e w' => e = .returned (.agg (cA ((cellOf key a t v).1) ((cellOf key a t v).2))) ∧ Below w.heap.size w w' := by
 have HK := Lib.hid (CellsAt.new w 55 zC)
 by_cases hk : isKey key
 ·have C := Lib.hid (fun w => l1Key_yes key w hk.1 hk.2)
  have D := Lib.hid (fun w => specTripleOk_calls a t v w)
  by_cases h : isTri a t v
  ·rw [cellOf_yes hk h]
   rw [decide_eq_true h] at D
   have E := Lib.hid (fun w => specHidden_calls key a t v w h.i64.1 h.i64.2.1)
   generalize hiddenOf key a t v = z at E
   clear hk h
   go_enter Tryz.func50, Tryz.ntmps50
   go_wp2_with fail
   refine (C.out _).mono ?_; rintro e w' ⟨rfl, rfl⟩
   go_wp2_with fail
   refine (D.out _).mono ?_; rintro e w1 ⟨rfl, b1⟩
   have B1 := Lib.hid b1
   clear b1
   go_wp2_with fail
   refine (E.out _).mono ?_; rintro e w2 ⟨rfl, b2⟩
   have bb := B1.out.trans (b2.mono B1.out.size)
   have hk2 := HK.out.below bb (by simp)
   have r0 : w2.cell? ⟨w.heap.size, 0, none⟩ = some (.int .i64 0) := hk2.cell 0
   have r1 : w2.cell? ⟨w.heap.size, 1, none⟩ = some (.int .i64 0) := hk2.cell 1
   have f0 := hk2.frozen 0
   have f1 := hk2.frozen 1
   have H2 := Lib.hid hk2
   have B2 := Lib.hid (((Below.refl w.heap.size w).alloc (Nat.le_refl _) _).trans (bb.mono (by simp)))
   clear b2 bb hk2 B1
   go_wp2_with fail
   obtain ⟨w9, e9, ⟨d0, d1⟩, hb⟩ := cell_end (x := .int .i64 t) (y := .int .i64 z) H2.out B2.out (Nat.le_refl _)
   rw [e9]
   exact bodyPost_ret (v := .agg (cA t z)) (by simp [results, Tryz.results50, go_sem, d0, d1]) rfl ⟨rfl, hb⟩
  ·rw [cellOf_no (fun h' => h h'.2)]
   rw [decide_eq_false h] at D
   clear hk h
   go_enter Tryz.func50, Tryz.ntmps50
   go_wp2_with fail
   refine (C.out _).mono ?_; rintro e w' ⟨rfl, rfl⟩
   go_wp2_with fail
   refine (D.out _).mono ?_; rintro e w2 ⟨rfl, b2⟩
   have hk2 := HK.out.below b2 (by simp)
   have r0 : w2.cell? ⟨w.heap.size, 0, none⟩ = some (.int .i64 0) := hk2.cell 0
   have r1 : w2.cell? ⟨w.heap.size, 1, none⟩ = some (.int .i64 0) := hk2.cell 1
   have f0 := hk2.frozen 0
   have f1 := hk2.frozen 1
   have H2 := Lib.hid hk2
   have B2 := Lib.hid (((Below.refl w.heap.size w).alloc (Nat.le_refl _) _).trans (b2.mono (by simp)))
   clear b2 hk2
   go_wp2_with fail
   obtain ⟨w9, e9, ⟨d0, d1⟩, hb⟩ := cell_end (x := .int .i64 0) (y := .int .i64 0) H2.out B2.out (Nat.le_refl _)
   rw [e9]
   exact bodyPost_ret (v := .agg zC) (by simp [results, Tryz.results50, go_sem, d0, d1]) rfl ⟨rfl, hb⟩
 ·have C := Lib.hid (fun w => l1Key_no key w (by unfold isKey at hk; omega))
  rw [cellOf_no (fun h' => hk h'.1)]
  clear hk
  go_enter Tryz.func50, Tryz.ntmps50
  go_wp2_with fail
  refine (C.out _).mono ?_; rintro e w' ⟨rfl, rfl⟩
  go_wp2_with fail
  exact bodyPost_ret (v := .agg zC) (by simp [results, Tryz.results50, go_sem]) rfl ⟨rfl, (Below.refl _ _).alloc (Nat.le_refl _) _⟩
theorem specValueIn_calls (key a t v : Int) (w : World) :
    Calls Tryz.prog 98 #[.int .i64 key, .int .i64 a, .agg (cA t v)] w fun e w' => e = .returned (.int .i64 (valueIn key a t v)) ∧ Below w.heap.size w w' := by
 have HK := Lib.hid (CellsAt.new w 55 (cA t v))
 by_cases hk : isKey key
 ·have C := Lib.hid (fun w => l1Key_yes key w hk.1 hk.2)
  by_cases ha : isAt a
  ·have D := Lib.hid (fun w => l3At_yes a w ha)
   have E := Lib.hid (fun w => specCellOk_calls t v w)
   by_cases h : isCell t v
   ·rw [valueIn_yes hk ha h]
    rw [decide_eq_true h] at E
    have F := Lib.hid (fun w => specShown_calls key a t v w ⟨by have := ha.1; omega, by have := ha.2; omega⟩ ⟨by have := h.1.1; omega, by have := h.1.2; omega⟩)
    generalize shownOf key a t v = z at F
    clear hk ha h
    go_enter Tryz.func98, Tryz.ntmps98
    go_wp2_with fail
    refine (C.out _).mono ?_; rintro e w' ⟨rfl, rfl⟩
    go_wp2_with fail
    refine (D.out _).mono ?_; rintro e w' ⟨rfl, rfl⟩
    go_wp2_with fail
    refine (E.out _).mono ?_; rintro e w2 ⟨rfl, b2⟩
    have hk2 := HK.out.below b2 (by simp)
    have r0 : w2.cell? ⟨w.heap.size, 0, none⟩ = some (.int .i64 t) := hk2.cell 0
    have r1 : w2.cell? ⟨w.heap.size, 1, none⟩ = some (.int .i64 v) := hk2.cell 1
    have B2 := Lib.hid (((Below.refl w.heap.size w).alloc (Nat.le_refl _) _).trans (b2.mono (by simp)))
    clear b2 hk2
    go_wp2_with fail
    refine (F.out _).mono ?_; rintro e w3 ⟨rfl, b3⟩
    have B3 := Lib.hid (B2.out.trans (b3.mono B2.out.size))
    clear b3
    go_wp2_with fail
    go_ret
    exact ⟨rfl, B3.out⟩
   ·rw [valueIn_no (fun h' => h h'.2.2)]
    rw [decide_eq_false h] at E
    clear hk ha h
    go_enter Tryz.func98, Tryz.ntmps98
    go_wp2_with fail
    refine (C.out _).mono ?_; rintro e w' ⟨rfl, rfl⟩
    go_wp2_with fail
    refine (D.out _).mono ?_; rintro e w' ⟨rfl, rfl⟩
    go_wp2_with fail
    refine (E.out _).mono ?_; rintro e w2 ⟨rfl, b2⟩
    have B2 := Lib.hid (((Below.refl w.heap.size w).alloc (Nat.le_refl _) _).trans (b2.mono (by simp)))
    clear b2
    go_wp2_with fail
    go_ret
    exact ⟨rfl, B2.out⟩
  ·have D := Lib.hid (fun w => l3At_no a w ha)
   rw [valueIn_no (fun h' => ha h'.2.1)]
   clear hk ha
   go_enter Tryz.func98, Tryz.ntmps98
   go_wp2_with fail
   refine (C.out _).mono ?_; rintro e w' ⟨rfl, rfl⟩
   go_wp2_with fail
   refine (D.out _).mono ?_; rintro e w' ⟨rfl, rfl⟩
   go_wp2_with fail
   go_ret
   exact ⟨rfl, (Below.refl _ _).alloc (Nat.le_refl _) _⟩
 ·have C := Lib.hid (fun w => l1Key_no key w (by unfold isKey at hk; omega))
  rw [valueIn_no (fun h' => hk h'.1)]
  clear hk
  go_enter Tryz.func98, Tryz.ntmps98
  go_wp2_with fail
  refine (C.out _).mono ?_; rintro e w' ⟨rfl, rfl⟩
  go_wp2_with fail
  go_ret
  exact ⟨rfl, (Below.refl _ _).alloc (Nat.le_refl _) _⟩
theorem triple_end {w w1 : World} {r : Nat} {x y z x0 y0 z0 : Value} (hk : CellsAt w1 r 97 #[x0, y0, z0]) (hb : Below w.heap.size w w1) (hr : w.heap.size ≤ r) :
    ∃ w4, ((w1.setCell ⟨r, 0, none⟩ x).setCell ⟨r, 1, none⟩ y).setCell ⟨r, 2, none⟩ z = w4 ∧ (w4.cell? ⟨r, 0, none⟩ = some x ∧ w4.cell? ⟨r, 1, none⟩ = some y ∧ w4.cell? ⟨r, 2, none⟩ = some z) ∧ Below w.heap.size w w4 := by
 have h := ((hk.set_ 0 x).set_ 1 y).set_ 2 z
 exact ⟨_, rfl, ⟨h.cell 0, h.cell 1, h.cell 2⟩, ((hb.setCell (p := ⟨r, 0, none⟩) hr x).setCell (p := ⟨r, 1, none⟩) hr y).setCell (p := ⟨r, 2, none⟩) hr z⟩
theorem specTripleIn_calls (a t v : Int) (w : World) :
    Calls Tryz.prog 51 #[.int .i64 a, .agg (cA t v)] w fun e w' => e = .returned (.agg #[.int .i64 (tripleIn a t v).1, .int .i64 (tripleIn a t v).2.1, .int .i64 (tripleIn a t v).2.2]) ∧ Below w.heap.size w w' := by
 have k0 := ((((Kept.refl w).new 55 (cA t v)).new 97 #[.int .i64 0, .int .i64 0, .int .i64 0]).new 97 #[.int .i64 a, .int .i64 t, .int .i64 v])
 rw [show ((w.alloc (.cells (cA t v) 55)).alloc (.cells #[.int .i64 0, .int .i64 0, .int .i64 0] 97)).heap.size = w.heap.size + 1 + 1 by simp, show (w.alloc (.cells (cA t v) 55)).heap.size = w.heap.size + 1 by simp] at k0
 have K0 := Lib.hid k0
 clear k0
 have D := Lib.hid (fun w => specTripleOk_calls a t v w)
 by_cases h : isTri a t v
 ·rw [tripleIn_yes h]
  rw [decide_eq_true h] at D
  clear h
  go_enter Tryz.func51, Tryz.ntmps51
  go_wp2_with fail
  refine (D.out _).mono ?_; rintro e w1 ⟨rfl, b1⟩
  have k1 := K0.out.below b1
  obtain ⟨e0, e1, e2⟩ := k1.three
  obtain ⟨r0, r1, r2⟩ := k1.tail.three
  have f0 := k1.tail.frozen (List.mem_cons_self ..) 0
  have f1 := k1.tail.frozen (List.mem_cons_self ..) 1
  have f2 := k1.tail.frozen (List.mem_cons_self ..) 2
  have K1 := Lib.hid k1
  clear b1 k1
  go_wp2_with fail
  obtain ⟨w9, e9, ⟨d0, d1, d2⟩, hb⟩ := triple_end (x := .int .i64 a) (y := .int .i64 t) (z := .int .i64 v) (K1.out.tail.at_ (List.mem_cons_self ..)) K1.out.1 (Nat.le_succ _)
  rw [e9]
  exact bodyPost_ret (v := .agg #[.int .i64 a, .int .i64 t, .int .i64 v]) (by simp [results, Tryz.results51, go_sem, d0, d1, d2]) rfl ⟨rfl, hb⟩
 ·rw [tripleIn_no h]
  rw [decide_eq_false h] at D
  clear h
  go_enter Tryz.func51, Tryz.ntmps51
  go_wp2_with fail
  refine (D.out _).mono ?_; rintro e w1 ⟨rfl, b1⟩
  have k1 := K0.out.below b1
  obtain ⟨r0, r1, r2⟩ := k1.tail.three
  have f0 := k1.tail.frozen (List.mem_cons_self ..) 0
  have f1 := k1.tail.frozen (List.mem_cons_self ..) 1
  have f2 := k1.tail.frozen (List.mem_cons_self ..) 2
  have K1 := Lib.hid k1
  clear b1 k1
  go_wp2_with fail
  obtain ⟨w9, e9, ⟨d0, d1, d2⟩, hb⟩ := triple_end (x := .int .i64 0) (y := .int .i64 0) (z := .int .i64 0) (K1.out.tail.at_ (List.mem_cons_self ..)) K1.out.1 (Nat.le_succ _)
  rw [e9]
  exact bodyPost_ret (v := .agg #[.int .i64 0, .int .i64 0, .int .i64 0]) (by simp [results, Tryz.results51, go_sem, d0, d1, d2]) rfl ⟨rfl, hb⟩
def upTo (l : List Int) (k : Nat) : Int := (l.take k).foldl (· + ·) 0
theorem upTo_zero (l : List Int) : upTo l 0 = 0 := by simp [upTo]
theorem upTo_succ (l : List Int) {k : Nat} (h : k < l.length) : upTo l (k + 1) = upTo l k + l.getD k 0 := by
 unfold upTo
 rw [List.take_succ_eq_append_getElem h, List.foldl_append, List.getD_eq_getElem?_getD, List.getElem?_eq_getElem h]
 rfl
def CountsOk (l : List Int) : Prop := ∀ i, i < l.length → 1 ≤ l.getD i 0 ∧ l.getD i 0 ≤ 8
def planOk (key : Int) (l : List Int) : Prop := (1 ≤ key ∧ key ≤ 1000000) ∧ (1 ≤ l.length ∧ l.length ≤ 4) ∧ CountsOk l ∧ upTo l l.length ≤ 24
theorem upTo_mono {l : List Int} (h : CountsOk l) {i j : Nat} (hij : i ≤ j) (hj : j ≤ l.length) : upTo l i + ((j - i : Nat) : Int) ≤ upTo l j := by
 induction j with
 | zero => obtain rfl : i = 0 := by omega
           simp
 | succ j ih =>
   rcases Nat.lt_or_ge j i with hlt | hge
   ·obtain rfl : i = j + 1 := by omega
    simp
   ·have h1 := ih hge (by omega)
    have h2 := (h j (by omega)).1
    rw [upTo_succ l (by omega)]
    omega
theorem upTo_bd {l : List Int} (h : CountsOk l) {k : Nat} (hk : k ≤ l.length) : 0 ≤ upTo l k ∧ upTo l k ≤ 8 * k := by
 induction k with
 | zero => rw [upTo_zero]; omega
 | succ k ih =>
   have h1 := ih (by omega)
   have h2 := h k (by omega)
   rw [upTo_succ l (by omega)]
   omega
open Classical in
noncomputable def sectorsOf (key : Int) (l : List Int) : Int := if planOk key l then upTo l l.length else -1
open Classical in
noncomputable def firstOf (key : Int) (l : List Int) (r : Int) : Int := if planOk key l ∧ 0 ≤ r ∧ r < l.length then upTo l r.toNat else -1
def IsRegion (l : List Int) (at_ r : Int) : Prop := (∃ i : Nat, i < l.length ∧ r = i ∧ upTo l i ≤ at_ ∧ at_ < upTo l (i + 1)) ∨ (r = -1 ∧ upTo l l.length ≤ at_)
theorem IsRegion.one {l : List Int} (h : CountsOk l) {at_ r r' : Int} (h1 : IsRegion l at_ r) (h2 : IsRegion l at_ r') : r = r' := by
 have lem : ∀ i j : Nat, i < l.length → j < l.length → upTo l i ≤ at_ → at_ < upTo l (j + 1) → i ≤ j := by
  intro i j hi hj a b
  refine Nat.le_of_not_lt fun hlt => ?_
  have := upTo_mono h (show j + 1 ≤ i by omega) (by omega)
  omega
 rcases h1 with ⟨i, hi, rfl, a, b⟩ | ⟨rfl, a⟩
 ·rcases h2 with ⟨j, hj, rfl, c, d⟩ | ⟨rfl, c⟩
  ·have := lem i j hi hj a d
   have := lem j i hj hi c b
   omega
  ·have := upTo_mono h (show i + 1 ≤ l.length by omega) (Nat.le_refl _)
   omega
 ·rcases h2 with ⟨j, hj, rfl, c, d⟩ | ⟨rfl, c⟩
  ·have := upTo_mono h (show j + 1 ≤ l.length by omega) (Nat.le_refl _)
   omega
  ·rfl
def regionFrom (l : List Int) (at_ : Int) : Nat → Nat → Int
 | _, 0 => -1
 | i, n + 1 => if at_ < upTo l (i + 1) then i else regionFrom l at_ (i + 1) n
theorem regionFrom_is {l : List Int} {at_ : Int} : ∀ (n i : Nat), i + n = l.length → upTo l i ≤ at_ → IsRegion l at_ (regionFrom l at_ i n) := by
 intro n
 induction n with
 | zero => intro i hi h; obtain rfl : i = l.length := by omega
           exact .inr ⟨rfl, h⟩
 | succ n ih =>
   intro i hi h
   unfold regionFrom
   by_cases hlt : at_ < upTo l (i + 1)
   ·rw [if_pos hlt]; exact .inl ⟨i, by omega, rfl, h, hlt⟩
   ·rw [if_neg hlt]; exact ih (i + 1) (by omega) (by omega)
open Classical in
noncomputable def regionOf (key : Int) (l : List Int) (at_ : Int) : Int := if planOk key l ∧ 0 ≤ at_ then regionFrom l at_ 0 l.length else -1
theorem regionOf_yes {key : Int} {l : List Int} {at_ r : Int} (h : planOk key l) (h0 : 0 ≤ at_) (hr : IsRegion l at_ r) : regionOf key l at_ = r := by
 unfold regionOf
 rw [if_pos ⟨h, h0⟩]
 exact (regionFrom_is l.length 0 (by omega) (by rw [upTo_zero]; exact h0)).one h.2.2.1 hr
theorem regionOf_no {key : Int} {l : List Int} {at_ : Int} (h : ¬ (planOk key l ∧ 0 ≤ at_)) : regionOf key l at_ = -1 := by unfold regionOf; rw [if_neg h]
theorem firstOf_yes {key : Int} {l : List Int} {r : Nat} (h : planOk key l) (hr : r < l.length) : firstOf key l r = upTo l r := by
 unfold firstOf; rw [if_pos ⟨h, by omega, by omega⟩]; simp
theorem firstOf_no {key : Int} {l : List Int} {r : Int} (h : ¬ (planOk key l ∧ 0 ≤ r ∧ r < l.length)) : firstOf key l r = -1 := by unfold firstOf; rw [if_neg h]
theorem sectorsOf_yes {key : Int} {l : List Int} (h : planOk key l) : sectorsOf key l = upTo l l.length := by unfold sectorsOf; rw [if_pos h]
theorem sectorsOf_no {key : Int} {l : List Int} (h : ¬ planOk key l) : sectorsOf key l = -1 := by unfold sectorsOf; rw [if_neg h]
theorem isNoCount_no (c : Int) (w : World) (h0 : 1 ≤ c) (h1 : c ≤ 8) :
    Calls Tryz.prog 91 #[.int .i64 c] w fun e w' => e = .returned (.bool false) ∧ w = w' := by
 have h2 : ¬ c < 1 := by omega
 have h3 : ¬ 8 < c := by omega
 clear h0 h1
 go_enter Tryz.func91, Tryz.ntmps91
 go_wp2
 go_ret
 exact ⟨rfl, rfl⟩
theorem isNoCount_yes (c : Int) (w : World) (h : c < 1 ∨ 8 < c) :
    Calls Tryz.prog 91 #[.int .i64 c] w fun e w' => e = .returned (.bool true) ∧ w = w' := by
 by_cases h0 : c < 1
 ·clear h
  go_enter Tryz.func91, Tryz.ntmps91
  go_wp2
  go_ret
  exact ⟨rfl, rfl⟩
 ·have h1 : 8 < c := by omega
  clear h
  go_enter Tryz.func91, Tryz.ntmps91
  go_wp2
  go_ret
  exact ⟨rfl, rfl⟩
theorem not_counts {l : List Int} (h : ¬ CountsOk l) : ∃ i, i < l.length ∧ (l.getD i 0 < 1 ∨ 8 < l.getD i 0) := by
 refine Classical.byContradiction fun hn => h fun i hi => ?_
 refine Classical.byContradiction fun hc => hn ⟨i, hi, by omega⟩
theorem index_none (A : Option Addr) (l : List Int) (cap B : Nat) (w : World) (hn : l.length ≤ maxLen) (hA : Ints w .i64 B A l) (hf : CountsOk l) :
    Calls Tryz.prog 108 #[.slice A l.length cap, .func (.func 91) #[] #[]] w fun e w' => e = .returned (.int .i64 (-1)) ∧ w = w' := by
 unfold maxLen at hn
 have C := Lib.hid (fun c w (h : 1 ≤ c ∧ c ≤ 8) => isNoCount_no c w h.1 h.2)
 go_enter Tryz.func108, Tryz.ntmps108
 go_wp2
 go_loop [8] (fun i => ∃ k : Nat, k ≤ l.length ∧ i = .int .i64 k) (fun i => l.length - (intOf i).toNat)
 case atStart => exact ⟨0, Nat.zero_le _, rfl⟩
 case round =>
  obtain ⟨k, hk, rfl⟩ := hrel
  by_cases hlt : k < l.length
  ·obtain ⟨b, off, rfl, hb, hc⟩ := hA k hlt
   have hv := Lib.hid (hf k hlt)
   generalize l.getD k 0 = v at hc hv
   clear hA hf
   go_wp2_with fail
   refine (C.out _ _ hv.out).mono ?_; rintro e w' ⟨rfl, rfl⟩
   go_wp2_with fail
   go_round
   case rel => exact ⟨k + 1, by omega, by go_num⟩
   case measure => simp [intOf]; omega
  ·clear hA hf
   go_wp2
   go_ret
   exact ⟨rfl, rfl⟩
theorem index_some (A : Option Addr) (l : List Int) (cap B : Nat) (w : World) (hn : l.length ≤ maxLen) (hA : Ints w .i64 B A l) (hf : ¬ CountsOk l) :
    Calls Tryz.prog 108 #[.slice A l.length cap, .func (.func 91) #[] #[]] w fun e w' => ∃ i : Nat, e = .returned (.int .i64 i) ∧ i < maxLen ∧ w = w' := by
 unfold maxLen at *
 obtain ⟨j, hj, hjv⟩ := not_counts hf
 clear hf
 have C := Lib.hid (fun c w (h : 1 ≤ c ∧ c ≤ 8) => isNoCount_no c w h.1 h.2)
 have D := Lib.hid (fun c w (h : c < 1 ∨ 8 < c) => isNoCount_yes c w h)
 have HJ := Lib.hid hjv
 clear hjv
 go_enter Tryz.func108, Tryz.ntmps108
 go_wp2
 go_loop [8] (fun i => ∃ k : Nat, k ≤ j ∧ i = .int .i64 k) (fun i => l.length - (intOf i).toNat)
 case atStart => exact ⟨0, Nat.zero_le _, rfl⟩
 case round =>
  obtain ⟨k, hk, rfl⟩ := hrel
  have hlt : k < l.length := by omega
  obtain ⟨b, off, rfl, hb, hc⟩ := hA k hlt
  clear hA
  by_cases hbad : l.getD k 0 < 1 ∨ 8 < l.getD k 0
  ·have hv := Lib.hid hbad
   clear hbad HJ
   generalize l.getD k 0 = v at hc hv
   go_wp2_with fail
   refine (D.out _ _ hv.out).mono ?_; rintro e w' ⟨rfl, rfl⟩
   go_wp2_with fail
   go_ret
   exact ⟨k, rfl, by omega, rfl⟩
  ·have hkj : k < j := by
     rcases Nat.lt_or_ge k j with h | h
     ·exact h
     ·obtain rfl : k = j := by omega
      exact absurd HJ.out hbad
   have hv := Lib.hid (show 1 ≤ l.getD k 0 ∧ l.getD k 0 ≤ 8 by omega)
   clear hbad HJ
   generalize l.getD k 0 = v at hc hv
   go_wp2_with fail
   refine (C.out _ _ hv.out).mono ?_; rintro e w' ⟨rfl, rfl⟩
   go_wp2_with fail
   go_round
   case rel => exact ⟨k + 1, by omega, by go_num⟩
   case measure => simp [intOf]; omega
theorem contains_none (A : Option Addr) (l : List Int) (cap B : Nat) (w : World) (hn : l.length ≤ maxLen) (hA : Ints w .i64 B A l) (hf : CountsOk l) :
    Calls Tryz.prog 90 #[.slice A l.length cap, .func (.func 91) #[] #[]] w fun e w' => e = .returned (.bool false) ∧ w = w' := by
 have C := Lib.hid (index_none A l cap B w hn hA hf)
 clear hA hf
 unfold maxLen at hn
 go_enter Tryz.func90, Tryz.ntmps90
 go_wp2_with fail
 refine C.out.mono ?_; rintro e w' ⟨rfl, rfl⟩
 go_wp2_with fail
 go_ret
 exact ⟨rfl, rfl⟩
theorem contains_some (A : Option Addr) (l : List Int) (cap B : Nat) (w : World) (hn : l.length ≤ maxLen) (hA : Ints w .i64 B A l) (hf : ¬ CountsOk l) :
    Calls Tryz.prog 90 #[.slice A l.length cap, .func (.func 91) #[] #[]] w fun e w' => e = .returned (.bool true) ∧ w = w' := by
 have C := Lib.hid (index_some A l cap B w hn hA hf)
 clear hA hf
 unfold maxLen at hn
 go_enter Tryz.func90, Tryz.ntmps90
 go_wp2_with fail
 refine C.out.mono ?_; rintro e w' ⟨i, rfl, hi, rfl⟩
 unfold maxLen at hi
 have h0 : (0 : Int) ≤ i := by omega
 go_wp2_with fail
 go_ret
 exact ⟨rfl, rfl⟩
theorem Ints.take {w : World} {k : IntKind} {B : Nat} {A : Option Addr} {l : List Int} (h : Ints w k B A l) (n : Nat) : Ints w k B A (l.take n) := by
 intro i hi
 rw [List.length_take] at hi
 obtain ⟨b, off, rfl, hb, hc⟩ := h i (by omega)
 refine ⟨b, off, rfl, hb, ?_⟩
 rw [hc, List.getD_eq_getElem?_getD, List.getD_eq_getElem?_getD, List.getElem?_take_of_lt (by omega)]
theorem ahead_calls (key : Int) (A : Option Addr) (l : List Int) (cap r : Nat) (w : World) (hl : l.length ≤ 4) (hcap : l.length ≤ cap) (hA : Ints w .i64 w.heap.size A l) (hc : CountsOk l) (hr : r ≤ l.length) (hr0 : 0 < l.length) :
    Calls Tryz.prog 92 #[.agg (pA key A l.length cap), .int .i64 r] w fun e w' => e = .returned (.int .i64 (upTo l r)) ∧ Below w.heap.size w w' := by
 have HA := Lib.hid hA
 have HC := Lib.hid hc
 obtain ⟨b0, off0, rfl, hb0, _⟩ := hA 0 hr0
 clear hA hc
 go_enter Tryz.func92, Tryz.ntmps92
 go_wp2
 go_loopw [5, 13] (fun s i wr => ∃ k : Nat, k ≤ r ∧ i = .int .i64 k ∧ s = .int .i64 (upTo l k) ∧ Below w.heap.size w wr) (fun _ i _ => r - (intOf i).toNat)
 case atStart => exact ⟨0, Nat.zero_le _, rfl, by rw [upTo_zero], (Below.refl _ _).alloc (Nat.le_refl _) _⟩
 case round =>
  obtain ⟨k, hk, rfl, rfl, hbel⟩ := hrel
  have HB := Lib.hid hbel
  clear hbel
  by_cases hlt : k < r
  ·obtain ⟨b, off, e1, hb, hc⟩ := (HA.out.below HB.out (Nat.le_refl _)) k (by omega)
   injection e1 with e1
   injection e1 with e1 e2 e3
   subst e1 e2
   have hlt' : (k : Int) < r := by omega
   have hk0 : (0 : Int) ≤ k := by omega
   have HS := Lib.hid (upTo_succ l (show k < l.length by omega))
   have hv := HC.out k (by omega)
   have hu := upTo_bd HC.out (show k ≤ l.length by omega)
   generalize l.getD k 0 = v at hc hv HS
   generalize upTo l k = s at HS hu
   obtain ⟨v0, v1⟩ := hv
   obtain ⟨u0, u1⟩ := hu
   go_wp2
   go_roundw
   case rel => exact ⟨k + 1, by omega, by go_num, by rw [HS.out], HB.out⟩
   case measure => simp [intOf]; omega
  ·obtain rfl : k = r := by omega
   go_wp2
   go_ret
   exact ⟨rfl, HB.out⟩
theorem sectors_calls (key : Int) (A : Option Addr) (l : List Int) (cap : Nat) (w : World) (hl : l.length ≤ 4) (hcap : l.length ≤ cap) (hA : Ints w .i64 w.heap.size A l) (hc : CountsOk l) (hr0 : 0 < l.length) :
    Calls Tryz.prog 71 #[.agg (pA key A l.length cap)] w fun e w' => e = .returned (.int .i64 (upTo l l.length)) ∧ Below w.heap.size w w' := by
 have HA := Lib.hid hA
 have C := Lib.hid (fun w hA => ahead_calls key A l cap l.length w hl hcap hA hc (Nat.le_refl _) hr0)
 clear hA hc
 go_enter Tryz.func71, Tryz.ntmps71
 go_wp2_with fail
 refine (C.out _ ((HA.out.below ((Below.refl _ _).alloc (Nat.le_refl _) _) (Nat.le_refl _)).more (by simp))).mono ?_; rintro e w1 ⟨rfl, b1⟩
 have B1 := Lib.hid (((Below.refl w.heap.size w).alloc (Nat.le_refl _) _).trans (b1.mono (by simp)))
 clear b1 C
 go_wp2_with fail
 go_ret
 exact ⟨rfl, B1.out⟩
theorem first_yes (key : Int) (A : Option Addr) (l : List Int) (cap r : Nat) (w : World) (hl : l.length ≤ 4) (hcap : l.length ≤ cap) (hA : Ints w .i64 w.heap.size A l) (hc : CountsOk l) (hr : r < l.length) :
    Calls Tryz.prog 114 #[.agg (pA key A l.length cap), .int .i64 r] w fun e w' => e = .returned (.int .i64 (upTo l r)) ∧ Below w.heap.size w w' := by
 have HA := Lib.hid hA
 have C := Lib.hid (fun w hA => ahead_calls key A l cap r w hl hcap hA hc (by omega) (by omega))
 have h0 : ¬ (r : Int) < 0 := by omega
 have h1 : ¬ (l.length : Int) ≤ r := by omega
 clear hA hc
 go_enter Tryz.func114, Tryz.ntmps114
 go_wp2_with fail
 refine (C.out _ ((HA.out.below ((Below.refl _ _).alloc (Nat.le_refl _) _) (Nat.le_refl _)).more (by simp))).mono ?_; rintro e w1 ⟨rfl, b1⟩
 have B1 := Lib.hid (((Below.refl w.heap.size w).alloc (Nat.le_refl _) _).trans (b1.mono (by simp)))
 clear b1 C
 go_wp2_with fail
 go_ret
 exact ⟨rfl, B1.out⟩
theorem first_no (key r : Int) (A : Option Addr) (n cap : Nat) (w : World) (hr : r < 0 ∨ n ≤ r) (hn : n ≤ 4) :
    Calls Tryz.prog 114 #[.agg (pA key A n cap), .int .i64 r] w fun e w' => e = .returned (.int .i64 (-1)) ∧ Below w.heap.size w w' := by
 by_cases h0 : r < 0
 ·clear hr
  go_enter Tryz.func114, Tryz.ntmps114
  go_wp2_with fail
  go_ret
  exact ⟨rfl, (Below.refl _ _).alloc (Nat.le_refl _) _⟩
 ·have h1 : (n : Int) ≤ r := by omega
  clear hr
  go_enter Tryz.func114, Tryz.ntmps114
  go_wp2_with fail
  go_ret
  exact ⟨rfl, (Below.refl _ _).alloc (Nat.le_refl _) _⟩
end Go.Proofs.YtjbnknccnhdapaaGreat.Mx

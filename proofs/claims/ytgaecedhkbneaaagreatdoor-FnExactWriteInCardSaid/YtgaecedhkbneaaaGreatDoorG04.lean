import Derived.Test.YtgaecedhkbneaaaGreatDoorG03
import Derived.Maps.OwnSet
import Derived.DeepKeys4
import Derived.MapViews
import Derived.Deep.RegionWith
import Derived.Deep.AppendLies
import Derived.Test.YtgaecedhkbneaaaGreatDoorG01
import Derived.Deep.QuietTactic
import Derived.BigQuiet
namespace Go.Proofs.YtgaecedhkbneaaaGreatDoor.Mx
open Go.ChangeShapes Go.WideShapes Go.ChangeAt Go.RowKit
set_option linter.unusedVariables false
open Classical in
noncomputable def turnOf (s by_ v : Int) : Int := if 0 ≤ s ∧ isVal v then (v + by_) % 10007 else -1
theorem turnOf_yes {s by_ v : Int} (h : 0 ≤ s) (hv : isVal v) : turnOf s by_ v = (v + by_) % 10007 := by unfold turnOf; rw [if_pos ⟨h, hv⟩]
theorem turnOf_neg {s by_ v : Int} (h : s < 0) : turnOf s by_ v = -1 := by unfold turnOf; rw [if_neg (by omega)]
theorem turnOf_no {s by_ v : Int} (hv : ¬ isVal v) : turnOf s by_ v = -1 := by unfold turnOf; rw [if_neg (fun h => hv h.2)]
theorem turnOf_bd (s by_ v : Int) : -1 ≤ turnOf s by_ v ∧ turnOf s by_ v ≤ 10006 := by
  unfold turnOf
  split <;> omega
noncomputable def hiddenOf (key at_ time v : Int) : Int := turnOf (streamOf key at_ time) (streamOf key at_ time) v
noncomputable def shownOf (key at_ time v : Int) : Int := turnOf (streamOf key at_ time) (10007 - streamOf key at_ time) v
theorem hidden_nat {key at_ time v : Int} (k0 : 1 ≤ key) (k1 : key ≤ 1000000) (ha : 0 ≤ at_) (ht : 0 ≤ time) (hv : isVal v) : ¬ hiddenOf key at_ time v < 0 := by
  have := streamOf_nat k0 k1 ha ht
  unfold hiddenOf
  rw [turnOf_yes this hv]
  unfold isVal at hv
  omega
theorem turn_calls (s by_ v : Int) (p q : Nat) (w : World) (hp : w.cell? ⟨p, 0, none⟩ = some (.int .i64 s)) (hq : w.cell? ⟨q, 0, none⟩ = some (.int .i64 by_)) (b0 : -1 ≤ by_) (b1 : by_ ≤ 10008) (b2 : 0 ≤ s → 0 ≤ by_) :
    Calls Tryz.prog 244 #[.int .i64 v, .pointer (some ⟨p, 0, none⟩), .pointer (some ⟨q, 0, none⟩)] w fun e w' => e = .returned (.int .i64 (turnOf s by_ v)) ∧ w = w' := by
  by_cases hs : s < 0
  · rw [turnOf_neg hs]
    go_enter Tryz.func244, Tryz.ntmps244
    go_wp2_with fail
    go_ret
    exact ⟨rfl, rfl⟩
  · by_cases hv : isVal v
    · rw [turnOf_yes (by omega) hv]
      have C := Lib.hid (fun w => isValue_yes v w hv)
      obtain ⟨v0, v1⟩ := hv
      have b3 := b2 (by omega)
      go_enter Tryz.func244, Tryz.ntmps244
      go_wp2_with fail
      refine (C.out _).mono ?_; rintro e w' ⟨rfl, rfl⟩
      go_wp2_with fail
      go_ret
      exact ⟨rfl, rfl⟩
    · rw [turnOf_no hv]
      have C := Lib.hid (fun w => isValue_no v w hv)
      clear hv
      go_enter Tryz.func244, Tryz.ntmps244
      go_wp2_with fail
      refine (C.out _).mono ?_; rintro e w' ⟨rfl, rfl⟩
      go_wp2_with fail
      go_ret
      exact ⟨rfl, rfl⟩
theorem hidden_calls (key at_ time v : Int) (w : World) (ha : I64 at_) (ht : I64 time) :
    Calls Tryz.prog 229 #[.int .i64 key, .int .i64 at_, .int .i64 time, .int .i64 v] w fun e w' => e = .returned (.int .i64 (hiddenOf key at_ time v)) ∧ Below w.heap.size w w' := by
  have C := Lib.hid (fun w => stream_calls key at_ time w ha ht)
  have S := streamOf_bd key at_ time
  unfold hiddenOf
  clear ha ht
  generalize streamOf key at_ time = s at C S
  obtain ⟨s0, s1⟩ := S
  go_enter Tryz.func229, Tryz.ntmps229
  go_wp2_with fail
  refine (C.out _).mono ?_; rintro e w1 ⟨rfl, b1⟩
  have B1 := Lib.hid b1
  clear b1
  go_wp2_with fail
  refine (veil_calls s w1 s0 s1).mono ?_; rintro e w2 ⟨p, U, V, rfl, hU, hV, b2⟩
  have B2 := Lib.hid (B1.out.trans (b2.mono B1.out.size))
  obtain ⟨q, rfl, cp, cq⟩ := hU
  have T := Lib.hid (turn_calls s _ v p q w2 cp cq (by omega) (by omega) (by omega))
  clear b2 cp cq hV
  go_wp2_with fail
  refine T.out.mono ?_; rintro e w' ⟨rfl, rfl⟩
  go_wp2_with fail
  go_ret
  exact ⟨rfl, B2.out⟩
theorem shown_calls (key at_ time v : Int) (w : World) (ha : I64 at_) (ht : I64 time) :
    Calls Tryz.prog 228 #[.int .i64 key, .int .i64 at_, .int .i64 time, .int .i64 v] w fun e w' => e = .returned (.int .i64 (shownOf key at_ time v)) ∧ Below w.heap.size w w' := by
  have C := Lib.hid (fun w => stream_calls key at_ time w ha ht)
  have S := streamOf_bd key at_ time
  unfold shownOf
  clear ha ht
  generalize streamOf key at_ time = s at C S
  obtain ⟨s0, s1⟩ := S
  go_enter Tryz.func228, Tryz.ntmps228
  go_wp2_with fail
  refine (C.out _).mono ?_; rintro e w1 ⟨rfl, b1⟩
  have B1 := Lib.hid b1
  clear b1
  go_wp2_with fail
  refine (veil_calls s w1 s0 s1).mono ?_; rintro e w2 ⟨p, U, V, rfl, hU, hV, b2⟩
  have B2 := Lib.hid (B1.out.trans (b2.mono B1.out.size))
  obtain ⟨q, rfl, cp, cq⟩ := hV
  have T := Lib.hid (turn_calls s _ v p q w2 cp cq (by omega) (by omega) (by omega))
  clear b2 cp cq hU
  go_wp2_with fail
  refine T.out.mono ?_; rintro e w' ⟨rfl, rfl⟩
  go_wp2_with fail
  go_ret
  exact ⟨rfl, B2.out⟩
theorem specHidden_calls (key at_ time v : Int) (w : World) (ha : I64 at_) (ht : I64 time) :
    Calls Tryz.prog 179 #[.int .i64 key, .int .i64 at_, .int .i64 time, .int .i64 v] w fun e w' => e = .returned (.int .i64 (hiddenOf key at_ time v)) ∧ Below w.heap.size w w' := by
  have C := Lib.hid (fun w => specStream_calls key at_ time w ha ht)
  have S := streamOf_bd key at_ time
  unfold hiddenOf
  clear ha ht
  generalize streamOf key at_ time = s at C S
  obtain ⟨s0, s1⟩ := S
  by_cases hs : s < 0
  · rw [turnOf_neg hs]
    go_enter Tryz.func179, Tryz.ntmps179
    go_wp2_with fail
    refine (C.out _).mono ?_; rintro e w1 ⟨rfl, b1⟩
    have B1 := Lib.hid b1
    clear b1
    go_wp2_with fail
    go_ret
    exact ⟨rfl, B1.out⟩
  · by_cases hv : isVal v
    · rw [turnOf_yes (by omega) hv]
      have D := Lib.hid (fun w => l2Value_yes v w hv)
      obtain ⟨v0, v1⟩ := hv
      go_enter Tryz.func179, Tryz.ntmps179
      go_wp2_with fail
      refine (C.out _).mono ?_; rintro e w1 ⟨rfl, b1⟩
      have B1 := Lib.hid b1
      clear b1
      go_wp2_with fail
      refine (D.out _).mono ?_; rintro e w' ⟨rfl, rfl⟩
      go_wp2_with fail
      go_ret
      exact ⟨rfl, B1.out⟩
    · rw [turnOf_no hv]
      have D := Lib.hid (fun w => l2Value_no v w hv)
      clear hv
      go_enter Tryz.func179, Tryz.ntmps179
      go_wp2_with fail
      refine (C.out _).mono ?_; rintro e w1 ⟨rfl, b1⟩
      have B1 := Lib.hid b1
      clear b1
      go_wp2_with fail
      refine (D.out _).mono ?_; rintro e w' ⟨rfl, rfl⟩
      go_wp2_with fail
      go_ret
      exact ⟨rfl, B1.out⟩
theorem specShown_calls (key at_ time v : Int) (w : World) (ha : I64 at_) (ht : I64 time) :
    Calls Tryz.prog 205 #[.int .i64 key, .int .i64 at_, .int .i64 time, .int .i64 v] w fun e w' => e = .returned (.int .i64 (shownOf key at_ time v)) ∧ Below w.heap.size w w' := by
  have C := Lib.hid (fun w => specStream_calls key at_ time w ha ht)
  have S := streamOf_bd key at_ time
  unfold shownOf
  clear ha ht
  generalize streamOf key at_ time = s at C S
  obtain ⟨s0, s1⟩ := S
  by_cases hs : s < 0
  · rw [turnOf_neg hs]
    go_enter Tryz.func205, Tryz.ntmps205
    go_wp2_with fail
    refine (C.out _).mono ?_; rintro e w1 ⟨rfl, b1⟩
    have B1 := Lib.hid b1
    clear b1
    go_wp2_with fail
    go_ret
    exact ⟨rfl, B1.out⟩
  · by_cases hv : isVal v
    · rw [turnOf_yes (by omega) hv]
      have D := Lib.hid (fun w => l2Value_yes v w hv)
      obtain ⟨v0, v1⟩ := hv
      go_enter Tryz.func205, Tryz.ntmps205
      go_wp2_with fail
      refine (C.out _).mono ?_; rintro e w1 ⟨rfl, b1⟩
      have B1 := Lib.hid b1
      clear b1
      go_wp2_with fail
      refine (D.out _).mono ?_; rintro e w' ⟨rfl, rfl⟩
      go_wp2_with fail
      go_ret
      exact ⟨by rw [show v + (10007 - s) = v - s + 10007 by omega]; rfl, B1.out⟩
    · rw [turnOf_no hv]
      have D := Lib.hid (fun w => l2Value_no v w hv)
      clear hv
      go_enter Tryz.func205, Tryz.ntmps205
      go_wp2_with fail
      refine (C.out _).mono ?_; rintro e w1 ⟨rfl, b1⟩
      have B1 := Lib.hid b1
      clear b1
      go_wp2_with fail
      refine (D.out _).mono ?_; rintro e w' ⟨rfl, rfl⟩
      go_wp2_with fail
      go_ret
      exact ⟨rfl, B1.out⟩
def isCell (t v : Int) : Prop := isTm t ∧ isVal v
instance (t v : Int) : Decidable (isCell t v) := inferInstanceAs (Decidable (_ ∧ _))
def isKey (key : Int) : Prop := 1 ≤ key ∧ key ≤ 1000000
instance (key : Int) : Decidable (isKey key) := inferInstanceAs (Decidable (_ ∧ _))
noncomputable def cellOf (key a t v : Int) : Int × Int := if isKey key ∧ isTri a t v then (t, hiddenOf key a t v) else (0, 0)
noncomputable def valueIn (key a t v : Int) : Int := if isKey key ∧ isAt a ∧ isCell t v then shownOf key a t v else -1
def tripleIn (a t v : Int) : Int × Int × Int := if isTri a t v then (a, t, v) else (0, 0, 0)
theorem cellOf_yes {key a t v : Int} (hk : isKey key) (h : isTri a t v) : cellOf key a t v = (t, hiddenOf key a t v) := by unfold cellOf; rw [if_pos ⟨hk, h⟩]
theorem cellOf_no {key a t v : Int} (h : ¬ (isKey key ∧ isTri a t v)) : cellOf key a t v = (0, 0) := by unfold cellOf; rw [if_neg h]
theorem valueIn_yes {key a t v : Int} (hk : isKey key) (ha : isAt a) (h : isCell t v) : valueIn key a t v = shownOf key a t v := by unfold valueIn; rw [if_pos ⟨hk, ha, h⟩]
theorem valueIn_no {key a t v : Int} (h : ¬ (isKey key ∧ isAt a ∧ isCell t v)) : valueIn key a t v = -1 := by unfold valueIn; rw [if_neg h]
theorem tripleIn_yes {a t v : Int} (h : isTri a t v) : tripleIn a t v = (a, t, v) := by unfold tripleIn; rw [if_pos h]
theorem tripleIn_no {a t v : Int} (h : ¬ isTri a t v) : tripleIn a t v = (0, 0, 0) := by unfold tripleIn; rw [if_neg h]
theorem specCellOk_calls (t v : Int) (w : World) :
    Calls Tryz.prog 133 #[.agg (cA t v)] w fun e w' => e = .returned (.bool (decide (isCell t v))) ∧ Below w.heap.size w w' := by
  by_cases ht : isTm t
  · have D := Lib.hid (fun w => l3Time_yes t w ht)
    by_cases hv : isVal v
    · have E := Lib.hid (fun w => l2Value_yes v w hv)
      rw [decide_eq_true (show isCell t v from ⟨ht, hv⟩)]
      clear ht hv
      go_enter Tryz.func133, Tryz.ntmps133
      go_wp2_with fail
      refine (D.out _).mono ?_; rintro e w' ⟨rfl, rfl⟩
      go_wp2_with fail
      refine (E.out _).mono ?_; rintro e w' ⟨rfl, rfl⟩
      go_wp2_with fail
      go_ret
      exact ⟨rfl, (Below.refl _ _).alloc (Nat.le_refl _) _⟩
    · have E := Lib.hid (fun w => l2Value_no v w hv)
      rw [decide_eq_false (show ¬ isCell t v from fun h => hv h.2)]
      clear ht hv
      go_enter Tryz.func133, Tryz.ntmps133
      go_wp2_with fail
      refine (D.out _).mono ?_; rintro e w' ⟨rfl, rfl⟩
      go_wp2_with fail
      refine (E.out _).mono ?_; rintro e w' ⟨rfl, rfl⟩
      go_wp2_with fail
      go_ret
      exact ⟨rfl, (Below.refl _ _).alloc (Nat.le_refl _) _⟩
  · have D := Lib.hid (fun w => l3Time_no t w ht)
    rw [decide_eq_false (show ¬ isCell t v from fun h => ht h.1)]
    clear ht
    go_enter Tryz.func133, Tryz.ntmps133
    go_wp2_with fail
    refine (D.out _).mono ?_; rintro e w' ⟨rfl, rfl⟩
    go_wp2_with fail
    go_ret
    exact ⟨rfl, (Below.refl _ _).alloc (Nat.le_refl _) _⟩
theorem cell_end {w w1 : World} {r : Nat} {x y x0 y0 : Value} (hk : CellsAt w1 r 112 #[x0, y0]) (hb : Below w.heap.size w w1) (hr : w.heap.size ≤ r) :
    ∃ w4, (w1.setCell ⟨r, 0, none⟩ x).setCell ⟨r, 1, none⟩ y = w4 ∧ (w4.cell? ⟨r, 0, none⟩ = some x ∧ w4.cell? ⟨r, 1, none⟩ = some y) ∧ Below w.heap.size w w4 := by
  have h := (hk.set_ 0 x).set_ 1 y
  exact ⟨_, rfl, ⟨h.cell 0, h.cell 1⟩, (hb.setCell (p := ⟨r, 0, none⟩) hr x).setCell (p := ⟨r, 1, none⟩) hr y⟩
theorem specCellOf_calls (key a t v : Int) (w : World) :
    Calls Tryz.prog 120 #[.int .i64 key, .int .i64 a, .int .i64 t, .int .i64 v] w fun e w' => e = .returned (.agg (cA ((cellOf key a t v).1) ((cellOf key a t v).2))) ∧ Below w.heap.size w w' := by
  have HK := Lib.hid (CellsAt.new w 112 zC)
  by_cases hk : isKey key
  · have C := Lib.hid (fun w => l1Key_yes key w hk.1 hk.2)
    have D := Lib.hid (fun w => specTripleOk_calls a t v w)
    by_cases h : isTri a t v
    · rw [cellOf_yes hk h]
      rw [decide_eq_true h] at D
      have E := Lib.hid (fun w => specHidden_calls key a t v w h.i64.1 h.i64.2.1)
      generalize hiddenOf key a t v = z at E
      clear hk h
      go_enter Tryz.func120, Tryz.ntmps120
      go_wp2_with fail
      refine (C.out _).mono ?_; rintro e w' ⟨rfl, rfl⟩
      go_wp2_with fail
      refine (D.out _).mono ?_; rintro e w1 ⟨rfl, b1⟩
      have B1 := Lib.hid b1
      clear b1
      go_wp2_with fail
      refine (E.out _).mono ?_; rintro e w2 ⟨rfl, b2⟩
      have bb := B1.out.trans (b2.mono B1.out.size)
      have hk2 := HK.out.below bb (by simp)
      have r0 : w2.cell? ⟨w.heap.size, 0, none⟩ = some (.int .i64 0) := hk2.cell 0
      have r1 : w2.cell? ⟨w.heap.size, 1, none⟩ = some (.int .i64 0) := hk2.cell 1
      have f0 := hk2.frozen 0
      have f1 := hk2.frozen 1
      have H2 := Lib.hid hk2
      have B2 := Lib.hid (((Below.refl w.heap.size w).alloc (Nat.le_refl _) _).trans (bb.mono (by simp)))
      clear b2 bb hk2 B1
      go_wp2_with fail
      obtain ⟨w9, e9, ⟨d0, d1⟩, hb⟩ := cell_end (x := .int .i64 t) (y := .int .i64 z) H2.out B2.out (Nat.le_refl _)
      rw [e9]
      exact bodyPost_ret (v := .agg (cA t z)) (by simp [results, Tryz.results120, go_sem, d0, d1]) rfl ⟨rfl, hb⟩
    · rw [cellOf_no (fun h' => h h'.2)]
      rw [decide_eq_false h] at D
      clear hk h
      go_enter Tryz.func120, Tryz.ntmps120
      go_wp2_with fail
      refine (C.out _).mono ?_; rintro e w' ⟨rfl, rfl⟩
      go_wp2_with fail
      refine (D.out _).mono ?_; rintro e w2 ⟨rfl, b2⟩
      have hk2 := HK.out.below b2 (by simp)
      have r0 : w2.cell? ⟨w.heap.size, 0, none⟩ = some (.int .i64 0) := hk2.cell 0
      have r1 : w2.cell? ⟨w.heap.size, 1, none⟩ = some (.int .i64 0) := hk2.cell 1
      have f0 := hk2.frozen 0
      have f1 := hk2.frozen 1
      have H2 := Lib.hid hk2
      have B2 := Lib.hid (((Below.refl w.heap.size w).alloc (Nat.le_refl _) _).trans (b2.mono (by simp)))
      clear b2 hk2
      go_wp2_with fail
      obtain ⟨w9, e9, ⟨d0, d1⟩, hb⟩ := cell_end (x := .int .i64 0) (y := .int .i64 0) H2.out B2.out (Nat.le_refl _)
      rw [e9]
      exact bodyPost_ret (v := .agg zC) (by simp [results, Tryz.results120, go_sem, d0, d1]) rfl ⟨rfl, hb⟩
  · have C := Lib.hid (fun w => l1Key_no key w (by unfold isKey at hk; omega))
    rw [cellOf_no (fun h' => hk h'.1)]
    clear hk
    go_enter Tryz.func120, Tryz.ntmps120
    go_wp2_with fail
    refine (C.out _).mono ?_; rintro e w' ⟨rfl, rfl⟩
    go_wp2_with fail
    exact bodyPost_ret (v := .agg zC) (by simp [results, Tryz.results120, go_sem]) rfl ⟨rfl, (Below.refl _ _).alloc (Nat.le_refl _) _⟩
theorem specValueIn_calls (key a t v : Int) (w : World) :
    Calls Tryz.prog 163 #[.int .i64 key, .int .i64 a, .agg (cA t v)] w fun e w' => e = .returned (.int .i64 (valueIn key a t v)) ∧ Below w.heap.size w w' := by
  have HK := Lib.hid (CellsAt.new w 112 (cA t v))
  by_cases hk : isKey key
  · have C := Lib.hid (fun w => l1Key_yes key w hk.1 hk.2)
    by_cases ha : isAt a
    · have D := Lib.hid (fun w => l3At_yes a w ha)
      have E := Lib.hid (fun w => specCellOk_calls t v w)
      by_cases h : isCell t v
      · rw [valueIn_yes hk ha h]
        rw [decide_eq_true h] at E
        have F := Lib.hid (fun w => specShown_calls key a t v w ⟨by have := ha.1; omega, by have := ha.2; omega⟩ ⟨by have := h.1.1; omega, by have := h.1.2; omega⟩)
        generalize shownOf key a t v = z at F
        clear hk ha h
        go_enter Tryz.func163, Tryz.ntmps163
        go_wp2_with fail
        refine (C.out _).mono ?_; rintro e w' ⟨rfl, rfl⟩
        go_wp2_with fail
        refine (D.out _).mono ?_; rintro e w' ⟨rfl, rfl⟩
        go_wp2_with fail
        refine (E.out _).mono ?_; rintro e w2 ⟨rfl, b2⟩
        have hk2 := HK.out.below b2 (by simp)
        have r0 : w2.cell? ⟨w.heap.size, 0, none⟩ = some (.int .i64 t) := hk2.cell 0
        have r1 : w2.cell? ⟨w.heap.size, 1, none⟩ = some (.int .i64 v) := hk2.cell 1
        have B2 := Lib.hid (((Below.refl w.heap.size w).alloc (Nat.le_refl _) _).trans (b2.mono (by simp)))
        clear b2 hk2
        go_wp2_with fail
        refine (F.out _).mono ?_; rintro e w3 ⟨rfl, b3⟩
        have B3 := Lib.hid (B2.out.trans (b3.mono B2.out.size))
        clear b3
        go_wp2_with fail
        go_ret
        exact ⟨rfl, B3.out⟩
      · rw [valueIn_no (fun h' => h h'.2.2)]
        rw [decide_eq_false h] at E
        clear hk ha h
        go_enter Tryz.func163, Tryz.ntmps163
        go_wp2_with fail
        refine (C.out _).mono ?_; rintro e w' ⟨rfl, rfl⟩
        go_wp2_with fail
        refine (D.out _).mono ?_; rintro e w' ⟨rfl, rfl⟩
        go_wp2_with fail
        refine (E.out _).mono ?_; rintro e w2 ⟨rfl, b2⟩
        have B2 := Lib.hid (((Below.refl w.heap.size w).alloc (Nat.le_refl _) _).trans (b2.mono (by simp)))
        clear b2
        go_wp2_with fail
        go_ret
        exact ⟨rfl, B2.out⟩
    · have D := Lib.hid (fun w => l3At_no a w ha)
      rw [valueIn_no (fun h' => ha h'.2.1)]
      clear hk ha
      go_enter Tryz.func163, Tryz.ntmps163
      go_wp2_with fail
      refine (C.out _).mono ?_; rintro e w' ⟨rfl, rfl⟩
      go_wp2_with fail
      refine (D.out _).mono ?_; rintro e w' ⟨rfl, rfl⟩
      go_wp2_with fail
      go_ret
      exact ⟨rfl, (Below.refl _ _).alloc (Nat.le_refl _) _⟩
  · have C := Lib.hid (fun w => l1Key_no key w (by unfold isKey at hk; omega))
    rw [valueIn_no (fun h' => hk h'.1)]
    clear hk
    go_enter Tryz.func163, Tryz.ntmps163
    go_wp2_with fail
    refine (C.out _).mono ?_; rintro e w' ⟨rfl, rfl⟩
    go_wp2_with fail
    go_ret
    exact ⟨rfl, (Below.refl _ _).alloc (Nat.le_refl _) _⟩
theorem triple_end {w w1 : World} {r : Nat} {x y z x0 y0 z0 : Value} (hk : CellsAt w1 r 137 #[x0, y0, z0]) (hb : Below w.heap.size w w1) (hr : w.heap.size ≤ r) :
    ∃ w4, ((w1.setCell ⟨r, 0, none⟩ x).setCell ⟨r, 1, none⟩ y).setCell ⟨r, 2, none⟩ z = w4 ∧ (w4.cell? ⟨r, 0, none⟩ = some x ∧ w4.cell? ⟨r, 1, none⟩ = some y ∧ w4.cell? ⟨r, 2, none⟩ = some z) ∧ Below w.heap.size w w4 := by
  have h := ((hk.set_ 0 x).set_ 1 y).set_ 2 z
  exact ⟨_, rfl, ⟨h.cell 0, h.cell 1, h.cell 2⟩, ((hb.setCell (p := ⟨r, 0, none⟩) hr x).setCell (p := ⟨r, 1, none⟩) hr y).setCell (p := ⟨r, 2, none⟩) hr z⟩
theorem specTripleIn_calls (a t v : Int) (w : World) :
    Calls Tryz.prog 121 #[.int .i64 a, .agg (cA t v)] w fun e w' => e = .returned (.agg #[.int .i64 (tripleIn a t v).1, .int .i64 (tripleIn a t v).2.1, .int .i64 (tripleIn a t v).2.2]) ∧ Below w.heap.size w w' := by
  have k0 := ((((Kept.refl w).new 112 (cA t v)).new 137 #[.int .i64 0, .int .i64 0, .int .i64 0]).new 137 #[.int .i64 a, .int .i64 t, .int .i64 v])
  rw [show ((w.alloc (.cells (cA t v) 112)).alloc (.cells #[.int .i64 0, .int .i64 0, .int .i64 0] 137)).heap.size = w.heap.size + 1 + 1 by simp, show (w.alloc (.cells (cA t v) 112)).heap.size = w.heap.size + 1 by simp] at k0
  have K0 := Lib.hid k0
  clear k0
  have D := Lib.hid (fun w => specTripleOk_calls a t v w)
  by_cases h : isTri a t v
  · rw [tripleIn_yes h]
    rw [decide_eq_true h] at D
    clear h
    go_enter Tryz.func121, Tryz.ntmps121
    go_wp2_with fail
    refine (D.out _).mono ?_; rintro e w1 ⟨rfl, b1⟩
    have k1 := K0.out.below b1
    obtain ⟨e0, e1, e2⟩ := k1.three
    obtain ⟨r0, r1, r2⟩ := k1.tail.three
    have f0 := k1.tail.frozen (List.mem_cons_self ..) 0
    have f1 := k1.tail.frozen (List.mem_cons_self ..) 1
    have f2 := k1.tail.frozen (List.mem_cons_self ..) 2
    have K1 := Lib.hid k1
    clear b1 k1
    go_wp2_with fail
    obtain ⟨w9, e9, ⟨d0, d1, d2⟩, hb⟩ := triple_end (x := .int .i64 a) (y := .int .i64 t) (z := .int .i64 v) (K1.out.tail.at_ (List.mem_cons_self ..)) K1.out.1 (Nat.le_succ _)
    rw [e9]
    exact bodyPost_ret (v := .agg #[.int .i64 a, .int .i64 t, .int .i64 v]) (by simp [results, Tryz.results121, go_sem, d0, d1, d2]) rfl ⟨rfl, hb⟩
  · rw [tripleIn_no h]
    rw [decide_eq_false h] at D
    clear h
    go_enter Tryz.func121, Tryz.ntmps121
    go_wp2_with fail
    refine (D.out _).mono ?_; rintro e w1 ⟨rfl, b1⟩
    have k1 := K0.out.below b1
    obtain ⟨r0, r1, r2⟩ := k1.tail.three
    have f0 := k1.tail.frozen (List.mem_cons_self ..) 0
    have f1 := k1.tail.frozen (List.mem_cons_self ..) 1
    have f2 := k1.tail.frozen (List.mem_cons_self ..) 2
    have K1 := Lib.hid k1
    clear b1 k1
    go_wp2_with fail
    obtain ⟨w9, e9, ⟨d0, d1, d2⟩, hb⟩ := triple_end (x := .int .i64 0) (y := .int .i64 0) (z := .int .i64 0) (K1.out.tail.at_ (List.mem_cons_self ..)) K1.out.1 (Nat.le_succ _)
    rw [e9]
    exact bodyPost_ret (v := .agg #[.int .i64 0, .int .i64 0, .int .i64 0]) (by simp [results, Tryz.results121, go_sem, d0, d1, d2]) rfl ⟨rfl, hb⟩
def AnsCellOk : Prop := ∀ (t v : Int) (w : World), I64 t → I64 v → Calls Tryz.prog 184 #[.agg (cA t v)] w fun e w' => e = .returned (.bool (decide (isCell t v))) ∧ Below w.heap.size w w'
def AnsCellOf : Prop := ∀ (key a t v : Int) (w : World), I64 key → I64 a → I64 t → I64 v → Calls Tryz.prog 202 #[.int .i64 key, .int .i64 a, .int .i64 t, .int .i64 v] w fun e w' => e = .returned (.agg (cA ((cellOf key a t v).1) ((cellOf key a t v).2))) ∧ Below w.heap.size w w'
def AnsValueIn : Prop := ∀ (key a t v : Int) (w : World), I64 key → I64 a → I64 t → I64 v → Calls Tryz.prog 201 #[.int .i64 key, .int .i64 a, .agg (cA t v)] w fun e w' => e = .returned (.int .i64 (valueIn key a t v)) ∧ Below w.heap.size w w'
def AnsTripleIn : Prop := ∀ (a t v : Int) (w : World), I64 a → I64 t → I64 v → Calls Tryz.prog 226 #[.int .i64 a, .agg (cA t v)] w fun e w' => e = .returned (.agg #[.int .i64 (tripleIn a t v).1, .int .i64 (tripleIn a t v).2.1, .int .i64 (tripleIn a t v).2.2]) ∧ Below w.heap.size w w'
theorem toCell_calls (t v : Int) (w : World) :
    Calls Tryz.prog 139 #[.agg (cA t v)] w fun e w' => e = .returned (.agg (cA t v)) ∧ Below w.heap.size w w' := by
  go_enter Tryz.func139, Tryz.ntmps139
  go_wp2_with fail
  exact bodyPost_ret (v := .agg (cA t v)) (by simp [results, Tryz.results139, go_sem]) rfl ⟨rfl, (((Below.refl _ _).alloc (Nat.le_refl _) _).alloc (by simp) _).alloc (by simp; omega) _⟩
theorem eqCel_same (t v : Int) (w : World) :
    Calls Tryz.prog 143 #[.agg (cA t v), .agg (cA t v)] w fun e w' => e = .returned (.bool true) ∧ Below w.heap.size w w' := by
  have hk := ((Kept.refl w).new 112 (cA t v)).new 112 (cA t v)
  rw [show (w.alloc (.cells (cA t v) 112)).heap.size = w.heap.size + 1 by simp] at hk
  have HK := Lib.hid hk
  clear hk
  have et : (t != t) = false := by simp
  have ev : (v != v) = false := by simp
  go_enter Tryz.func143, Tryz.ntmps143
  go_wp2_with fail
  go_ret
  exact ⟨rfl, HK.out.1⟩
open Go.ChangeShapes Go.WideShapes Go.ChangeAt Go.RowKit Go.Maps
theorem laid : laidOutB Tryz.prog = true := by kernel_rfl
theorem triRow : (137 : TypeId) < Tryz.prog.types.size := of_decide_eq_true (by kernel_rfl)
theorem triKeyAt : Tryz.prog.keyTypeAt 3 137 = true := by kernel_rfl
set_option maxRecDepth 20000 in
theorem triWide : (match Tryz.prog.underlying 137 with | some (.array _ _) | some (.struct _) => true | _ => false) = true := by kernel_rfl
set_option maxRecDepth 20000 in
theorem triLaw : Keyed Tryz.prog 137 := Keyed.of_law (deep_law_laid laid (m := 3) (by omega) triRow triKeyAt triWide)
theorem triType : Tryz.prog.keyType 137 = true := by kernel_rfl
theorem triCells : Tryz.prog.cellsOf 137 = 3 := by kernel_rfl
theorem i64Cells : Tryz.prog.cellsOf 2 = 1 := by kernel_rfl
theorem i64Zero (w : World) : (zeroValue 2).run Tryz.prog w = .ok (.int .i64 0) w := by kernel_rfl
def tkey (a t v : Int) : Lit := .string (keyBytes [.int .i64 a, .int .i64 t, .int .i64 v])
theorem tkey_of {a t v : Int} (ha : I64 a) (ht : I64 t) (hv : I64 v) : keyOf Tryz.prog 137 (.agg #[.int .i64 a, .int .i64 t, .int .i64 v]) = some (tkey a t v) := by
  obtain ⟨m, hm⟩ : ∃ m, m + 1 = Tryz.prog.types.size := ⟨Tryz.prog.types.size - 1, Nat.sub_add_cancel (Nat.lt_of_le_of_lt (Nat.zero_le _) triRow)⟩
  have w1 : (Lit.int .i64 a).wf = true := WalkArith.wf_i64 ⟨ha.1, ha.2⟩
  have w2 : (Lit.int .i64 t).wf = true := WalkArith.wf_i64 ⟨ht.1, ht.2⟩
  have w3 : (Lit.int .i64 v).wf = true := WalkArith.wf_i64 ⟨hv.1, hv.2⟩
  unfold keyOf
  simp only [Tryz.underlying137]
  rw [triType, ← hm]
  clear hm
  simp [triCells, i64Cells, Value.formed, Tryz.underlying137, Value.cells, Program.keyLits, Tryz.underlying2, w1, w2, w3, tkey]
theorem tkey_inj {a t v a' t' v' : Int} (ha : I64 a) (ht : I64 t) (hv : I64 v) (ha' : I64 a') (ht' : I64 t') (hv' : I64 v') (h : tkey a t v = tkey a' t' v') : a = a' ∧ t = t' ∧ v = v' := by
  have := triLaw.inj (tkey_of ha ht hv) (h ▸ tkey_of ha' ht' hv')
  simpa using this
theorem tkey_lit (a t v : Int) : WideAt.IsKeyLit (tkey a t v) := trivial
abbrev Held := Int → Int → Int → Option Int
def Held.none : Held := fun _ _ _ => Option.none
def Held.put (f : Held) (a t v d : Int) : Held := fun x y z => if x = a ∧ y = t ∧ z = v then some d else f x y z
def TMap (w : World) (b n : Nat) (f : Held) : Prop :=
  ∃ D : DataW Unit, w.ownsMap Tryz.prog 137 (plainElem Tryz.prog 2) b n D ∧
    ∀ a t v, I64 a → I64 t → I64 v → Maps.has D (tkey a t v) = (f a t v).isSome ∧ D.atKey (tkey a t v) (.lit (.int .i64 0)) = .lit (.int .i64 ((f a t v).getD 0))
theorem TMap.lt {w : World} {b n : Nat} {f : Held} (h : TMap w b n f) : b < w.heap.size := let ⟨_, h, _⟩ := h; h.lt
theorem TMap.mono {w : World} {b n n' : Nat} {f : Held} (h : TMap w b n f) (hn : n ≤ n') : TMap w b n' f := let ⟨D, h, k⟩ := h; ⟨D, h.mono hn, k⟩
theorem TMap.below {w w' : World} {b n B : Nat} {f : Held} (h : TMap w b n f) (hb : Below B w w') (hB : b < B) : TMap w' b n f := by
  obtain ⟨D, ⟨es, clock, hh, r⟩, k⟩ := h
  exact ⟨D, ⟨es, clock, (hb.block b hB).trans hh, r⟩, k⟩
theorem TMap.alloc {w : World} {b n : Nat} {f : Held} (h : TMap w b n f) (o : Obj) : TMap (w.alloc o) b n f := let ⟨D, h, k⟩ := h; ⟨D, h.alloc o, k⟩
theorem TMap.drew {w : World} {b n : Nat} {f : Held} (h : TMap w b n f) : TMap w.drew b n f := h
theorem TMap.made (w : World) : TMap (w.alloc (.map #[] 0)) w.heap.size 0 Held.none :=
  ⟨.map [], World.ownsMap_made _ _ _ _, fun a t v _ _ _ => ⟨rfl, rfl⟩⟩
theorem TMap.put {w : World} {b n : Nat} {f : Held} (hown : TMap w b n f) (hn : n < maxLen) {i j k d : Int} (hi : I64 i) (hj : I64 j) (hk : I64 k) (hd : I64 d) :
    ∃ w', (Instr.mapUpdate 257 (.map (some b)) (.agg #[.int .i64 i, .int .i64 j, .int .i64 k]) (.int .i64 d)).run Tryz.prog w = .ok () w' ∧ TMap w' b (n + 1) (f.put i j k d) ∧ w.grownBy w' (some b) := by
  obtain ⟨D, h, hD⟩ := hown
  obtain ⟨w', hr, h', hg'⟩ := h.update triLaw Tryz.underlying257 hn (tkey_of hi hj hk) (plainElem_int (H := Unit) Tryz.underlying2 (WalkArith.wf_i64 ⟨hd.1, hd.2⟩))
  refine ⟨w', hr, ⟨_, h', fun a t v ha ht hv => ?_⟩, hg'⟩
  by_cases e : a = i ∧ t = j ∧ v = k
  · obtain ⟨rfl, rfl, rfl⟩ := e
    rw [has_put_same h.isMap (tkey_lit _ _ _), atKey_put_same h.isMap (tkey_lit _ _ _)]
    simp [Held.put]
  · have hne : tkey a t v ≠ tkey i j k := fun e' => e (tkey_inj ha ht hv hi hj hk e')
    rw [has_put_other hne, atKey_put_other hne]
    simp only [Held.put, if_neg e]
    exact hD a t v ha ht hv
theorem TMap.look {w : World} {b n : Nat} {f : Held} (hown : TMap w b n f) {i j k : Int} (hi : I64 i) (hj : I64 j) (hk : I64 k) :
    (Instr.lookup 257 (.map (some b)) (.agg #[.int .i64 i, .int .i64 j, .int .i64 k]) false).run Tryz.prog w = .ok (.int .i64 ((f i j k).getD 0)) w := by
  obtain ⟨D, h, hD⟩ := hown
  obtain ⟨c, hr, hc, _⟩ := h.lookup_int triLaw Tryz.underlying257 Tryz.underlying2 (i64Zero _) (tkey_of hi hj hk)
  rw [(hD i j k hi hj hk).2] at hc
  simp only [DataW.lit.injEq, Lit.int.injEq, true_and] at hc
  rw [hc]; exact hr
section
variable (w : World) {ops : Array Oper} {rest : List Oper} {o : Oper} {a : Act} {Q : Exit → Act → World → Prop}
theorem tm_look_ok (hg : o.guard = none) (m x : Operand) (hop : o.op = Op.lookup 257 m x true) (b n : Nat) (f : Held) (hm : a.eval m = .map (some b)) (hown : TMap w b n f)
    (i j k : Int) (hx : a.eval x = .agg #[.int .i64 i, .int .i64 j, .int .i64 k]) (hi : I64 i) (hj : I64 j) (hk : I64 k)
    (hK : wpList Tryz.prog ops Q rest (a.put o.dst (.tuple #[.int .i64 ((f i j k).getD 0), .bool (f i j k).isSome])) w) : wpList Tryz.prog ops Q (o :: rest) a w := by
  obtain ⟨D, h, hD⟩ := hown
  refine wpList_lookup_own_ok_int _ hg m x 257 hop 137 2 .i64 triLaw Tryz.underlying257 Tryz.underlying2 (i64Zero _) b n D hm h _ _ hx (tkey_of hi hj hk) ?_
  intro c hc _
  rw [(hD i j k hi hj hk).2] at hc
  simp only [DataW.lit.injEq, Lit.int.injEq, true_and] at hc
  rw [← hc, (hD i j k hi hj hk).1]; exact hK
end
abbrev Tri := Int × Int × Int
def Tris (w : World) (B : Nat) (A : Option Addr) (L : List Tri) : Prop :=
  ∀ i, i < L.length → ∃ b off, A = some ⟨b, off, none⟩ ∧ b < B ∧ w.cell? ⟨b, off + i * 3, none⟩ = some (.int .i64 (L.getD i (0, 0, 0)).1) ∧ w.cell? ⟨b, off + i * 3 + 1, none⟩ = some (.int .i64 (L.getD i (0, 0, 0)).2.1) ∧ w.cell? ⟨b, off + i * 3 + 2, none⟩ = some (.int .i64 (L.getD i (0, 0, 0)).2.2)
def TriI (L : List Tri) : Prop := ∀ i, i < L.length → I64 (L.getD i (0, 0, 0)).1 ∧ I64 (L.getD i (0, 0, 0)).2.1 ∧ I64 (L.getD i (0, 0, 0)).2.2
theorem Tris.below {w w' : World} {B B' : Nat} {A : Option Addr} {L : List Tri} (h : Tris w B A L) (hb : Below B' w w') (hB : B ≤ B') : Tris w' B A L := by
  intro i hi
  obtain ⟨b, off, rfl, hlt, c0, c1, c2⟩ := h i hi
  have f := fun o => hb.cell (p := ⟨b, o, none⟩) (Nat.lt_of_lt_of_le hlt hB)
  exact ⟨b, off, rfl, hlt, (f _).trans c0, (f _).trans c1, (f _).trans c2⟩
noncomputable def tagsHeld (key : Int) (L : List Tri) : Held := fun a t v => if (a, t, v) ∈ L then some (tagOf key a t v) else Option.none
theorem tagsHeld_nil (key : Int) : tagsHeld key [] = Held.none := by funext a t v; simp [tagsHeld, Held.none]
theorem tagsHeld_snoc (key : Int) (L : List Tri) (a t v : Int) : tagsHeld key (L ++ [(a, t, v)]) = (tagsHeld key L).put a t v (tagOf key a t v) := by
  funext x y z
  by_cases e : x = a ∧ y = t ∧ z = v
  · obtain ⟨rfl, rfl, rfl⟩ := e; simp [tagsHeld, Held.put]
  · simp [tagsHeld, Held.put, e]
theorem tagsHeld_there (key : Int) (L : List Tri) (a t v : Int) (h : (a, t, v) ∈ L) : tagsHeld key (L ++ [(a, t, v)]) = tagsHeld key L := by
  funext x y z
  by_cases e : x = a ∧ y = t ∧ z = v
  · obtain ⟨rfl, rfl, rfl⟩ := e; simp [tagsHeld, h]
  · simp [tagsHeld, e]
theorem take_snoc {L : List Tri} {k : Nat} (h : k < L.length) : L.take (k + 1) = L.take k ++ [L.getD k (0, 0, 0)] := by
  rw [List.take_succ_eq_append_getElem h, List.getD_eq_getElem?_getD, List.getElem?_eq_getElem h]; rfl
theorem i64_tag (key a t v : Int) : I64 (tagOf key a t v) := by have := tagOf_bd key a t v; exact ⟨by omega, by omega⟩
set_option maxHeartbeats 1000000 in
theorem tagsOf_calls (key : Int) (A : Option Addr) (L : List Tri) (cap : Nat) (w : World) (hn : L.length < maxLen) (hA : Tris w w.heap.size A L) (hI : TriI L) :
    Calls Tryz.prog 235 (pA key A L.length cap) w fun e w' => e = .returned (.map (some w.heap.size)) ∧ TMap w' w.heap.size L.length (tagsHeld key L) ∧ Below w.heap.size w w' := by
  have hm := hn
  unfold maxLen at hm
  have hmm := @run_makeMap Tryz.prog
  have HA := Lib.hid hA
  have HI := Lib.hid hI
  have HN := Lib.hid hn
  clear hA hI hn
  go_enter Tryz.func235, Tryz.ntmps235
  go_wp2_with fail
  clear hmm
  go_loopw [13] (fun i wr => ∃ k : Nat, k ≤ L.length ∧ i = .int .i64 k ∧ Below w.heap.size w wr ∧ TMap wr w.heap.size k (tagsHeld key (L.take k))) (fun i _ => L.length - (intOf i).toNat)
  case atStart => exact ⟨0, Nat.zero_le _, rfl, (Below.refl _ _).alloc (Nat.le_refl _) _, by rw [List.take_zero, tagsHeld_nil]; exact TMap.made w⟩
  case round =>
    obtain ⟨k, hk, rfl, hbel, hmap⟩ := hrel
    have HB := Lib.hid hbel
    have HM := Lib.hid hmap
    have hAr := HA.out.below hbel (Nat.le_refl _)
    clear hbel hmap
    by_cases hlt : k < L.length
    · obtain ⟨b, off, rfl, hb, c0, c1, c2⟩ := hAr k hlt
      have hlt' : (k : Int) < L.length := by omega
      have hk0 : (0 : Int) ≤ k := by omega
      have HS := Lib.hid (take_snoc hlt)
      have HT := Lib.hid (HI.out k hlt)
      clear hAr
      generalize L.getD k (0, 0, 0) = T at c0 c1 c2 HS HT
      obtain ⟨a, t, v⟩ := T
      simp only at c0 c1 c2
      have I1 := HT.out.1
      have I2 := HT.out.2.1
      have I3 := HT.out.2.2
      simp only at I1 I2 I3
      have J1 := Lib.hid I1
      have J2 := Lib.hid I2
      have J3 := Lib.hid I3
      clear I1 I2 I3 HT
      have HC := Lib.hid (fun w => tagged_calls key a t v w)
      have HK := Lib.hid (i64_tag key a t v)
      by_cases hin : (a, t, v) ∈ L.take k
      · have hs : (tagsHeld key (L.take k) a t v).isSome = true := by simp [tagsHeld, hin]
        have HQ := Lib.hid hs
        have HE := Lib.hid (tagsHeld_there key (L.take k) a t v hin)
        clear hs hin
        go_wp2_with (at_lookup; refine tm_look_ok _ rfl _ _ rfl w.heap.size k (tagsHeld key (L.take k)) rfl (HM.out.alloc _) a t v rfl J1.out J2.out J3.out ?_; rw [HQ.out])
        go_roundw
        case rel => exact ⟨k + 1, by omega, by go_num, HB.out.alloc HB.out.size _, by rw [HS.out, HE.out]; exact (HM.out.alloc _).mono (by omega)⟩
        case measure => simp [intOf]; omega
      · have hs : (tagsHeld key (L.take k) a t v).isSome = false := by simp [tagsHeld, hin]
        have HQ := Lib.hid hs
        have HE := Lib.hid (tagsHeld_snoc key (L.take k) a t v)
        clear hs hin
        generalize tagOf key a t v = d at HC HK HE
        go_wp2_with (at_lookup; refine tm_look_ok _ rfl _ _ rfl w.heap.size k (tagsHeld key (L.take k)) rfl (HM.out.alloc _) a t v rfl J1.out J2.out J3.out ?_; rw [HQ.out])
        go_region_with (go_at_call 242; refine (HC.out _).mono ?_; rintro e wx ⟨rfl, bx⟩; go_loud (have hx : TMap wx w.heap.size k (tagsHeld key (L.take k)) := TMap.below (TMap.drew (HM.out.alloc _)) bx (Nat.lt_of_lt_of_le HM.out.lt (by simp [World.drew]))); obtain ⟨w2, hrun, hm2, hg2⟩ := hx.put (by unfold maxLen; omega) J1.out J2.out J3.out HK.out; have hcx := (CellsAt.new wr 137 #[.int .i64 a, .int .i64 t, .int .i64 v]).drew.below bx (by simp [World.drew]); have d0 : wx.cell? ⟨wr.heap.size, 0, none⟩ = some (.int .i64 a) := hcx.cell 0; have d1 : wx.cell? ⟨wr.heap.size, 1, none⟩ = some (.int .i64 t) := hcx.cell 1; have d2 : wx.cell? ⟨wr.heap.size, 2, none⟩ = some (.int .i64 v) := hcx.cell 2; clear hcx; have BX := Lib.hid bx; have M2 := Lib.hid hm2; have G2 := Lib.hid hg2; clear bx hx hm2 hg2)
        all_goals
          go_wp2_with fail
          go_roundw
          case rel =>
            refine ⟨k + 1, by omega, by go_num, ?_, by rw [HS.out, HE.out]; exact M2.out⟩
            exact bgb ((HB.out.alloc HB.out.size _).drew.trans (BX.out.mono (show w.heap.size ≤ _ from Nat.le_trans HB.out.size (by simp [World.drew])))) G2.out (Nat.le_trans HB.out.size (Nat.le_trans (by simp [World.drew]) BX.out.size)) (Nat.le_refl _)
          case measure => simp [intOf]; omega
    · have hk' : k = L.length := by omega
      clear hAr
      have HQ := Lib.hid (show L.take k = L by rw [hk', List.take_length])
      have HK := Lib.hid hk'
      clear hk'
      go_wp2_with fail
      go_ret
      exact ⟨rfl, by have := HM.out; rw [HQ.out] at this; exact this.mono hk, HB.out⟩
def OneTag (key a t v : Int) (u : World) (e : Ending) (w' : World) : Prop :=
  ∃ m, e = .returned (.map (some m)) ∧ TMap w' m 1 (tagsHeld key [(a, t, v)]) ∧ Below u.heap.size u w'
theorem tagsOf_one (key a t v : Int) (g : Nat) (u : World) (hb : CellsAt u g 137 #[.int .i64 a, .int .i64 t, .int .i64 v]) (ha : I64 a) (ht : I64 t) (hv : I64 v) :
    Calls Tryz.prog 235 (pA key (some ⟨g, 0, none⟩) 1 1) u (OneTag key a t v u) := by
  refine (tagsOf_calls key (some ⟨g, 0, none⟩) [(a, t, v)] 1 u (by simp [maxLen])
    (fun i hi => by
      obtain rfl : i = 0 := by simp at hi; omega
      exact ⟨_, 0, rfl, hb.lt, hb.cell 0, hb.cell 1, hb.cell 2⟩)
    (fun i hi => by
      obtain rfl : i = 0 := by simp at hi; omega
      exact ⟨ha, ht, hv⟩)).mono ?_
  rintro e w' ⟨rfl, hm, h⟩
  exact ⟨_, rfl, hm, h⟩
def OneTagB (key a t v : Int) (w : World) (e : Ending) (w' : World) : Prop :=
  ∃ m, e = .returned (.map (some m)) ∧ (Instr.lookup 257 (.map (some m)) (.agg #[.int .i64 a, .int .i64 t, .int .i64 v]) false).run Tryz.prog w' = .ok (.int .i64 (tagOf key a t v)) w' ∧
    w'.cell? ⟨w.heap.size, 0, none⟩ = some (.int .i64 a) ∧ w'.cell? ⟨w.heap.size, 1, none⟩ = some (.int .i64 t) ∧ w'.cell? ⟨w.heap.size, 2, none⟩ = some (.int .i64 v) ∧ Below w.heap.size w w'
theorem tagsOf_boxed (key a t v : Int) (w : World) (ha : I64 a) (ht : I64 t) (hv : I64 v) :
    Calls Tryz.prog 235 (pA key (some ⟨w.heap.size + 1, 0, none⟩) 1 1)
      ((w.alloc (.cells #[.int .i64 a, .int .i64 t, .int .i64 v] 137)).alloc (.cells #[.int .i64 a, .int .i64 t, .int .i64 v] 137)).drew (OneTagB key a t v w) := by
  have h0 := CellsAt.new w 137 #[.int .i64 a, .int .i64 t, .int .i64 v]
  have h1 := CellsAt.new (w.alloc (.cells #[.int .i64 a, .int .i64 t, .int .i64 v] 137)) 137 #[.int .i64 a, .int .i64 t, .int .i64 v]
  rw [show (w.alloc (.cells #[.int .i64 a, .int .i64 t, .int .i64 v] 137)).heap.size = w.heap.size + 1 by simp] at h1
  refine (tagsOf_one key a t v _ _ h1.drew ha ht hv).mono ?_
  rintro e w' ⟨m, rfl, hm, hb⟩
  have hr := hm.look ha ht hv
  rw [show (tagsHeld key [(a, t, v)] a t v).getD 0 = tagOf key a t v by simp [tagsHeld]] at hr
  have h2 := (h0.below ((Below.refl (w.heap.size + 1) _).alloc (by simp) _) (by omega)).drew.below hb (by simp [World.drew]; omega)
  exact ⟨m, rfl, hr, h2.cell 0, h2.cell 1, h2.cell 2, ((((Below.refl w.heap.size w).alloc (Nat.le_refl _) _).alloc (by simp) _).drew).trans (hb.mono (by simp [World.drew]; omega))⟩
set_option maxHeartbeats 1000000 in
theorem tag_calls (key a t v : Int) (w : World) (ha : I64 a) (ht : I64 t) (hv : I64 v) :
    Calls Tryz.prog 225 #[.int .i64 key, .agg #[.int .i64 a, .int .i64 t, .int .i64 v]] w fun e w' => e = .returned (.int .i64 (tagOf key a t v)) ∧ Below w.heap.size w w' := by
  have HC := Lib.hid (tagsOf_boxed key a t v w ha ht hv)
  unfold OneTagB at HC
  generalize tagOf key a t v = d at HC
  clear ha ht hv
  go_enter Tryz.func225, Tryz.ntmps225
  go_wp2_with fail
  go_region_with (go_at_call 235; refine HC.out.mono ?_; rintro e wx ⟨m, rfl, hrun, d0, d1, d2, bx⟩; have BX := Lib.hid bx; clear bx)
  all_goals
    go_wp2_with fail
    go_ret
    exact ⟨rfl, BX.out⟩
abbrev Ce := Int × Int
open Go.RowKit
theorem wp_region_class {P : Program} {C : World → Prop} {id : Nat} {Q : Exit → Act → World → Prop} {a : Act} {w : World} {l : List Oper} (hm : P.follows .mixedOrders = true) (hB : Region.lexB .any l.toArray = true) (hC : C w.drew)
    (h : wpQuiet P l.toArray C (fun a' => ∀ w', C w' → Q .normal a' w') l a) : (Code.region id l.toArray true).wp P Q a w :=
  wp_region_quiet (C := C) hm hB hC (by simpa using h)
theorem class_same {P : Program} {C : World → Prop} {f : FuncId} {args : Array Value} {u : World} {v : Value} (hu : C u) (h : Calls P f args u fun e w' => e = .returned v ∧ u = w') : Calls P f args u fun e w' => e = .returned v ∧ C w' :=
  h.mono fun e w' ⟨he, hw⟩ => ⟨he, hw ▸ hu⟩
section
variable {P : Program} {C : (Nat → Bool) → World → Prop} {l : List Oper} {A : Act}
theorem wpAnyQ_end {C' : World → Prop} {ops : Array Oper} {md : Region.Mode} (x : Operand) (fuel : Nat) : ∀ (up : Array Bool) (a : Act),
    (∀ j oj, ops[j]? = some oj → up.getD j true = false → ∀ d, oj.dst = some d → x ≠ .tmp d) → wpAnyQ P md ops C' (fun a' => a' = A) fuel up a → a.eval x = A.eval x := by
  induction fuel with
  | zero => intro up a _ h; rw [h.2]
  | succ f ih =>
    intro up a hx h
    by_cases h0 : Region.ready md ops up = []
    · rw [h.1 h0]
    · obtain ⟨i, hi⟩ := List.exists_mem_of_ne_nil _ h0
      have hq := h.2 i hi
      obtain ⟨hun, oi, hoi, _⟩ := mem_ready.1 hi
      have hx' : ∀ j oj, ops[j]? = some oj → (up.setIfInBounds i true).getD j true = false → ∀ d, oj.dst = some d → x ≠ .tmp d := by
        intro j oj hj hu
        refine hx j oj hj ?_
        by_cases hij : i = j
        · subst hij; exact hun
        · rwa [getD_set_ne true hij] at hu
      obtain ⟨v, _, hk⟩ := yieldsIn_of_qOp hoi hq
      rw [← ih _ _ hx' hk]
      exact (Act.eval_put fun d hd => hx i oi hoi hun d hd).symm
theorem getD_same {up : Array Bool} {i : Nat} (h : i < up.size) (b c : Bool) : up.getD i b = up.getD i c := by simp [h]
theorem eval_put_self (a : Act) (d : Nat) (u v : Value) (h : (a.put (some d) u).eval (.tmp d) = (a.put (some d) v).eval (.tmp d)) : a.put (some d) u = a.put (some d) v := by
  unfold Act.put Act.eval at *
  simp only [Array.getD_eq_getD_getElem?] at h
  by_cases hd : d < a.tmps.size
  · simp [hd] at h; rw [h]
  · simp only [Act.mk.injEq, and_true]
    rw [Array.setIfInBounds_eq_of_size_le (by omega), Array.setIfInBounds_eq_of_size_le (by omega)]
end
end Go.Proofs.YtgaecedhkbneaaaGreatDoor.Mx

import Derived.Test.YteoijmejhdocdaaGreatDoorG11
import Derived.Test.YteoijmejhdocdaaGreatDoorG03
import Derived.Test.YteoijmejhdocdaaGreatDoorG01
import Derived.Test.YteoijmejhdocdaaGreatDoorG07
import Derived.Test.YteoijmejhdocdaaGreatDoorG04
import Derived.Test.YteoijmejhdocdaaGreatDoorG02
import Derived.Test.YteoijmejhdocdaaGreatDoorG17
import Derived.Test.YteoijmejhdocdaaGreatDoorG13
import Derived.Test.YteoijmejhdocdaaGreatDoorG09
import Derived.Test.YteoijmejhdocdaaGreatDoorG06
import Derived.Deep.RegionHeld3
import Derived.Deep.CutRange
namespace Go.Proofs.YteoijmejhdocdaaGreatDoor.Mx
open Go.ChangeShapes Go.WideShapes Go.ChangeAt Go.RowKit
set_option linter.unusedVariables false
theorem number_calls (m : Int) (w : World) : Calls Tryz.prog 268 #[.int .i64 m] w fun e w' => e = .returned (.int .i64 m) ∧ w = w' := by
  go_enter Tryz.func268, Tryz.ntmps268
  go_wp2_with fail
  go_ret
  exact ⟨rfl, rfl⟩
theorem inTime_yes (m : Int) (w : World) (h : isTm m) : Calls Tryz.prog 262 #[.int .i64 m] w fun e w' => e = .returned (.bool true) ∧ w = w' := by
  have C := Lib.hid (fun w => number_calls m w)
  have D := Lib.hid (fun w => isTime_yes m w h)
  clear h
  go_enter Tryz.func262, Tryz.ntmps262
  go_wp2_with fail
  refine (C.out _).mono ?_; rintro e w' ⟨rfl, rfl⟩
  go_wp2_with fail
  refine (D.out _).mono ?_; rintro e w' ⟨rfl, rfl⟩
  go_wp2_with fail
  go_ret
  exact ⟨rfl, rfl⟩
theorem inTime_no (m : Int) (w : World) (h : ¬ isTm m) : Calls Tryz.prog 262 #[.int .i64 m] w fun e w' => e = .returned (.bool false) ∧ w = w' := by
  have C := Lib.hid (fun w => number_calls m w)
  have D := Lib.hid (fun w => isTime_no m w h)
  clear h
  go_enter Tryz.func262, Tryz.ntmps262
  go_wp2_with fail
  refine (C.out _).mono ?_; rintro e w' ⟨rfl, rfl⟩
  go_wp2_with fail
  refine (D.out _).mono ?_; rintro e w' ⟨rfl, rfl⟩
  go_wp2_with fail
  go_ret
  exact ⟨rfl, rfl⟩
theorem isRight_calls (t v : Int) (w : World) :
    Calls Tryz.prog 247 #[.agg (cA t v)] w fun e w' => e = .returned (.bool (decide (isCell t v))) ∧ Below w.heap.size w w' := by
  by_cases ht : isTm t
  · have D := Lib.hid (fun w => inTime_yes t w ht)
    by_cases hv : isVal v
    · have E := Lib.hid (fun w => isValue_yes v w hv)
      rw [decide_eq_true (show isCell t v from ⟨ht, hv⟩)]
      clear ht hv
      go_enter Tryz.func247, Tryz.ntmps247
      go_wp2_with fail
      refine (D.out _).mono ?_; rintro e w' ⟨rfl, rfl⟩
      go_wp2_with fail
      refine (E.out _).mono ?_; rintro e w' ⟨rfl, rfl⟩
      go_wp2_with fail
      go_ret
      exact ⟨rfl, (Below.refl _ _).alloc (Nat.le_refl _) _⟩
    · have E := Lib.hid (fun w => isValue_no v w hv)
      rw [decide_eq_false (show ¬ isCell t v from fun h => hv h.2)]
      clear ht hv
      go_enter Tryz.func247, Tryz.ntmps247
      go_wp2_with fail
      refine (D.out _).mono ?_; rintro e w' ⟨rfl, rfl⟩
      go_wp2_with fail
      refine (E.out _).mono ?_; rintro e w' ⟨rfl, rfl⟩
      go_wp2_with fail
      go_ret
      exact ⟨rfl, (Below.refl _ _).alloc (Nat.le_refl _) _⟩
  · have D := Lib.hid (fun w => inTime_no t w ht)
    rw [decide_eq_false (show ¬ isCell t v from fun h => ht h.1)]
    clear ht
    go_enter Tryz.func247, Tryz.ntmps247
    go_wp2_with fail
    refine (D.out _).mono ?_; rintro e w' ⟨rfl, rfl⟩
    go_wp2_with fail
    go_ret
    exact ⟨rfl, (Below.refl _ _).alloc (Nat.le_refl _) _⟩
theorem timedOf_calls (t v : Int) (w : World) :
    Calls Tryz.prog 246 #[.agg (cA t v)] w fun e w' => e = .returned (.agg (cA t v)) ∧ Below w.heap.size w w' := by
  go_enter Tryz.func246, Tryz.ntmps246
  go_wp2_with fail
  exact bodyPost_ret (v := .agg (cA t v)) (by simp [results, Tryz.results246, go_sem]) rfl ⟨rfl, ((Below.refl _ _).alloc (Nat.le_refl _) _).alloc (by simp) _⟩
theorem implCellOk_calls (t v : Int) (w : World) :
    Calls Tryz.prog 219 #[.agg #[.int .i64 t, .int .i64 v]] w fun e w' => e = .returned (.bool (decide (isCell t v))) ∧ Below w.heap.size w w' := by
  have C := Lib.hid (fun w => timedOf_calls t v w)
  have D := Lib.hid (fun w => isRight_calls t v w)
  generalize decide (isCell t v) = b at D
  go_enter Tryz.func219, Tryz.ntmps219
  go_wp2_with fail
  refine (C.out _).mono ?_; rintro e w1 ⟨rfl, b1⟩
  have B1 := Lib.hid (((Below.refl w.heap.size w).alloc (Nat.le_refl _) _).trans (b1.mono (by simp)))
  clear b1
  go_wp2_with fail
  refine (D.out _).mono ?_; rintro e w2 ⟨rfl, b2⟩
  have B2 := Lib.hid (B1.out.trans (b2.mono B1.out.size))
  clear b2
  go_wp2_with fail
  go_ret
  exact ⟨rfl, B2.out⟩
theorem isNoCell_calls (t v : Int) (w : World) :
    Calls Tryz.prog 156 #[.agg #[.int .i64 t, .int .i64 v]] w fun e w' => e = .returned (.bool (!decide (isCell t v))) ∧ Below w.heap.size w w' := by
  have K0 := Lib.hid (show Kept w [(w.heap.size, 118, #[.int .i64 t, .int .i64 v])] _ from (Kept.refl w).put1 _ _ #[.int .i64 t, .int .i64 v] rfl)
  have D := Lib.hid (fun w => implCellOk_calls t v w)
  generalize decide (isCell t v) = b at D
  go_enter Tryz.func156, Tryz.ntmps156
  have k0 := K0.out
  clear K0
  obtain ⟨kc0, kf0, -⟩ := k0.rd
  have K0 := Lib.hid k0
  clear k0
  go_wp2_with fail
  refine (D.out _).mono ?_; rintro e w1 ⟨rfl, b1⟩
  have K1 := Lib.hid (K0.out.below b1)
  clear b1
  go_wp2_with fail
  go_ret
  exact ⟨rfl, K1.out.1⟩
open Classical in
noncomputable def upB (L : List Ce) : Bool := decide (UpToCell L L.length)
open Classical in
theorem upB_yes {L : List Ce} (h : UpToCell L L.length) : upB L = true := by unfold upB; exact decide_eq_true h
open Classical in
theorem upB_no {L : List Ce} (h : ¬ UpToCell L L.length) : upB L = false := by unfold upB; exact decide_eq_false h
theorem cells_index (A : Option Addr) (L : List Ce) (cap : Nat) (w : World) (hn : L.length ≤ maxLen) (hA : Cls w w.heap.size A L) :
    Calls Tryz.prog 218 #[.slice A L.length cap, .func (.func 156) #[] #[]] w fun e w' => (∃ i : Int, e = .returned (.int .i64 i) ∧ decide (0 ≤ i) = !upB L) ∧ Below w.heap.size w w' := by
  unfold maxLen at hn
  have C := Lib.hid isNoCell_calls
  have HA := Lib.hid hA
  clear hA
  go_enter Tryz.func218, Tryz.ntmps218
  go_wp2_with fail
  go_loopw [8] (fun i wr => ∃ k : Nat, k ≤ L.length ∧ i = .int .i64 k ∧ UpToCell L k ∧ Below w.heap.size w wr) (fun i _ => L.length - (intOf i).toNat)
  case atStart => exact ⟨0, Nat.zero_le _, rfl, fun i hi => absurd hi (by omega), Below.refl _ _⟩
  case round =>
    obtain ⟨k, hk, rfl, hup, hz⟩ := hrel
    have HU := Lib.hid hup
    have HZ := Lib.hid hz
    clear hup
    by_cases hlt : k < L.length
    · obtain ⟨b, off, rfl, hb, hc⟩ := HA.out.at_ hlt
      have hlt' : (k : Int) < L.length := by omega
      have hk0 : (0 : Int) ≤ k := by omega
      obtain ⟨c0, c1⟩ := hc.below hz hb
      clear hz hc
      by_cases hok : isCell (L.getD k default).1 (L.getD k default).2
      · have NX := Lib.hid (show UpToCell L (k + 1) from fun i hi => by
          rcases Nat.lt_or_ge i k with h | h
          · exact HU.out i h
          · obtain rfl : i = k := by omega
            exact hok)
        have TB := Lib.hid (C.out (L.getD k default).1 (L.getD k default).2)
        rw [decide_eq_true hok] at TB
        clear hok HU
        generalize L.getD k default = t at TB c0 c1
        go_wp2_with fail
        refine (TB.out _).mono ?_; rintro e w1 ⟨rfl, b1⟩
        have H1 := Lib.hid (HZ.out.trans (b1.mono HZ.out.size))
        clear b1 c0 c1
        go_wp2_with fail
        go_roundw
        case rel => exact ⟨k + 1, by omega, by go_num, NX.out, H1.out⟩
        case measure => simp [intOf]; omega
      · have HX := Lib.hid (show decide ((0 : Int) ≤ k) = !upB L by rw [decide_eq_true hk0, upB_no (fun h => hok (h k hlt))]; rfl)
        have TB := Lib.hid (C.out (L.getD k default).1 (L.getD k default).2)
        rw [decide_eq_false hok] at TB
        clear hok HU
        generalize L.getD k default = t at TB c0 c1
        go_wp2_with fail
        refine (TB.out _).mono ?_; rintro e w1 ⟨rfl, b1⟩
        have H1 := Lib.hid (HZ.out.trans (b1.mono HZ.out.size))
        clear b1 c0 c1
        go_wp2_with fail
        go_ret
        exact ⟨⟨_, rfl, HX.out⟩, H1.out⟩
    · have hk' : k = L.length := by omega
      subst hk'
      have HX := Lib.hid (show decide ((0 : Int) ≤ -1) = !upB L by rw [upB_yes HU.out]; rfl)
      clear HU hz
      go_wp2_with fail
      go_ret
      exact ⟨⟨_, rfl, HX.out⟩, HZ.out⟩
theorem cells_contains (A : Option Addr) (L : List Ce) (cap : Nat) (w : World) (hn : L.length ≤ maxLen) (hA : Cls w w.heap.size A L) :
    Calls Tryz.prog 155 #[.slice A L.length cap, .func (.func 156) #[] #[]] w fun e w' => e = .returned (.bool (!upB L)) ∧ Below w.heap.size w w' := by
  have C := Lib.hid (cells_index A L cap w hn hA)
  generalize (!upB L) = b at C
  clear hA
  unfold maxLen at hn
  go_enter Tryz.func155, Tryz.ntmps155
  go_wp2_with fail
  refine C.out.mono ?_; rintro e w1 ⟨⟨i, rfl, hi⟩, b1⟩
  have B1 := Lib.hid b1
  clear b1 C
  by_cases h0 : 0 ≤ i
  · rw [decide_eq_true h0] at hi
    subst hi
    go_wp2_with fail
    go_ret
    exact ⟨rfl, B1.out⟩
  · rw [decide_eq_false h0] at hi
    subst hi
    have hneg : decide (0 ≤ i) = false := decide_eq_false h0
    clear h0
    go_wp2_with fail
    go_ret
    exact ⟨by rw [← hneg]; rfl, B1.out⟩
set_option maxRecDepth 20000 in
theorem implCells_calls (key : Int) (A C : Option Addr) (l : List Int) (cap : Nat) (hcap : l.length ≤ cap) (L : List Ce) (cap2 : Nat) (w : World) (hn : l.length ≤ maxLen) (hA : Ints w .i64 w.heap.size A l) (hN : L.length ≤ maxLen) (hC : Cls w w.heap.size C L) :
    Calls Tryz.prog 76 #[.agg #[.int .i64 key, .slice A l.length cap], .slice C L.length cap2] w fun e w' => e = .returned (.bool (cellsB key l L)) ∧ Below w.heap.size w w' := by
  have K0 := Lib.hid (show Kept w [(w.heap.size, 26, #[.int .i64 key, .slice A l.length cap])] _ from (Kept.refl w).put1 _ _ #[.int .i64 key, .slice A l.length cap] rfl)
  have PO := Lib.hid (fun (u : World) (hb : Below w.heap.size w u) => sectorsOf_calls key A l cap u hn hcap ((hA.below hb (Nat.le_refl _)).more hb.size))
  have CO := Lib.hid (fun (u : World) (hb : Below w.heap.size w u) => cells_contains C L cap2 u hN ((hC.below hb (Nat.le_refl _)).more hb.size))
  clear hA hC hn hcap
  unfold maxLen at hN
  by_cases hs : (L.length : Int) = sectorsOf key l
  · have hbl : ((L.length : Int) == sectorsOf key l) = true := beq_iff_eq.2 hs
    have HX := Lib.hid (show upB L = cellsB key l L from by
      by_cases h : UpToCell L L.length
      · rw [upB_yes h, cellsB_yes (show cellsOk key l L from ⟨h, hs⟩)]
      · rw [upB_no h, cellsB_no (show ¬ cellsOk key l L from fun e => h e.1)])
    generalize upB L = b at CO HX
    generalize cellsB key l L = z at HX ⊢
    obtain rfl := HX.out
    generalize sectorsOf key l = ss at PO hbl
    clear hs HX
    go_enter Tryz.func76, Tryz.ntmps76
    go_wp2_with fail
    refine (PO.out _ K0.out.1).mono ?_; rintro e uz1 ⟨rfl, bz2⟩
    have hz3 := K0.out.below bz2
    clear bz2
    obtain ⟨kc0, kf0, -⟩ := hz3.rd
    go_wp2_with fail
    refine (CO.out _ hz3.1).mono ?_; rintro e uz4 ⟨rfl, bz5⟩
    have hz6 := hz3.below bz5
    clear bz5 hz3 kc0 kf0
    obtain ⟨kc0, kf0, -⟩ := hz6.rd
    go_wp2_with fail
    go_ret
    exact ⟨by simp, hz6.1⟩
  · have hbl : ((L.length : Int) == sectorsOf key l) = false := beq_false_of_ne hs
    have HX := Lib.hid (cellsB_no (show ¬ cellsOk key l L from fun h => hs h.2))
    generalize sectorsOf key l = ss at PO hbl
    clear hs CO
    go_enter Tryz.func76, Tryz.ntmps76
    go_wp2_with fail
    refine (PO.out _ K0.out.1).mono ?_; rintro e uz1 ⟨rfl, bz2⟩
    have hz3 := K0.out.below bz2
    clear bz2
    obtain ⟨kc0, kf0, -⟩ := hz3.rd
    go_wp2_with fail
    go_ret
    exact ⟨by rw [HX.out]; rfl, hz3.1⟩
set_option maxRecDepth 20000 in
set_option maxHeartbeats 2000000 in
theorem implSlotOk_calls (key : Int) (A : Option Addr) (l : List Int) (cap : Nat) (hcap : l.length ≤ cap) (cnt : Int) (B : Option Addr) (L : List Tru) (tc : Nat) (mac : Int) (C : Option Addr) (M : List Ce) (cc : Nat) (w : World) (hn : l.length ≤ 1048576) (hA : Ints w .i64 w.heap.size A l) (hN : L.length ≤ 1048576) (hB : Trs w w.heap.size B L) (hI : TrusI L) (hc0 : I64 cnt) (hM : M.length ≤ 1048576) (hC : Cls w w.heap.size C M) :
    Calls Tryz.prog 165 #[.agg #[.int .i64 key, .slice A l.length cap], .agg #[.int .i64 cnt, .slice B L.length tc, .int .i64 mac, .slice C M.length cc]] w fun e w' => e = .returned (.bool (slotB key l cnt L mac M)) ∧ Below w.heap.size w w' := by
  have K0 := Lib.hid (show Kept w [(w.heap.size + 1, 91, #[.int .i64 cnt, .slice B L.length tc, .int .i64 mac, .slice C M.length cc]), (w.heap.size, 26, #[.int .i64 key, .slice A l.length cap])] _ from (((Kept.refl w).put1 _ _ #[.int .i64 key, .slice A l.length cap] rfl).put1 _ _ #[.int .i64 cnt, .slice B L.length tc, .int .i64 mac, .slice C M.length cc] (by simp)))
  have SO := Lib.hid (fun (u : World) (hb : Below w.heap.size w u) => implSealOk_calls key A l cap hcap cnt B L tc mac u hn ((hA.below hb (Nat.le_refl _)).more hb.size) hN ((hB.below hb (Nat.le_refl _)).more hb.size) hI hc0)
  have CL := Lib.hid (fun (u : World) (hb : Below w.heap.size w u) => implCells_calls key A C l cap hcap M cc u (by unfold maxLen; omega) ((hA.below hb (Nat.le_refl _)).more hb.size) (by unfold maxLen; omega) ((hC.below hb (Nat.le_refl _)).more hb.size))
  clear hA hB hN hI hc0 hn hC hM hcap
  unfold slotB
  generalize sealB key l cnt L mac = so at SO ⊢
  generalize cellsB key l M = co at CL ⊢
  cases so with
  | false =>
    rw [Bool.false_and]
    clear CL
    go_enter Tryz.func165, Tryz.ntmps165
    go_wp2_with fail
    refine (SO.out _ K0.out.1).mono ?_; rintro e uz1 ⟨rfl, bz2⟩
    have hz3 := K0.out.below bz2
    clear bz2
    obtain ⟨kc0, kf0, kc1, kf1, -⟩ := hz3.rd
    go_wp2_with fail
    go_ret
    exact ⟨rfl, hz3.1⟩
  | true =>
    rw [Bool.true_and]
    go_enter Tryz.func165, Tryz.ntmps165
    go_wp2_with fail
    refine (SO.out _ K0.out.1).mono ?_; rintro e uz1 ⟨rfl, bz2⟩
    have hz3 := K0.out.below bz2
    clear bz2
    obtain ⟨kc0, kf0, kc1, kf1, -⟩ := hz3.rd
    go_wp2_with fail
    refine (CL.out _ hz3.1).mono ?_; rintro e uz4 ⟨rfl, bz5⟩
    have hz6 := hz3.below bz5
    clear bz5 hz3 kc0 kf0 kc1 kf1
    obtain ⟨kc0, kf0, kc1, kf1, -⟩ := hz6.rd
    go_wp2_with fail
    go_ret
    exact ⟨rfl, hz6.1⟩
theorem eight_end {w w1 : World} {r : Nat} {t : TypeId} {x0 x1 x2 x3 x4 x5 x6 x7 z0 z1 z2 z3 z4 z5 z6 z7 : Value} (hk : CellsAt w1 r t #[z0, z1, z2, z3, z4, z5, z6, z7]) (hb : Below w.heap.size w w1) (hr : w.heap.size ≤ r) :
    ∃ w9, ((((((((w1.setCell ⟨r, 0, none⟩ x0).setCell ⟨r, 1, none⟩ x1).setCell ⟨r, 2, none⟩ x2).setCell ⟨r, 3, none⟩ x3).setCell ⟨r, 4, none⟩ x4).setCell ⟨r, 5, none⟩ x5).setCell ⟨r, 6, none⟩ x6).setCell ⟨r, 7, none⟩ x7) = w9 ∧ (w9.cell? ⟨r, 0, none⟩ = some x0 ∧ w9.cell? ⟨r, 1, none⟩ = some x1 ∧ w9.cell? ⟨r, 2, none⟩ = some x2 ∧ w9.cell? ⟨r, 3, none⟩ = some x3 ∧ w9.cell? ⟨r, 4, none⟩ = some x4 ∧ w9.cell? ⟨r, 5, none⟩ = some x5 ∧ w9.cell? ⟨r, 6, none⟩ = some x6 ∧ w9.cell? ⟨r, 7, none⟩ = some x7) ∧ Below w.heap.size w w9 := by
  have h0 : CellsAt _ r t #[x0, z1, z2, z3, z4, z5, z6, z7] := hk.set_ 0 x0
  have h1 : CellsAt _ r t #[x0, x1, z2, z3, z4, z5, z6, z7] := h0.set_ 1 x1
  have h2 : CellsAt _ r t #[x0, x1, x2, z3, z4, z5, z6, z7] := h1.set_ 2 x2
  have h3 : CellsAt _ r t #[x0, x1, x2, x3, z4, z5, z6, z7] := h2.set_ 3 x3
  have h4 : CellsAt _ r t #[x0, x1, x2, x3, x4, z5, z6, z7] := h3.set_ 4 x4
  have h5 : CellsAt _ r t #[x0, x1, x2, x3, x4, x5, z6, z7] := h4.set_ 5 x5
  have h6 : CellsAt _ r t #[x0, x1, x2, x3, x4, x5, x6, z7] := h5.set_ 6 x6
  have h : CellsAt _ r t #[x0, x1, x2, x3, x4, x5, x6, x7] := h6.set_ 7 x7
  exact ⟨_, rfl, ⟨h.cell 0, h.cell 1, h.cell 2, h.cell 3, h.cell 4, h.cell 5, h.cell 6, h.cell 7⟩, (((((((hb.setCell (p := ⟨r, 0, none⟩) hr x0).setCell (p := ⟨r, 1, none⟩) hr x1).setCell (p := ⟨r, 2, none⟩) hr x2).setCell (p := ⟨r, 3, none⟩) hr x3).setCell (p := ⟨r, 4, none⟩) hr x4).setCell (p := ⟨r, 5, none⟩) hr x5).setCell (p := ⟨r, 6, none⟩) hr x6).setCell (p := ⟨r, 7, none⟩) hr x7⟩
set_option maxRecDepth 20000 in
set_option maxHeartbeats 4000000 in
theorem twoOf_two (b off n cap : Nat) (a : Int) (E : Option Addr) (na ca : Nat) (m : Int) (G : Option Addr) (nc cc : Nat) (a2 : Int) (E2 : Option Addr) (na2 ca2 : Nat) (m2 : Int) (G2 : Option Addr) (nc2 cc2 : Nat) (w : World) (hb : b < w.heap.size) (hn : 2 ≤ n) (h0 : w.cell? ⟨b, off, none⟩ = some (.int .i64 a)) (h1 : w.cell? ⟨b, off + 1, none⟩ = some (.slice E na ca)) (h2 : w.cell? ⟨b, off + 2, none⟩ = some (.int .i64 m)) (h3 : w.cell? ⟨b, off + 3, none⟩ = some (.slice G nc cc)) (h4 : w.cell? ⟨b, off + 4, none⟩ = some (.int .i64 a2)) (h5 : w.cell? ⟨b, off + 5, none⟩ = some (.slice E2 na2 ca2)) (h6 : w.cell? ⟨b, off + 6, none⟩ = some (.int .i64 m2)) (h7 : w.cell? ⟨b, off + 7, none⟩ = some (.slice G2 nc2 cc2)) :
    Calls Tryz.prog 164 #[.slice (some ⟨b, off, none⟩) n cap] w fun e w' => e = .returned (.agg #[.int .i64 a, .slice E na ca, .int .i64 m, .slice G nc cc, .int .i64 a2, .slice E2 na2 ca2, .int .i64 m2, .slice G2 nc2 cc2]) ∧ Below w.heap.size w w' := by
  have K0 := Lib.hid (show Kept w [(w.heap.size + 1, 98, #[.int .i64 0, .slice none 0 0, .int .i64 0, .slice none 0 0, .int .i64 0, .slice none 0 0, .int .i64 0, .slice none 0 0]), (w.heap.size, 98, #[.int .i64 0, .slice none 0 0, .int .i64 0, .slice none 0 0, .int .i64 0, .slice none 0 0, .int .i64 0, .slice none 0 0])] _ from (((Kept.refl w).put1 _ _ #[.int .i64 0, .slice none 0 0, .int .i64 0, .slice none 0 0, .int .i64 0, .slice none 0 0, .int .i64 0, .slice none 0 0] rfl).put1 _ _ #[.int .i64 0, .slice none 0 0, .int .i64 0, .slice none 0 0, .int .i64 0, .slice none 0 0, .int .i64 0, .slice none 0 0] (by simp)))
  have hsrc : ∀ j v, ([.int .i64 a, .slice E na ca, .int .i64 m, .slice G nc cc, .int .i64 a2, .slice E2 na2 ca2, .int .i64 m2, .slice G2 nc2 cc2] : List Value)[j]? = some v → ((w.alloc (.cells #[.int .i64 0, .slice none 0 0, .int .i64 0, .slice none 0 0, .int .i64 0, .slice none 0 0, .int .i64 0, .slice none 0 0] 98)).alloc (.cells #[.int .i64 0, .slice none 0 0, .int .i64 0, .slice none 0 0, .int .i64 0, .slice none 0 0, .int .i64 0, .slice none 0 0] 98)).cell? (Addr.add ⟨b, off, none⟩ j) = some v := by
    have hbb := K0.out.1
    intro j v hv
    rw [Addr.add_mid, hbb.cell (p := ⟨b, off + j, none⟩) hb]
    have hj : j < 8 := (List.getElem?_eq_some_iff.1 hv).1
    rcases (by omega : j = 0 ∨ j = 1 ∨ j = 2 ∨ j = 3 ∨ j = 4 ∨ j = 5 ∨ j = 6 ∨ j = 7) with rfl | rfl | rfl | rfl | rfl | rfl | rfl | rfl <;> simp only [List.getElem?_cons_zero, List.getElem?_cons_succ, Option.some.injEq] at hv <;> subst hv <;> assumption
  have HS := Lib.hid hsrc
  clear hsrc h0 h1 h2 h3 h4 h5 h6 h7
  go_enter Tryz.func164, Tryz.ntmps164
  go_upto_region 2 with fail
  have k0 := K0.out
  clear K0
  have hg0 : ((w.alloc (.cells #[.int .i64 0, .slice none 0 0, .int .i64 0, .slice none 0 0, .int .i64 0, .slice none 0 0, .int .i64 0, .slice none 0 0] 98)).alloc (.cells #[.int .i64 0, .slice none 0 0, .int .i64 0, .slice none 0 0, .int .i64 0, .slice none 0 0, .int .i64 0, .slice none 0 0] 98)).heap[w.heap.size + 1]? = some (.cells #[.int .i64 0, .slice none 0 0, .int .i64 0, .slice none 0 0, .int .i64 0, .slice none 0 0, .int .i64 0, .slice none 0 0] 98 (0, 0)) := k0.at_ (p := w.heap.size + 1) (t := 98) (cs := #[.int .i64 0, .slice none 0 0, .int .i64 0, .slice none 0 0, .int .i64 0, .slice none 0 0, .int .i64 0, .slice none 0 0]) (by simp)
  have hs0 := HS.out
  generalize World.alloc (World.alloc _ _) _ = w1 at k0 hg0 hs0 ⊢
  have hrun := run_copy_rowS (P := Tryz.prog) w1 29 29 3 91 (w.heap.size + 1) 0 2 2 ⟨b, off, none⟩ n cap #[.int .i64 0, .slice none 0 0, .int .i64 0, .slice none 0 0, .int .i64 0, .slice none 0 0, .int .i64 0, .slice none 0 0] 98 ([.int .i64 a, .slice E na ca, .int .i64 m, .slice G nc cc, .int .i64 a2, .slice E2 na2 ca2, .int .i64 m2, .slice G2 nc2 cc2] : List Value) 4 Tryz.underlying29 (by kernel_rfl) hg0 (by rw [show Nat.min n 2 = 2 from Nat.min_eq_right hn]; rfl) hs0 (by simp) (by simp [Value.oneCell'])
  rw [show Nat.min n 2 = 2 from Nat.min_eq_right hn] at hrun
  have hg2 : CellsAt (w1.setRow (w.heap.size + 1) ((#[.int .i64 0, .slice none 0 0, .int .i64 0, .slice none 0 0, .int .i64 0, .slice none 0 0, .int .i64 0, .slice none 0 0] : Array Value).toList.take 0 ++ ([.int .i64 a, .slice E na ca, .int .i64 m, .slice G nc cc, .int .i64 a2, .slice E2 na2 ca2, .int .i64 m2, .slice G2 nc2 cc2] : List Value) ++ (#[.int .i64 0, .slice none 0 0, .int .i64 0, .slice none 0 0, .int .i64 0, .slice none 0 0, .int .i64 0, .slice none 0 0] : Array Value).toList.drop (0 + ([.int .i64 a, .slice E na ca, .int .i64 m, .slice G nc cc, .int .i64 a2, .slice E2 na2 ca2, .int .i64 m2, .slice G2 nc2 cc2] : List Value).length)).toArray) (w.heap.size + 1) 98 #[.int .i64 a, .slice E na ca, .int .i64 m, .slice G nc cc, .int .i64 a2, .slice E2 na2 ca2, .int .i64 m2, .slice G2 nc2 cc2] := setRow_heap w1 (w.heap.size + 1) #[.int .i64 0, .slice none 0 0, .int .i64 0, .slice none 0 0, .int .i64 0, .slice none 0 0, .int .i64 0, .slice none 0 0] ((#[.int .i64 0, .slice none 0 0, .int .i64 0, .slice none 0 0, .int .i64 0, .slice none 0 0, .int .i64 0, .slice none 0 0] : Array Value).toList.take 0 ++ ([.int .i64 a, .slice E na ca, .int .i64 m, .slice G nc cc, .int .i64 a2, .slice E2 na2 ca2, .int .i64 m2, .slice G2 nc2 cc2] : List Value) ++ (#[.int .i64 0, .slice none 0 0, .int .i64 0, .slice none 0 0, .int .i64 0, .slice none 0 0, .int .i64 0, .slice none 0 0] : Array Value).toList.drop (0 + ([.int .i64 a, .slice E na ca, .int .i64 m, .slice G nc cc, .int .i64 a2, .slice E2 na2 ca2, .int .i64 m2, .slice G2 nc2 cc2] : List Value).length)).toArray 98 _ hg0
  have hgb2 : (w1.grownBy (w1.setRow (w.heap.size + 1) ((#[.int .i64 0, .slice none 0 0, .int .i64 0, .slice none 0 0, .int .i64 0, .slice none 0 0, .int .i64 0, .slice none 0 0] : Array Value).toList.take 0 ++ ([.int .i64 a, .slice E na ca, .int .i64 m, .slice G nc cc, .int .i64 a2, .slice E2 na2 ca2, .int .i64 m2, .slice G2 nc2 cc2] : List Value) ++ (#[.int .i64 0, .slice none 0 0, .int .i64 0, .slice none 0 0, .int .i64 0, .slice none 0 0, .int .i64 0, .slice none 0 0] : Array Value).toList.drop (0 + ([.int .i64 a, .slice E na ca, .int .i64 m, .slice G nc cc, .int .i64 a2, .slice E2 na2 ca2, .int .i64 m2, .slice G2 nc2 cc2] : List Value).length)).toArray) (some (w.heap.size + 1))) := ⟨rfl, rfl, rfl, by simp [World.setRow], fun k _ hk => setRow_other w1 (w.heap.size + 1) k _ (by intro e; exact hk (by rw [e]))⟩
  generalize World.setRow w1 _ _ = w2 at hrun hg2 hgb2
  have k2 : Kept w [(w.heap.size + 1, 98, #[.int .i64 a, .slice E na ca, .int .i64 m, .slice G nc cc, .int .i64 a2, .slice E2 na2 ca2, .int .i64 m2, .slice G2 nc2 cc2]), (w.heap.size, 98, #[.int .i64 0, .slice none 0 0, .int .i64 0, .slice none 0 0, .int .i64 0, .slice none 0 0, .int .i64 0, .slice none 0 0])] w2 := k0.put (k := 0) rfl (by unfold Apart; simp <;> omega) hgb2 hg2
  clear k0 hg0 hs0 hg2 hgb2 HS
  obtain ⟨kc0, kf0, kc1, kf1, -⟩ := k2.rd
  have K2 := Lib.hid k2
  clear k2
  go_wp2_with fail
  obtain ⟨w9, e9, ⟨d0, d1, d2, d3, d4, d5, d6, d7⟩, hb9⟩ := eight_end (w := w) (x0 := .int .i64 a) (x1 := .slice E na ca) (x2 := .int .i64 m) (x3 := .slice G nc cc) (x4 := .int .i64 a2) (x5 := .slice E2 na2 ca2) (x6 := .int .i64 m2) (x7 := .slice G2 nc2 cc2) (K2.out.at_ (p := w.heap.size) (t := 98) (cs := #[.int .i64 0, .slice none 0 0, .int .i64 0, .slice none 0 0, .int .i64 0, .slice none 0 0, .int .i64 0, .slice none 0 0]) (by simp)) K2.out.1 (Nat.le_refl _)
  rw [e9]
  exact bodyPost_ret (v := .agg #[.int .i64 a, .slice E na ca, .int .i64 m, .slice G nc cc, .int .i64 a2, .slice E2 na2 ca2, .int .i64 m2, .slice G2 nc2 cc2]) (by simp [results, Tryz.results164, go_sem, d0, d1, d2, d3, d4, d5, d6, d7]) rfl ⟨rfl, hb9⟩
set_option maxRecDepth 20000 in
set_option maxHeartbeats 4000000 in
theorem twoOf_one (b off n cap : Nat) (a : Int) (E : Option Addr) (na ca : Nat) (m : Int) (G : Option Addr) (nc cc : Nat) (w : World) (hb : b < w.heap.size)  (h0 : w.cell? ⟨b, off, none⟩ = some (.int .i64 a)) (h1 : w.cell? ⟨b, off + 1, none⟩ = some (.slice E na ca)) (h2 : w.cell? ⟨b, off + 2, none⟩ = some (.int .i64 m)) (h3 : w.cell? ⟨b, off + 3, none⟩ = some (.slice G nc cc)) :
    Calls Tryz.prog 164 #[.slice (some ⟨b, off, none⟩) 1 cap] w fun e w' => e = .returned (.agg #[.int .i64 a, .slice E na ca, .int .i64 m, .slice G nc cc, .int .i64 0, .slice none 0 0, .int .i64 0, .slice none 0 0]) ∧ Below w.heap.size w w' := by
  have K0 := Lib.hid (show Kept w [(w.heap.size + 1, 98, #[.int .i64 0, .slice none 0 0, .int .i64 0, .slice none 0 0, .int .i64 0, .slice none 0 0, .int .i64 0, .slice none 0 0]), (w.heap.size, 98, #[.int .i64 0, .slice none 0 0, .int .i64 0, .slice none 0 0, .int .i64 0, .slice none 0 0, .int .i64 0, .slice none 0 0])] _ from (((Kept.refl w).put1 _ _ #[.int .i64 0, .slice none 0 0, .int .i64 0, .slice none 0 0, .int .i64 0, .slice none 0 0, .int .i64 0, .slice none 0 0] rfl).put1 _ _ #[.int .i64 0, .slice none 0 0, .int .i64 0, .slice none 0 0, .int .i64 0, .slice none 0 0, .int .i64 0, .slice none 0 0] (by simp)))
  have hsrc : ∀ j v, ([.int .i64 a, .slice E na ca, .int .i64 m, .slice G nc cc] : List Value)[j]? = some v → ((w.alloc (.cells #[.int .i64 0, .slice none 0 0, .int .i64 0, .slice none 0 0, .int .i64 0, .slice none 0 0, .int .i64 0, .slice none 0 0] 98)).alloc (.cells #[.int .i64 0, .slice none 0 0, .int .i64 0, .slice none 0 0, .int .i64 0, .slice none 0 0, .int .i64 0, .slice none 0 0] 98)).cell? (Addr.add ⟨b, off, none⟩ j) = some v := by
    have hbb := K0.out.1
    intro j v hv
    rw [Addr.add_mid, hbb.cell (p := ⟨b, off + j, none⟩) hb]
    have hj : j < 4 := (List.getElem?_eq_some_iff.1 hv).1
    rcases (by omega : j = 0 ∨ j = 1 ∨ j = 2 ∨ j = 3) with rfl | rfl | rfl | rfl <;> simp only [List.getElem?_cons_zero, List.getElem?_cons_succ, Option.some.injEq] at hv <;> subst hv <;> assumption
  have HS := Lib.hid hsrc
  clear hsrc h0 h1 h2 h3
  go_enter Tryz.func164, Tryz.ntmps164
  go_upto_region 2 with fail
  have k0 := K0.out
  clear K0
  have hg0 : ((w.alloc (.cells #[.int .i64 0, .slice none 0 0, .int .i64 0, .slice none 0 0, .int .i64 0, .slice none 0 0, .int .i64 0, .slice none 0 0] 98)).alloc (.cells #[.int .i64 0, .slice none 0 0, .int .i64 0, .slice none 0 0, .int .i64 0, .slice none 0 0, .int .i64 0, .slice none 0 0] 98)).heap[w.heap.size + 1]? = some (.cells #[.int .i64 0, .slice none 0 0, .int .i64 0, .slice none 0 0, .int .i64 0, .slice none 0 0, .int .i64 0, .slice none 0 0] 98 (0, 0)) := k0.at_ (p := w.heap.size + 1) (t := 98) (cs := #[.int .i64 0, .slice none 0 0, .int .i64 0, .slice none 0 0, .int .i64 0, .slice none 0 0, .int .i64 0, .slice none 0 0]) (by simp)
  have hs0 := HS.out
  generalize World.alloc (World.alloc _ _) _ = w1 at k0 hg0 hs0 ⊢
  have hrun := run_copy_rowS (P := Tryz.prog) w1 29 29 3 91 (w.heap.size + 1) 0 2 2 ⟨b, off, none⟩ 1 cap #[.int .i64 0, .slice none 0 0, .int .i64 0, .slice none 0 0, .int .i64 0, .slice none 0 0, .int .i64 0, .slice none 0 0] 98 ([.int .i64 a, .slice E na ca, .int .i64 m, .slice G nc cc] : List Value) 4 Tryz.underlying29 (by kernel_rfl) hg0 (by rw [show Nat.min 1 2 = 1 from rfl]; rfl) hs0 (by simp) (by simp [Value.oneCell'])
  rw [show Nat.min 1 2 = 1 from rfl] at hrun
  have hg2 : CellsAt (w1.setRow (w.heap.size + 1) ((#[.int .i64 0, .slice none 0 0, .int .i64 0, .slice none 0 0, .int .i64 0, .slice none 0 0, .int .i64 0, .slice none 0 0] : Array Value).toList.take 0 ++ ([.int .i64 a, .slice E na ca, .int .i64 m, .slice G nc cc] : List Value) ++ (#[.int .i64 0, .slice none 0 0, .int .i64 0, .slice none 0 0, .int .i64 0, .slice none 0 0, .int .i64 0, .slice none 0 0] : Array Value).toList.drop (0 + ([.int .i64 a, .slice E na ca, .int .i64 m, .slice G nc cc] : List Value).length)).toArray) (w.heap.size + 1) 98 #[.int .i64 a, .slice E na ca, .int .i64 m, .slice G nc cc, .int .i64 0, .slice none 0 0, .int .i64 0, .slice none 0 0] := setRow_heap w1 (w.heap.size + 1) #[.int .i64 0, .slice none 0 0, .int .i64 0, .slice none 0 0, .int .i64 0, .slice none 0 0, .int .i64 0, .slice none 0 0] ((#[.int .i64 0, .slice none 0 0, .int .i64 0, .slice none 0 0, .int .i64 0, .slice none 0 0, .int .i64 0, .slice none 0 0] : Array Value).toList.take 0 ++ ([.int .i64 a, .slice E na ca, .int .i64 m, .slice G nc cc] : List Value) ++ (#[.int .i64 0, .slice none 0 0, .int .i64 0, .slice none 0 0, .int .i64 0, .slice none 0 0, .int .i64 0, .slice none 0 0] : Array Value).toList.drop (0 + ([.int .i64 a, .slice E na ca, .int .i64 m, .slice G nc cc] : List Value).length)).toArray 98 _ hg0
  have hgb2 : (w1.grownBy (w1.setRow (w.heap.size + 1) ((#[.int .i64 0, .slice none 0 0, .int .i64 0, .slice none 0 0, .int .i64 0, .slice none 0 0, .int .i64 0, .slice none 0 0] : Array Value).toList.take 0 ++ ([.int .i64 a, .slice E na ca, .int .i64 m, .slice G nc cc] : List Value) ++ (#[.int .i64 0, .slice none 0 0, .int .i64 0, .slice none 0 0, .int .i64 0, .slice none 0 0, .int .i64 0, .slice none 0 0] : Array Value).toList.drop (0 + ([.int .i64 a, .slice E na ca, .int .i64 m, .slice G nc cc] : List Value).length)).toArray) (some (w.heap.size + 1))) := ⟨rfl, rfl, rfl, by simp [World.setRow], fun k _ hk => setRow_other w1 (w.heap.size + 1) k _ (by intro e; exact hk (by rw [e]))⟩
  generalize World.setRow w1 _ _ = w2 at hrun hg2 hgb2
  have k2 : Kept w [(w.heap.size + 1, 98, #[.int .i64 a, .slice E na ca, .int .i64 m, .slice G nc cc, .int .i64 0, .slice none 0 0, .int .i64 0, .slice none 0 0]), (w.heap.size, 98, #[.int .i64 0, .slice none 0 0, .int .i64 0, .slice none 0 0, .int .i64 0, .slice none 0 0, .int .i64 0, .slice none 0 0])] w2 := k0.put (k := 0) rfl (by unfold Apart; simp <;> omega) hgb2 hg2
  clear k0 hg0 hs0 hg2 hgb2 HS
  obtain ⟨kc0, kf0, kc1, kf1, -⟩ := k2.rd
  have K2 := Lib.hid k2
  clear k2
  go_wp2_with fail
  obtain ⟨w9, e9, ⟨d0, d1, d2, d3, d4, d5, d6, d7⟩, hb9⟩ := eight_end (w := w) (x0 := .int .i64 a) (x1 := .slice E na ca) (x2 := .int .i64 m) (x3 := .slice G nc cc) (x4 := .int .i64 0) (x5 := .slice none 0 0) (x6 := .int .i64 0) (x7 := .slice none 0 0) (K2.out.at_ (p := w.heap.size) (t := 98) (cs := #[.int .i64 0, .slice none 0 0, .int .i64 0, .slice none 0 0, .int .i64 0, .slice none 0 0, .int .i64 0, .slice none 0 0]) (by simp)) K2.out.1 (Nat.le_refl _)
  rw [e9]
  exact bodyPost_ret (v := .agg #[.int .i64 a, .slice E na ca, .int .i64 m, .slice G nc cc, .int .i64 0, .slice none 0 0, .int .i64 0, .slice none 0 0]) (by simp [results, Tryz.results164, go_sem, d0, d1, d2, d3, d4, d5, d6, d7]) rfl ⟨rfl, hb9⟩
theorem Slots.two {w : World} {D : Option Addr} {S : List SlN} (hD : Slots w w.heap.size D S) (j : Nat) (hj : j < S.length) :
    ∃ b off, D = some ⟨b, off, none⟩ ∧ ∃ B0 t0 C0 c0 B1 t1 C1 c1, SlR w w.heap.size B0 t0 C0 c0 (S.getD j default) ∧ SlR w w.heap.size B1 t1 C1 c1 (S.getD (j + 1) default) ∧ ∀ cap, Calls Tryz.prog 164 #[.slice (some ⟨b, off + j * 4, none⟩) (S.length - j) cap] w fun e w' => e = .returned (.agg #[.int .i64 (S.getD j default).count, .slice B0 (S.getD j default).trusts.length t0, .int .i64 (S.getD j default).mac, .slice C0 (S.getD j default).cells.length c0, .int .i64 (S.getD (j + 1) default).count, .slice B1 (S.getD (j + 1) default).trusts.length t1, .int .i64 (S.getD (j + 1) default).mac, .slice C1 (S.getD (j + 1) default).cells.length c1]) ∧ Below w.heap.size w w' := by
  obtain ⟨b, off, rfl, hb, B0, t0, C0, c0, h0, h1, h2, h3, hr0⟩ := hD j hj
  refine ⟨b, off, rfl, B0, t0, C0, c0, ?_⟩
  by_cases h : j + 1 < S.length
  · obtain ⟨b', off', e, _, B1, t1, C1, c1, g0, g1, g2, g3, hr1⟩ := hD (j + 1) h
    simp only [Option.some.injEq, Addr.mk.injEq] at e
    obtain ⟨rfl, rfl, _⟩ := e
    refine ⟨B1, t1, C1, c1, hr0, hr1, fun cap => ?_⟩
    rw [show off + (j + 1) * 4 = off + j * 4 + 4 by omega] at g0 g1 g2 g3
    exact twoOf_two b (off + j * 4) (S.length - j) cap _ _ _ _ _ _ _ _ _ _ _ _ _ _ _ _ w hb (by omega) h0 h1 h2 h3 g0 g1 g2 g3
  · have hd : S.getD (j + 1) default = default := by rw [List.getD_eq_getElem?_getD, List.getElem?_eq_none (by omega)]; rfl
    rw [hd, show S.length - j = 1 by omega]
    refine ⟨none, 0, none, 0, hr0, ⟨Sls.nil, Sls.nil⟩, fun cap => ?_⟩
    exact twoOf_one b (off + j * 4) 1 cap _ _ _ _ _ _ _ _ w hb h0 h1 h2 h3
theorem choiceB_default (key : Int) (l : List Int) (n : Int) : choiceB key l n default = false := by
  have h : trustsB key l [] = false := trustsB_no (fun h => by have h1 := h.1.2.1; have h2 := h.2.1; simp at h2; omega)
  show (slotB key l 0 [] 0 [] && decide ((0 : Int) = n)) = false
  unfold slotB sealB
  rw [h]; rfl
theorem getD_past {S : List SlN} {j : Nat} (h : S.length ≤ j) : S.getD j default = default := by rw [List.getD_eq_getElem?_getD, List.getElem?_eq_none h]; rfl
theorem choice_lt {key n : Int} {l : List Int} {S : List SlN} {j : Nat} (h : choiceB key l n (S.getD j default) = true) : j < S.length := by
  rcases Nat.lt_or_ge j S.length with h1 | h1
  · exact h1
  · rw [getD_past h1, choiceB_default] at h; cases h
theorem fits_all {S : List SlN} (h : ∀ i, i < S.length → (S.getD i default).Fits) (i : Nat) : (S.getD i default).Fits := by
  rcases Nat.lt_or_ge i S.length with h1 | h1
  · exact h i h1
  · rw [getD_past h1]; exact ⟨Nat.zero_le _, Nat.zero_le _, fun i hi => absurd hi (Nat.not_lt_zero _), by unfold I64; decide⟩
noncomputable def VolG.okB (x : VolG) : Bool := volB x.key x.counts x.trusts x.cells x.slots x.count
def VolG.Int64 (x : VolG) : Prop := TrusI x.trusts ∧ (∀ i, i < x.slots.length → (x.slots.getD i default).Fits ∧ I64 (x.slots.getD i default).mac) ∧ I64 x.count
theorem specVolumeOk_G (x : VolG) (v : Value) (w : World) (hx : x.Short) (hi : x.Int64) (h : RdG w w.heap.size x v) :
    Calls Tryz.prog 25 #[v] w fun e w' => e = .returned (.bool x.okB) ∧ Below w.heap.size w w' := by
  obtain ⟨A, c, B, d, C, e, E, s, rfl, i1, i2, i3, i4, -⟩ := h
  exact specVolumeOk_calls x.key A x.counts c B x.trusts d C x.cells e E x.slots s x.count w (by have := hx.1; unfold maxLen; omega) i1 hx.2.1 i2 hx.2.2.1 i3 hx.2.2.2.1 i4 (fun i h => (hi.2.1 i h).1)
def MarkC (w : World) (g n : Nat) (m : Int) : Prop := ∀ j, j < n → w.cell? ⟨g, j * 2, none⟩ = some (.int .i64 (m + 2 * j)) ∧ w.cell? ⟨g, j * 2 + 1, none⟩ = some (.int .i64 (m + 2 * j + 1))
theorem MarkC.block {w u : World} {g n : Nat} {m : Int} (h : MarkC w g n m) (hb : u.heap[g]? = w.heap[g]?) : MarkC u g n m := by
  have f : ∀ o, u.cell? ⟨g, o, none⟩ = w.cell? ⟨g, o, none⟩ := fun o => by simp [World.cell?, hb]
  exact fun j hj => ⟨(f _).trans (h j hj).1, (f _).trans (h j hj).2⟩
theorem rowIs_block {w u : World} {g : Nat} {t : TypeId} {n : Nat} {f : Nat → Value} (h : w.rowIs g t n f) (hb : u.heap[g]? = w.heap[g]?) : u.rowIs g t n f := by
  obtain ⟨c, h1, h2, h3⟩ := h
  exact ⟨c, hb.trans h1, h2, h3⟩
set_option maxHeartbeats 2000000 in
theorem toPlanO_calls (key : Int) (A : Option Addr) (l : List Int) (cap : Nat) (w : World) (hn : l.length ≤ 1048576) (hA : Ints w .i64 w.heap.size A l) :
    Calls Tryz.prog 105 #[.agg #[.int .i64 key, .slice A l.length cap]] w fun e w' => ∃ g, e = .returned (.agg #[.int .i64 key, .slice (some ⟨g, 0, none⟩) l.length l.length]) ∧ w.heap.size ≤ g ∧ w'.rowIs g 2 l.length (fun i => .int .i64 (l.getD i 0)) ∧ Below w.heap.size w w' := by
  have T := Lib.hid (fun w hA => toInt64S_calls A l cap w hn hA)
  have k0 := (((Kept.refl w).new 59 #[.int .i64 key, .slice A l.length cap]).new 26 #[.int .i64 0, .slice none 0 0]).new 26 #[.int .i64 key, .slice none 0 0]
  rw [show ((w.alloc (.cells #[.int .i64 key, .slice A l.length cap] 59)).alloc (.cells #[.int .i64 0, .slice none 0 0] 26)).heap.size = w.heap.size + 1 + 1 by simp, show (w.alloc (.cells #[.int .i64 key, .slice A l.length cap] 59)).heap.size = w.heap.size + 1 by simp] at k0
  have HA := Lib.hid ((hA.below k0.1 (Nat.le_refl _)).more k0.1.size)
  have K0 := Lib.hid k0
  clear hA k0
  go_enter Tryz.func105, Tryz.ntmps105
  go_wp2_with fail
  refine (T.out _ HA.out).mono ?_; rintro e w1 ⟨rfl, b1, h1⟩
  obtain ⟨g, hge⟩ : ∃ g, g = (((w.alloc (.cells #[.int .i64 key, .slice A l.length cap] 59)).alloc (.cells #[.int .i64 0, .slice none 0 0] 26)).alloc (.cells #[.int .i64 key, .slice none 0 0] 26)).heap.size := ⟨_, rfl⟩
  rw [← hge] at h1 ⊢
  have hg : w.heap.size + 1 + 1 < g := by simp at hge; omega
  have k1 := K0.out.below b1
  clear hge
  have c20 : w1.cell? ⟨w.heap.size + 1 + 1, 0, none⟩ = some (.int .i64 key) := k1.cell (List.mem_cons_self ..) 0
  have c21 : w1.cell? ⟨w.heap.size + 1 + 1, 1, none⟩ = some (.slice none 0 0) := k1.cell (List.mem_cons_self ..) 1
  have c10 : w1.cell? ⟨w.heap.size + 1, 0, none⟩ = some (.int .i64 0) := k1.tail.cell (List.mem_cons_self ..) 0
  have c11 : w1.cell? ⟨w.heap.size + 1, 1, none⟩ = some (.slice none 0 0) := k1.tail.cell (List.mem_cons_self ..) 1
  have f2 := k1.frozen (List.mem_cons_self ..) 1
  have f10 := k1.tail.frozen (List.mem_cons_self ..) 0
  have f11 := k1.tail.frozen (List.mem_cons_self ..) 1
  have K1 := Lib.hid k1
  have H1 := Lib.hid h1
  have G1 := Lib.hid hg
  clear b1 h1 k1 hg
  go_wp2_with fail
  have k2 := K1.out.set (by intro x hx; simp at hx; rcases hx with rfl | rfl <;> simp <;> omega) 1 (.slice (some ⟨g, 0, none⟩) l.length l.length)
  have k3 := (k2.tail.set (by intro x hx; simp at hx; subst hx; simp) 0 (.int .i64 key)).set (by intro x hx; simp at hx; subst hx; simp) 1 (.slice (some ⟨g, 0, none⟩) l.length l.length)
  have h3 := rowIs_block H1.out (show (((w1.setCell ⟨w.heap.size + 1 + 1, 1, none⟩ (.slice (some ⟨g, 0, none⟩) l.length l.length)).setCell ⟨w.heap.size + 1, 0, none⟩ (.int .i64 key)).setCell ⟨w.heap.size + 1, 1, none⟩ (.slice (some ⟨g, 0, none⟩) l.length l.length)).heap[g]? = w1.heap[g]? from by
    have hg := G1.out
    rw [Below.heap_setCell _ _ _ _ (by simp; omega), Below.heap_setCell _ _ _ _ (by simp; omega), Below.heap_setCell _ _ _ _ (by simp; omega)])
  generalize World.setCell _ _ _ = w4 at k3 h3 ⊢
  have d0 : w4.cell? ⟨w.heap.size + 1, 0, none⟩ = some (.int .i64 key) := k3.cell (List.mem_cons_self ..) 0
  have d1 : w4.cell? ⟨w.heap.size + 1, 1, none⟩ = some (.slice (some ⟨g, 0, none⟩) l.length l.length) := k3.cell (List.mem_cons_self ..) 1
  exact bodyPost_ret (v := .agg #[.int .i64 key, .slice (some ⟨g, 0, none⟩) l.length l.length]) (by simp [results, Tryz.results105, go_sem, d0, d1]) rfl ⟨g, rfl, by have := G1.out; omega, h3, k3.1⟩
end Go.Proofs.YteoijmejhdocdaaGreatDoor.Mx

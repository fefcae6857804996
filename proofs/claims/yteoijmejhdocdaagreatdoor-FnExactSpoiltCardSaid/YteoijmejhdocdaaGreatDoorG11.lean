import Derived.Test.YteoijmejhdocdaaGreatDoorG05
import Derived.Test.YteoijmejhdocdaaGreatDoorG06
import Derived.Deep.OwnRows
import Derived.Deep.RegionWith
import Derived.Test.YteoijmejhdocdaaGreatDoorG03
import Derived.Test.YteoijmejhdocdaaGreatDoorG02
import Derived.Test.YteoijmejhdocdaaGreatDoorG01
import Derived.Test.YteoijmejhdocdaaGreatDoorG07
namespace Go.Proofs.YteoijmejhdocdaaGreatDoor.Mx
open Go.ChangeShapes Go.WideShapes Go.ChangeAt Go.RowKit
set_option linter.unusedVariables false
section
variable {α : Type} [Inhabited α]
def laidS (enc : α → List Value) (z : List Value) (n : Nat) (L : List α) (k i : Nat) : Value := if i < k * n then ((enc (L.getD (i / n) default))[i % n]?).getD undef else (z[i % n]?).getD undef
theorem laidS_zero (enc : α → List Value) (z : List Value) (n : Nat) (L : List α) (i : Nat) : laidS enc z n L 0 i = (z[i % n]?).getD undef := by unfold laidS; rw [if_neg (by omega)]
theorem laidS_at {enc : α → List Value} {z : List Value} {n : Nat} (L : List α) {k i j : Nat} (hi : i < k) (hj : j < n) : laidS enc z n L k (i * n + j) = ((enc (L.getD i default))[j]?).getD undef := by
  have h1 : i * n + j < k * n := Nat.lt_of_lt_of_le (by omega : i * n + j < i * n + n) (by have := Nat.mul_le_mul_right n hi; rw [Nat.succ_mul] at this; exact this)
  have h2 : (i * n + j) / n = i := by rw [Nat.mul_comm, Nat.mul_add_div (by omega), Nat.div_eq_of_lt hj]; rfl
  have h3 : (i * n + j) % n = j := by rw [Nat.mul_comm, Nat.mul_add_mod, Nat.mod_eq_of_lt hj]
  unfold laidS
  rw [if_pos h1, h2, h3]
theorem laidS_off {enc : α → List Value} {z : List Value} {n : Nat} (L : List α) {k i : Nat} (h : ∀ j, j < n → i ≠ k * n + j) : laidS enc z n L (k + 1) i = laidS enc z n L k i := by
  unfold laidS
  by_cases h1 : i < k * n
  · rw [if_pos h1, if_pos (by rw [Nat.succ_mul]; omega)]
  · rw [if_neg h1, if_neg]
    rw [Nat.succ_mul]
    intro h2
    exact h (i - k * n) (by omega) (by omega)
end
theorem rowS_below {w w' : World} {B b t n : Nat} {f : Nat → Value} (h : w.rowIs b t n f) (hb : Below B w w') (hlt : b < B) : w'.rowIs b t n f := by
  obtain ⟨c, h1, h2, h3⟩ := h
  exact ⟨c, (hb.block b hlt).trans h1, h2, h3⟩
theorem szTrustS_calls (A : Option Addr) (n cap : Nat) (left : Int) (w : World) (h0 : 0 ≤ left) (h1 : left ≤ 1048576) (hn : n ≤ maxLen) :
    Calls Tryz.prog 102 #[.slice A n cap, .int .i64 left] w fun e w' => e = .returned (.int .i64 (if (n : Int) ≤ left then left - n else -1)) ∧ w = w' := by
  unfold maxLen at hn
  by_cases h : (n : Int) ≤ left
  · rw [if_pos h]
    have h2 : ¬ left - n < 0 := by omega
    go_enter Tryz.func102, Tryz.ntmps102
    go_wp2
    go_ret
    exact ⟨rfl, rfl⟩
  · rw [if_neg h]
    have h2 : left - n < 0 := by omega
    go_enter Tryz.func102, Tryz.ntmps102
    go_wp2
    go_ret
    exact ⟨rfl, rfl⟩
set_option maxHeartbeats 4000000 in
theorem eqTrustS_same (A C : Option Addr) (L : List Tru) (cap cap' : Nat) (w : World) (hn : L.length ≤ maxLen) (hA : Sls truV 8 w w.heap.size A L) (hC : Sls truV 8 w w.heap.size C L) :
    Calls Tryz.prog 110 #[.slice A L.length cap, .slice C L.length cap'] w fun e w' => e = .returned (.bool true) ∧ Below w.heap.size w w' := by
  have hm := hn
  unfold maxLen at hm
  have HA := Lib.hid hA
  have HC := Lib.hid hC
  clear hA hC hn
  go_enter Tryz.func110, Tryz.ntmps110
  go_wp2_with fail
  go_loopw [5] (fun i wr => ∃ k : Nat, k ≤ L.length ∧ i = .int .i64 k ∧ Below w.heap.size w wr) (fun i _ => L.length - (intOf i).toNat)
  case atStart => exact ⟨0, Nat.zero_le _, rfl, Below.refl _ _⟩
  case round =>
    obtain ⟨k, hk, rfl, hbel⟩ := hrel
    have HB := Lib.hid hbel
    clear hbel
    by_cases hlt : k < L.length
    · obtain ⟨b, off, rfl, hb, c0, c1, c2, c3, c4, c5, c6, c7⟩ := Trs.at_ (HA.out.below HB.out.drew (Nat.le_refl _)) hlt
      obtain ⟨b', off', rfl, hb', d0, d1, d2, d3, d4, d5, d6, d7⟩ := Trs.at_ (HC.out.below HB.out.drew (Nat.le_refl _)) hlt
      have hlt' : (k : Int) < L.length := by omega
      have hk0 : (0 : Int) ≤ k := by omega
      generalize L.getD k default = T at c0 c1 c2 c3 c4 c5 c6 c7 d0 d1 d2 d3 d4 d5 d6 d7
      go_wp2_with fail
      go_region_with (go_at_call 180; refine (eqTrust_same T.clock T.epoch T.cursor T.read T.written T.nread T.nwritten T.failed _).mono ?_; rintro e wx ⟨rfl, bx⟩)
      all_goals
        have BX := Lib.hid (HB.out.drew.trans (bx.mono HB.out.drew.size))
        clear bx c0 c1 c2 c3 c4 c5 c6 c7 d0 d1 d2 d3 d4 d5 d6 d7
        go_wp2_with fail
        go_roundw
        case rel => exact ⟨k + 1, by omega, by go_num, BX.out⟩
        case measure => simp [intOf]; omega
    · go_wp2_with fail
      go_ret
      exact ⟨rfl, HB.out⟩
theorem laidTrustS_next (L : List Tru) {k : Nat} {T : Tru} (h : L.getD k default = T) (i : Nat) :
    laidS truV [.int .i64 0, .int .i64 0, .int .i64 0, .int .i64 0, .int .i64 0, .int .i64 0, .int .i64 0, .bool false] 8 L (k + 1) i = if i = k * 8 + 7 then .bool T.failed else if i = k * 8 + 6 then .int .i64 T.nwritten else if i = k * 8 + 5 then .int .i64 T.nread else if i = k * 8 + 4 then .int .i64 T.written else if i = k * 8 + 3 then .int .i64 T.read else if i = k * 8 + 2 then .int .i64 T.cursor else if i = k * 8 + 1 then .int .i64 T.epoch else if i = k * 8 then .int .i64 T.clock else laidS truV [.int .i64 0, .int .i64 0, .int .i64 0, .int .i64 0, .int .i64 0, .int .i64 0, .int .i64 0, .bool false] 8 L k i := by
  by_cases h7 : i = k * 8 + 7
  · subst h7; rw [if_pos rfl, laidS_at L (by omega) (by omega), h]; rfl
  · rw [if_neg h7]
    by_cases h6 : i = k * 8 + 6
    · subst h6; rw [if_pos rfl, laidS_at L (by omega) (by omega), h]; rfl
    · rw [if_neg h6]
      by_cases h5 : i = k * 8 + 5
      · subst h5; rw [if_pos rfl, laidS_at L (by omega) (by omega), h]; rfl
      · rw [if_neg h5]
        by_cases h4 : i = k * 8 + 4
        · subst h4; rw [if_pos rfl, laidS_at L (by omega) (by omega), h]; rfl
        · rw [if_neg h4]
          by_cases h3 : i = k * 8 + 3
          · subst h3; rw [if_pos rfl, laidS_at L (by omega) (by omega), h]; rfl
          · rw [if_neg h3]
            by_cases h2 : i = k * 8 + 2
            · subst h2; rw [if_pos rfl, laidS_at L (by omega) (by omega), h]; rfl
            · rw [if_neg h2]
              by_cases h1 : i = k * 8 + 1
              · subst h1; rw [if_pos rfl, laidS_at L (by omega) (by omega), h]; rfl
              · rw [if_neg h1]
                by_cases h0 : i = k * 8
                · subst h0; rw [if_pos rfl, show k * 8 = k * 8 + 0 from rfl, laidS_at L (by omega) (by omega), h]; rfl
                · rw [if_neg h0]
                  exact laidS_off L (fun j hj e => by omega)
theorem made_TrustS (w : World) (n : Nat) : (w.alloc (.cells (madeCells (Value.agg #[.int .i64 0, .int .i64 0, .int .i64 0, .int .i64 0, .int .i64 0, .int .i64 0, .int .i64 0, .bool false]).cells (n * 8)) 94)).rowIs w.heap.size 94 (n * 8) (fun i => (([.int .i64 0, .int .i64 0, .int .i64 0, .int .i64 0, .int .i64 0, .int .i64 0, .int .i64 0, .bool false] : List Value)[i % 8]?).getD undef) := by
  refine ⟨_, CellsAt.new w _ _, size_madeCells _ _, fun i hi => ?_⟩
  have hz : (Value.agg #[.int .i64 0, .int .i64 0, .int .i64 0, .int .i64 0, .int .i64 0, .int .i64 0, .int .i64 0, .bool false]).cells = #[.int .i64 0, .int .i64 0, .int .i64 0, .int .i64 0, .int .i64 0, .int .i64 0, .int .i64 0, .bool false] := rfl
  have h3 : i % 8 = 0 ∨ i % 8 = 1 ∨ i % 8 = 2 ∨ i % 8 = 3 ∨ i % 8 = 4 ∨ i % 8 = 5 ∨ i % 8 = 6 ∨ i % 8 = 7 := by omega
  simp [madeCells, hz, hi]
  rcases h3 with h | h | h | h | h | h | h | h <;> simp [h]
theorem make_TrustS (n : Nat) (hn : n ≤ 1048576) (w : World) :
    (Instr.makeSlice 27 (.int .i64 (n : Int)) (.int .i64 (n : Int))).run Tryz.prog w = .ok (.slice (some ⟨w.heap.size, 0, none⟩) n n) (w.alloc (.cells (madeCells (Value.agg #[.int .i64 0, .int .i64 0, .int .i64 0, .int .i64 0, .int .i64 0, .int .i64 0, .int .i64 0, .bool false]).cells (n * 8)) 94)) := by
  obtain ⟨i, hi, hzz⟩ := Option.map_eq_some_iff.1 info_tru
  simp only [Prod.mk.injEq] at hzz
  obtain ⟨hz, hs, hb⟩ := hzz
  have hr := run_make (P := Tryz.prog) w 27 94 i _ Tryz.underlying27 hi hz .i64 .i64 n n (by omega) (Int.le_refl _) (by rw [hb]; omega) (by omega)
  simp only [Int.toNat_natCast, hs] at hr
  exact hr
theorem sls_TrustS {w : World} {g ty : Nat} {L : List Tru} (h : w.rowIs g ty (L.length * 8) (laidS truV [.int .i64 0, .int .i64 0, .int .i64 0, .int .i64 0, .int .i64 0, .int .i64 0, .int .i64 0, .bool false] 8 L L.length)) : Sls truV 8 w (g + 1) (some ⟨g, 0, none⟩) L := by
  intro i hi
  refine ⟨g, 0, rfl, by omega, fun j hj => ?_⟩
  have hlt : i * 8 + j < L.length * 8 := by omega
  rw [Nat.zero_add, h.cell hlt, laidS_at L hi hj]
  obtain ⟨v, hv⟩ : ∃ v, (truV (L.getD i default))[j]? = some v := ⟨_, List.getElem?_eq_getElem (show j < (truV (L.getD i default)).length by rw [truV_len]; exact hj)⟩
  rw [hv]; rfl
set_option maxHeartbeats 4000000 in
theorem toTrustS_calls (A : Option Addr) (L : List Tru) (cap : Nat) (w : World) (hn : L.length ≤ 1048576) (hA : Sls truV 8 w w.heap.size A L) :
    Calls Tryz.prog 106 #[.slice A L.length cap] w fun e w' => e = .returned (.slice (some ⟨w.heap.size, 0, none⟩) L.length L.length) ∧ Below w.heap.size w w' ∧ w.heap.size < w'.heap.size ∧ w'.rowIs w.heap.size 94 (L.length * 8) (laidS truV [.int .i64 0, .int .i64 0, .int .i64 0, .int .i64 0, .int .i64 0, .int .i64 0, .int .i64 0, .bool false] 8 L L.length) := by
  have hmk := make_TrustS L.length hn
  have HA := Lib.hid hA
  clear hA
  go_enter Tryz.func106, Tryz.ntmps106
  go_wp2_with fail
  clear hmk
  go_loopw [4] (fun i wr => ∃ k : Nat, k ≤ L.length ∧ i = .int .i64 k ∧ Below w.heap.size w wr ∧ wr.rowIs w.heap.size 94 (L.length * 8) (laidS truV [.int .i64 0, .int .i64 0, .int .i64 0, .int .i64 0, .int .i64 0, .int .i64 0, .int .i64 0, .bool false] 8 L k)) (fun i _ => L.length - (intOf i).toNat)
  case atStart =>
    exact ⟨0, Nat.zero_le _, rfl, (Below.refl _ _).alloc (Nat.le_refl _) _, (made_TrustS w L.length).congr (fun i hi => (laidS_zero _ _ _ L i).symm)⟩
  case round =>
    obtain ⟨k, hk, rfl, hbel, hrow⟩ := hrel
    have HB := Lib.hid hbel
    have HR := Lib.hid hrow
    clear hbel hrow
    have hg : w.heap.size < wr.heap.size := by
      obtain ⟨c, h1, _⟩ := HR.out
      exact (Array.getElem?_eq_some_iff.1 h1).1
    by_cases hlt : k < L.length
    · obtain ⟨b, off, rfl, hb, c0, c1, c2, c3, c4, c5, c6, c7⟩ := Trs.at_ (HA.out.below HB.out (Nat.le_refl _)) hlt
      have hlt' : (k : Int) < L.length := by omega
      have hk0 : (0 : Int) ≤ k := by omega
      generalize hT : L.getD k default = T at c0 c1 c2 c3 c4 c5 c6 c7
      have HT := Lib.hid (laidTrustS_next L hT)
      clear hT
      go_wp2_with fail
      refine (toTrust_calls T.clock T.epoch T.cursor T.read T.written T.nread T.nwritten T.failed _).mono ?_; rintro e w1 ⟨rfl, b1⟩
      have BX := Lib.hid (HB.out.trans (b1.mono HB.out.size))
      have hrow := rowS_below HR.out b1 hg
      have HR1 := Lib.hid hrow
      have e0 := hrow.cell (i := k * 8) (by omega)
      have f0 := hrow.frozen (k * 8)
      have e1 := hrow.cell (i := k * 8 + 1) (by omega)
      have f1 := hrow.frozen (k * 8 + 1)
      have e2 := hrow.cell (i := k * 8 + 2) (by omega)
      have f2 := hrow.frozen (k * 8 + 2)
      have e3 := hrow.cell (i := k * 8 + 3) (by omega)
      have f3 := hrow.frozen (k * 8 + 3)
      have e4 := hrow.cell (i := k * 8 + 4) (by omega)
      have f4 := hrow.frozen (k * 8 + 4)
      have e5 := hrow.cell (i := k * 8 + 5) (by omega)
      have f5 := hrow.frozen (k * 8 + 5)
      have e6 := hrow.cell (i := k * 8 + 6) (by omega)
      have f6 := hrow.frozen (k * 8 + 6)
      have e7 := hrow.cell (i := k * 8 + 7) (by omega)
      have f7 := hrow.frozen (k * 8 + 7)
      clear b1 hrow c0 c1 c2 c3 c4 c5 c6 c7
      go_wp2_with fail
      go_roundw
      case rel =>
        refine ⟨k + 1, by omega, by go_num, ((((((((BX.out.setCell (Nat.le_refl _) _).setCell (Nat.le_refl _) _).setCell (Nat.le_refl _) _).setCell (Nat.le_refl _) _).setCell (Nat.le_refl _) _).setCell (Nat.le_refl _) _).setCell (Nat.le_refl _) _).setCell (Nat.le_refl _) _), ?_⟩
        exact (((((((((HR1.out.set (k * 8) (.int .i64 T.clock)).set (k * 8 + 1) (.int .i64 T.epoch)).set (k * 8 + 2) (.int .i64 T.cursor)).set (k * 8 + 3) (.int .i64 T.read)).set (k * 8 + 4) (.int .i64 T.written)).set (k * 8 + 5) (.int .i64 T.nread)).set (k * 8 + 6) (.int .i64 T.nwritten)).set (k * 8 + 7) (.bool T.failed))).congr (fun i hi => (HT.out i).symm)
      case measure => simp [intOf]; omega
    · have hk' : k = L.length := by omega
      subst hk'
      go_wp2_with fail
      go_ret
      exact ⟨rfl, HB.out, hg, HR.out⟩
theorem CellsAt.off_ {w : World} {g p : Nat} {t : TypeId} {cs : Array Value} (h : CellsAt w g t cs) (hne : p ≠ g) (o : Nat) (v : Value) : CellsAt (w.setCell ⟨p, o, none⟩ v) g t cs := h.grown (gb_set (gb_refl w (some p)) o v) (by intro e; injection e with e; exact hne e.symm)
theorem toTrusts_own (A : Option Addr) (L : List Tru) (cap : Nat) (w : World) (hn : L.length ≤ 1048576) (hA : Trs w w.heap.size A L) :
    Calls Tryz.prog 106 #[.slice A L.length cap] w fun e w' => ∃ g, e = .returned (.slice (some ⟨g, 0, none⟩) L.length L.length) ∧ w.heap.size ≤ g ∧ g < w'.heap.size ∧ Trs w' w'.heap.size (some ⟨g, 0, none⟩) L ∧ (∃ cs, CellsAt w' g 94 cs ∧ L.length * 8 ≤ cs.size) ∧ Below w.heap.size w w' := by
  refine (toTrustS_calls A L cap w hn hA).mono ?_
  rintro e w' ⟨rfl, hb, hlt, hr⟩
  refine ⟨_, rfl, Nat.le_refl _, hlt, (sls_TrustS hr).more hlt, ?_, hb⟩
  obtain ⟨cs, h1, h2, h3⟩ := hr
  exact ⟨cs, h1, by omega⟩
theorem szSeal_calls (cnt mac : Int) (A : Option Addr) (n cap : Nat) (left : Int) (w : World) (h0 : 0 ≤ left) (h1 : left ≤ 1048576) (hn : n ≤ maxLen) :
    Calls Tryz.prog 225 #[.agg #[.int .i64 cnt, .slice A n cap, .int .i64 mac], .int .i64 left] w fun e w' => e = .returned (.int .i64 (if (n : Int) ≤ left then left - n else -1)) ∧ Below w.heap.size w w' := by
  have B := Lib.hid (box_below w (.cells #[.int .i64 cnt, .slice A n cap, .int .i64 mac] 178))
  have C := Lib.hid (fun u => szTrustS_calls A n cap left u h0 h1 hn)
  by_cases h : (n : Int) ≤ left
  · rw [if_pos h] at C ⊢
    have h2 : ¬ left - n < 0 := by omega
    clear h h0 h1 hn
    go_enter Tryz.func225, Tryz.ntmps225
    go_wp2_with fail
    refine (C.out _).mono ?_; rintro e w' ⟨rfl, rfl⟩
    go_wp2_with fail
    go_ret
    exact ⟨rfl, B.out⟩
  · rw [if_neg h] at C ⊢
    clear h h0 h1 hn
    go_enter Tryz.func225, Tryz.ntmps225
    go_wp2_with fail
    refine (C.out _).mono ?_; rintro e w' ⟨rfl, rfl⟩
    go_wp2_with fail
    go_ret
    exact ⟨rfl, B.out⟩
set_option maxRecDepth 20000 in
set_option maxHeartbeats 4000000 in
theorem eqSeal_same (cnt mac : Int) (A C : Option Addr) (L : List Tru) (c c' : Nat) (w : World) (hn : L.length ≤ maxLen) (hA : Trs w w.heap.size A L) (hC : Trs w w.heap.size C L) :
    Calls Tryz.prog 227 #[.agg #[.int .i64 cnt, .slice A L.length c, .int .i64 mac], .agg #[.int .i64 cnt, .slice C L.length c', .int .i64 mac]] w fun e w' => e = .returned (.bool true) ∧ Below w.heap.size w w' := by
  have K0 := Lib.hid (show Kept w [(w.heap.size + 1, 89, #[.int .i64 cnt, .slice C L.length c', .int .i64 mac]), (w.heap.size, 89, #[.int .i64 cnt, .slice A L.length c, .int .i64 mac])] _ from (((Kept.refl w).put1 _ _ #[.int .i64 cnt, .slice A L.length c, .int .i64 mac] rfl).put1 _ _ #[.int .i64 cnt, .slice C L.length c', .int .i64 mac] (by simp)))
  have E := Lib.hid (fun u (hb : Below w.heap.size w u) => eqTrustS_same A C L c c' u hn ((hA.below hb (Nat.le_refl _)).more hb.size) ((hC.below hb (Nat.le_refl _)).more hb.size))
  clear hA hC hn
  go_enter Tryz.func227, Tryz.ntmps227
  go_wp2_with fail
  refine (E.out _ K0.out.1).mono ?_; rintro e w1 ⟨rfl, b1⟩
  have h1 := K0.out.below b1
  clear b1 K0 E
  obtain ⟨kc0, kf0, kc1, kf1, -⟩ := h1.rd
  have H1 := Lib.hid h1
  clear h1
  go_wp2_with fail
  go_ret
  exact ⟨rfl, H1.out.1⟩
set_option maxRecDepth 20000 in
set_option maxHeartbeats 4000000 in
theorem toSeal_own (cnt mac : Int) (A : Option Addr) (L : List Tru) (c : Nat) (w : World) (hn : L.length ≤ 1048576) (hA : Trs w w.heap.size A L) :
    Calls Tryz.prog 226 #[.agg #[.int .i64 cnt, .slice A L.length c, .int .i64 mac]] w fun e w' => ∃ g, e = .returned (.agg #[.int .i64 cnt, .slice (some ⟨g, 0, none⟩) L.length L.length, .int .i64 mac]) ∧ w.heap.size ≤ g ∧ Trs w' w'.heap.size (some ⟨g, 0, none⟩) L ∧ (∃ cs, CellsAt w' g 94 cs ∧ L.length * 8 ≤ cs.size) ∧ Below w.heap.size w w' := by
  have K0 := Lib.hid (show Kept w [(w.heap.size + 1 + 1, 89, #[.int .i64 cnt, .slice none 0 0, .int .i64 0]), (w.heap.size + 1, 89, #[.int .i64 0, .slice none 0 0, .int .i64 0]), (w.heap.size, 178, #[.int .i64 cnt, .slice A L.length c, .int .i64 mac])] _ from ((((Kept.refl w).put1 _ _ #[.int .i64 cnt, .slice A L.length c, .int .i64 mac] rfl).put1 _ _ #[.int .i64 0, .slice none 0 0, .int .i64 0] (by simp)).put1 _ _ #[.int .i64 cnt, .slice none 0 0, .int .i64 0] (by simp)))
  have T := Lib.hid (fun u (hb : Below w.heap.size w u) => toTrusts_own A L c u hn ((hA.below hb (Nat.le_refl _)).more hb.size))
  clear hA hn
  go_enter Tryz.func226, Tryz.ntmps226
  go_wp2_with fail
  refine (T.out _ K0.out.1).mono ?_; rintro e w1 ⟨g, rfl, hg0, hg1, ht, hsh, b1⟩
  have h1 := K0.out.below b1
  have HSH := Lib.hid hsh
  clear hsh
  have hg2 : w.heap.size + 1 + 1 < g := Nat.lt_of_lt_of_le (by simp <;> omega) hg0
  clear b1 hg0 T K0
  obtain ⟨kc0, kf0, kc1, kf1, kc2, kf2, -⟩ := h1.rd
  have H1 := Lib.hid h1
  have HT := Lib.hid ht
  have G2 := Lib.hid hg2
  clear h1 ht hg2
  go_wp2_with fail
  have k2 := (H1.out.set (by intro x hx; simp at hx; rcases hx with rfl | rfl <;> simp <;> omega) 1 (.slice (some ⟨g, 0, none⟩) L.length L.length)).set (by intro x hx; simp at hx; rcases hx with rfl | rfl <;> simp <;> omega) 2 (.int .i64 mac)
  have k3 := ((k2.tail.set (by intro x hx; simp at hx; subst hx; simp) 0 (.int .i64 cnt)).set (by intro x hx; simp at hx; subst hx; simp) 1 (.slice (some ⟨g, 0, none⟩) L.length L.length)).set (by intro x hx; simp at hx; subst hx; simp) 2 (.int .i64 mac)
  have ht3 : Trs (((((w1.setCell ⟨w.heap.size + 1 + 1, 1, none⟩ (.slice (some ⟨g, 0, none⟩) L.length L.length)).setCell ⟨w.heap.size + 1 + 1, 2, none⟩ (.int .i64 mac)).setCell ⟨w.heap.size + 1, 0, none⟩ (.int .i64 cnt)).setCell ⟨w.heap.size + 1, 1, none⟩ (.slice (some ⟨g, 0, none⟩) L.length L.length)).setCell ⟨w.heap.size + 1, 2, none⟩ (.int .i64 mac)) w1.heap.size (some ⟨g, 0, none⟩) L := by
    have hg := G2.out
    intro i hi
    obtain ⟨b, off, e, hb, hc⟩ := HT.out i hi
    injection e with e
    injection e with e1 e2 e3
    subst e1
    refine ⟨_, off, by rw [e2], hb, fun j hj => ?_⟩
    rw [← hc j hj]
    unfold World.cell?
    rw [Below.heap_setCell _ _ _ _ (by simp; omega), Below.heap_setCell _ _ _ _ (by simp; omega), Below.heap_setCell _ _ _ _ (by simp; omega), Below.heap_setCell _ _ _ _ (by simp; omega), Below.heap_setCell _ _ _ _ (by simp; omega)]
  have hsz : w1.heap.size ≤ (((((w1.setCell ⟨w.heap.size + 1 + 1, 1, none⟩ (.slice (some ⟨g, 0, none⟩) L.length L.length)).setCell ⟨w.heap.size + 1 + 1, 2, none⟩ (.int .i64 mac)).setCell ⟨w.heap.size + 1, 0, none⟩ (.int .i64 cnt)).setCell ⟨w.heap.size + 1, 1, none⟩ (.slice (some ⟨g, 0, none⟩) L.length L.length)).setCell ⟨w.heap.size + 1, 2, none⟩ (.int .i64 mac)).heap.size := by simp
  have hs4 : ∃ cs, CellsAt (((((w1.setCell ⟨w.heap.size + 1 + 1, 1, none⟩ (.slice (some ⟨g, 0, none⟩) L.length L.length)).setCell ⟨w.heap.size + 1 + 1, 2, none⟩ (.int .i64 mac)).setCell ⟨w.heap.size + 1, 0, none⟩ (.int .i64 cnt)).setCell ⟨w.heap.size + 1, 1, none⟩ (.slice (some ⟨g, 0, none⟩) L.length L.length)).setCell ⟨w.heap.size + 1, 2, none⟩ (.int .i64 mac)) g 94 cs ∧ L.length * 8 ≤ cs.size := by
    obtain ⟨cs, h1, h2⟩ := HSH.out
    have hg := G2.out
    exact ⟨cs, ((((h1.off_ (by omega) 1 _).off_ (by omega) 2 _).off_ (by omega) 0 _).off_ (by omega) 1 _).off_ (by omega) 2 _, h2⟩
  generalize World.setCell _ _ _ = w4 at k3 ht3 hsz hs4 ⊢
  have d0 : w4.cell? ⟨w.heap.size + 1, 0, none⟩ = some (.int .i64 cnt) := k3.cell (List.mem_cons_self ..) 0
  have d1 : w4.cell? ⟨w.heap.size + 1, 1, none⟩ = some (.slice (some ⟨g, 0, none⟩) L.length L.length) := k3.cell (List.mem_cons_self ..) 1
  have d2 : w4.cell? ⟨w.heap.size + 1, 2, none⟩ = some (.int .i64 mac) := k3.cell (List.mem_cons_self ..) 2
  exact bodyPost_ret (v := .agg #[.int .i64 cnt, .slice (some ⟨g, 0, none⟩) L.length L.length, .int .i64 mac]) (by simp [results, Tryz.results226, go_sem, d0, d1, d2]) rfl ⟨g, rfl, by have := G2.out; omega, ht3.more hsz, hs4, k3.1⟩
theorem toCell_calls (t v : Int) (w : World) :
    Calls Tryz.prog 177 #[.agg (cA t v)] w fun e w' => e = .returned (.agg (cA t v)) ∧ Below w.heap.size w w' := by
  go_enter Tryz.func177, Tryz.ntmps177
  go_wp2_with fail
  exact bodyPost_ret (v := .agg (cA t v)) (by simp [results, Tryz.results177, go_sem]) rfl ⟨rfl, (((Below.refl _ _).alloc (Nat.le_refl _) _).alloc (by simp) _).alloc (by simp; omega) _⟩
theorem eqCel_same (t v : Int) (w : World) :
    Calls Tryz.prog 181 #[.agg (cA t v), .agg (cA t v)] w fun e w' => e = .returned (.bool true) ∧ Below w.heap.size w w' := by
  have hk := ((Kept.refl w).new 118 (cA t v)).new 118 (cA t v)
  rw [show (w.alloc (.cells (cA t v) 118)).heap.size = w.heap.size + 1 by simp] at hk
  have HK := Lib.hid hk
  clear hk
  have et : (t != t) = false := by simp
  have ev : (v != v) = false := by simp
  go_enter Tryz.func181, Tryz.ntmps181
  go_wp2_with fail
  go_ret
  exact ⟨rfl, HK.out.1⟩
theorem szCellS_calls (A : Option Addr) (n cap : Nat) (left : Int) (w : World) (h0 : 0 ≤ left) (h1 : left ≤ 1048576) (hn : n ≤ maxLen) :
    Calls Tryz.prog 103 #[.slice A n cap, .int .i64 left] w fun e w' => e = .returned (.int .i64 (if (n : Int) ≤ left then left - n else -1)) ∧ w = w' := by
  unfold maxLen at hn
  by_cases h : (n : Int) ≤ left
  · rw [if_pos h]
    have h2 : ¬ left - n < 0 := by omega
    go_enter Tryz.func103, Tryz.ntmps103
    go_wp2
    go_ret
    exact ⟨rfl, rfl⟩
  · rw [if_neg h]
    have h2 : left - n < 0 := by omega
    go_enter Tryz.func103, Tryz.ntmps103
    go_wp2
    go_ret
    exact ⟨rfl, rfl⟩
set_option maxHeartbeats 4000000 in
theorem eqCellS_same (A C : Option Addr) (L : List Ce) (cap cap' : Nat) (w : World) (hn : L.length ≤ maxLen) (hA : Sls ceV 2 w w.heap.size A L) (hC : Sls ceV 2 w w.heap.size C L) :
    Calls Tryz.prog 111 #[.slice A L.length cap, .slice C L.length cap'] w fun e w' => e = .returned (.bool true) ∧ Below w.heap.size w w' := by
  have hm := hn
  unfold maxLen at hm
  have HA := Lib.hid hA
  have HC := Lib.hid hC
  clear hA hC hn
  go_enter Tryz.func111, Tryz.ntmps111
  go_wp2_with fail
  go_loopw [5] (fun i wr => ∃ k : Nat, k ≤ L.length ∧ i = .int .i64 k ∧ Below w.heap.size w wr) (fun i _ => L.length - (intOf i).toNat)
  case atStart => exact ⟨0, Nat.zero_le _, rfl, Below.refl _ _⟩
  case round =>
    obtain ⟨k, hk, rfl, hbel⟩ := hrel
    have HB := Lib.hid hbel
    clear hbel
    by_cases hlt : k < L.length
    · obtain ⟨b, off, rfl, hb, c0, c1⟩ := Cls.at_ (HA.out.below HB.out.drew (Nat.le_refl _)) hlt
      obtain ⟨b', off', rfl, hb', d0, d1⟩ := Cls.at_ (HC.out.below HB.out.drew (Nat.le_refl _)) hlt
      have hlt' : (k : Int) < L.length := by omega
      have hk0 : (0 : Int) ≤ k := by omega
      generalize L.getD k default = T at c0 c1 d0 d1
      go_wp2_with fail
      go_region_with (go_at_call 181; refine (eqCel_same T.1 T.2 _).mono ?_; rintro e wx ⟨rfl, bx⟩)
      all_goals
        have BX := Lib.hid (HB.out.drew.trans (bx.mono HB.out.drew.size))
        clear bx c0 c1 d0 d1
        go_wp2_with fail
        go_roundw
        case rel => exact ⟨k + 1, by omega, by go_num, BX.out⟩
        case measure => simp [intOf]; omega
    · go_wp2_with fail
      go_ret
      exact ⟨rfl, HB.out⟩
theorem laidCellS_next (L : List Ce) {k : Nat} {T : Ce} (h : L.getD k default = T) (i : Nat) :
    laidS ceV [.int .i64 0, .int .i64 0] 2 L (k + 1) i = if i = k * 2 + 1 then .int .i64 T.2 else if i = k * 2 then .int .i64 T.1 else laidS ceV [.int .i64 0, .int .i64 0] 2 L k i := by
  by_cases h1 : i = k * 2 + 1
  · subst h1; rw [if_pos rfl, laidS_at L (by omega) (by omega), h]; rfl
  · rw [if_neg h1]
    by_cases h0 : i = k * 2
    · subst h0; rw [if_pos rfl, show k * 2 = k * 2 + 0 from rfl, laidS_at L (by omega) (by omega), h]; rfl
    · rw [if_neg h0]
      exact laidS_off L (fun j hj e => by omega)
theorem made_CellS (w : World) (n : Nat) : (w.alloc (.cells (madeCells (Value.agg #[.int .i64 0, .int .i64 0]).cells (n * 2)) 118)).rowIs w.heap.size 118 (n * 2) (fun i => (([.int .i64 0, .int .i64 0] : List Value)[i % 2]?).getD undef) := by
  refine ⟨_, CellsAt.new w _ _, size_madeCells _ _, fun i hi => ?_⟩
  have hz : (Value.agg #[.int .i64 0, .int .i64 0]).cells = #[.int .i64 0, .int .i64 0] := rfl
  have h3 : i % 2 = 0 ∨ i % 2 = 1 := by omega
  simp [madeCells, hz, hi]
  rcases h3 with h | h <;> simp [h]
theorem make_CellS (n : Nat) (hn : n ≤ 1048576) (w : World) :
    (Instr.makeSlice 28 (.int .i64 (n : Int)) (.int .i64 (n : Int))).run Tryz.prog w = .ok (.slice (some ⟨w.heap.size, 0, none⟩) n n) (w.alloc (.cells (madeCells (Value.agg #[.int .i64 0, .int .i64 0]).cells (n * 2)) 118)) := by
  obtain ⟨i, hi, hzz⟩ := Option.map_eq_some_iff.1 info_cel
  simp only [Prod.mk.injEq] at hzz
  obtain ⟨hz, hs, hb⟩ := hzz
  have hr := run_make (P := Tryz.prog) w 28 118 i _ Tryz.underlying28 hi hz .i64 .i64 n n (by omega) (Int.le_refl _) (by rw [hb]; omega) (by omega)
  simp only [Int.toNat_natCast, hs] at hr
  exact hr
theorem sls_CellS {w : World} {g ty : Nat} {L : List Ce} (h : w.rowIs g ty (L.length * 2) (laidS ceV [.int .i64 0, .int .i64 0] 2 L L.length)) : Sls ceV 2 w (g + 1) (some ⟨g, 0, none⟩) L := by
  intro i hi
  refine ⟨g, 0, rfl, by omega, fun j hj => ?_⟩
  have hlt : i * 2 + j < L.length * 2 := by omega
  rw [Nat.zero_add, h.cell hlt, laidS_at L hi hj]
  obtain ⟨v, hv⟩ : ∃ v, (ceV (L.getD i default))[j]? = some v := ⟨_, List.getElem?_eq_getElem (show j < (ceV (L.getD i default)).length by rw [ceV_len]; exact hj)⟩
  rw [hv]; rfl
set_option maxHeartbeats 4000000 in
theorem toCellS_calls (A : Option Addr) (L : List Ce) (cap : Nat) (w : World) (hn : L.length ≤ 1048576) (hA : Sls ceV 2 w w.heap.size A L) :
    Calls Tryz.prog 107 #[.slice A L.length cap] w fun e w' => e = .returned (.slice (some ⟨w.heap.size, 0, none⟩) L.length L.length) ∧ Below w.heap.size w w' ∧ w.heap.size < w'.heap.size ∧ w'.rowIs w.heap.size 118 (L.length * 2) (laidS ceV [.int .i64 0, .int .i64 0] 2 L L.length) := by
  have hmk := make_CellS L.length hn
  have HA := Lib.hid hA
  clear hA
  go_enter Tryz.func107, Tryz.ntmps107
  go_wp2_with fail
  clear hmk
  go_loopw [4] (fun i wr => ∃ k : Nat, k ≤ L.length ∧ i = .int .i64 k ∧ Below w.heap.size w wr ∧ wr.rowIs w.heap.size 118 (L.length * 2) (laidS ceV [.int .i64 0, .int .i64 0] 2 L k)) (fun i _ => L.length - (intOf i).toNat)
  case atStart =>
    exact ⟨0, Nat.zero_le _, rfl, (Below.refl _ _).alloc (Nat.le_refl _) _, (made_CellS w L.length).congr (fun i hi => (laidS_zero _ _ _ L i).symm)⟩
  case round =>
    obtain ⟨k, hk, rfl, hbel, hrow⟩ := hrel
    have HB := Lib.hid hbel
    have HR := Lib.hid hrow
    clear hbel hrow
    have hg : w.heap.size < wr.heap.size := by
      obtain ⟨c, h1, _⟩ := HR.out
      exact (Array.getElem?_eq_some_iff.1 h1).1
    by_cases hlt : k < L.length
    · obtain ⟨b, off, rfl, hb, c0, c1⟩ := Cls.at_ (HA.out.below HB.out (Nat.le_refl _)) hlt
      have hlt' : (k : Int) < L.length := by omega
      have hk0 : (0 : Int) ≤ k := by omega
      generalize hT : L.getD k default = T at c0 c1
      have HT := Lib.hid (laidCellS_next L hT)
      clear hT
      go_wp2_with fail
      refine (toCell_calls T.1 T.2 _).mono ?_; rintro e w1 ⟨rfl, b1⟩
      have BX := Lib.hid (HB.out.trans (b1.mono HB.out.size))
      have hrow := rowS_below HR.out b1 hg
      have HR1 := Lib.hid hrow
      have e0 := hrow.cell (i := k * 2) (by omega)
      have f0 := hrow.frozen (k * 2)
      have e1 := hrow.cell (i := k * 2 + 1) (by omega)
      have f1 := hrow.frozen (k * 2 + 1)
      clear b1 hrow c0 c1
      go_wp2_with fail
      go_roundw
      case rel =>
        refine ⟨k + 1, by omega, by go_num, ((BX.out.setCell (Nat.le_refl _) _).setCell (Nat.le_refl _) _), ?_⟩
        exact (((HR1.out.set (k * 2) (.int .i64 T.1)).set (k * 2 + 1) (.int .i64 T.2))).congr (fun i hi => (HT.out i).symm)
      case measure => simp [intOf]; omega
    · have hk' : k = L.length := by omega
      subst hk'
      go_wp2_with fail
      go_ret
      exact ⟨rfl, HB.out, hg, HR.out⟩
theorem szSlot_calls (cnt mac : Int) (B C : Option Addr) (nt tc nc cc : Nat) (left : Int) (w : World) (h0 : 0 ≤ left) (h1 : left ≤ 1048576) (hn : nt ≤ maxLen) (hm : nc ≤ maxLen) :
    Calls Tryz.prog 174 #[.agg #[.int .i64 cnt, .slice B nt tc, .int .i64 mac, .slice C nc cc], .int .i64 left] w fun e w' => e = .returned (.int .i64 (if (nt : Int) + nc ≤ left then left - nt - nc else -1)) ∧ Below w.heap.size w w' := by
  have K0 := Lib.hid (show Kept w [(w.heap.size, 180, #[.int .i64 cnt, .slice B nt tc, .int .i64 mac, .slice C nc cc])] _ from (Kept.refl w).put1 _ _ #[.int .i64 cnt, .slice B nt tc, .int .i64 mac, .slice C nc cc] rfl)
  have S := Lib.hid (fun u => szSeal_calls cnt mac B nt tc left u h0 h1 hn)
  by_cases h : (nt : Int) ≤ left
  · rw [if_pos h] at S
    have h2 : ¬ left - nt < 0 := by omega
    have T := Lib.hid (fun u => szCellS_calls C nc cc (left - nt) u (by omega) (by omega) hm)
    by_cases h3 : (nt : Int) + nc ≤ left
    · rw [if_pos (by omega)] at T
      rw [if_pos h3]
      have h4 : ¬ left - nt - nc < 0 := by omega
      clear h h0 h1 hn hm h3
      go_enter Tryz.func174, Tryz.ntmps174
      go_wp2_with fail
      refine (S.out _).mono ?_; rintro e w1 ⟨rfl, b1⟩
      have h5 := K0.out.below b1
      clear b1 K0
      obtain ⟨kc0, kf0, -⟩ := h5.rd
      have H5 := Lib.hid h5
      clear h5
      go_wp2_with fail
      refine (T.out _).mono ?_; rintro e w' ⟨rfl, rfl⟩
      go_wp2_with fail
      go_ret
      exact ⟨rfl, H5.out.1⟩
    · rw [if_neg (by omega)] at T
      rw [if_neg h3]
      clear h h0 h1 hn hm h3
      go_enter Tryz.func174, Tryz.ntmps174
      go_wp2_with fail
      refine (S.out _).mono ?_; rintro e w1 ⟨rfl, b1⟩
      have h5 := K0.out.below b1
      clear b1 K0
      obtain ⟨kc0, kf0, -⟩ := h5.rd
      have H5 := Lib.hid h5
      clear h5
      go_wp2_with fail
      refine (T.out _).mono ?_; rintro e w' ⟨rfl, rfl⟩
      go_wp2_with fail
      go_ret
      exact ⟨rfl, H5.out.1⟩
  · rw [if_neg h] at S
    rw [if_neg (by omega)]
    clear h h0 h1 hn hm
    go_enter Tryz.func174, Tryz.ntmps174
    go_wp2_with fail
    refine (S.out _).mono ?_; rintro e w1 ⟨rfl, b1⟩
    have H5 := Lib.hid (K0.out.below b1)
    clear b1 K0
    go_wp2_with fail
    go_ret
    exact ⟨rfl, H5.out.1⟩
set_option maxRecDepth 20000 in
set_option maxHeartbeats 4000000 in
theorem eqSlot_same (cnt mac : Int) (B B' C C' : Option Addr) (L : List Tru) (M : List Ce) (tc tc' cc cc' : Nat) (w : World) (hn : L.length ≤ maxLen) (hm : M.length ≤ maxLen) (hB : Trs w w.heap.size B L) (hB' : Trs w w.heap.size B' L) (hC : Cls w w.heap.size C M) (hC' : Cls w w.heap.size C' M) :
    Calls Tryz.prog 182 #[.agg #[.int .i64 cnt, .slice B L.length tc, .int .i64 mac, .slice C M.length cc], .agg #[.int .i64 cnt, .slice B' L.length tc', .int .i64 mac, .slice C' M.length cc']] w fun e w' => e = .returned (.bool true) ∧ Below w.heap.size w w' := by
  have K0 := Lib.hid (show Kept w [(w.heap.size + 1, 91, #[.int .i64 cnt, .slice B' L.length tc', .int .i64 mac, .slice C' M.length cc']), (w.heap.size, 91, #[.int .i64 cnt, .slice B L.length tc, .int .i64 mac, .slice C M.length cc])] _ from (((Kept.refl w).put1 _ _ #[.int .i64 cnt, .slice B L.length tc, .int .i64 mac, .slice C M.length cc] rfl).put1 _ _ #[.int .i64 cnt, .slice B' L.length tc', .int .i64 mac, .slice C' M.length cc'] (by simp)))
  have E := Lib.hid (fun u (hb : Below w.heap.size w u) => eqSeal_same cnt mac B B' L tc tc' u hn ((hB.below hb (Nat.le_refl _)).more hb.size) ((hB'.below hb (Nat.le_refl _)).more hb.size))
  have G := Lib.hid (fun u (hb : Below w.heap.size w u) => eqCellS_same C C' M cc cc' u hm ((hC.below hb (Nat.le_refl _)).more hb.size) ((hC'.below hb (Nat.le_refl _)).more hb.size))
  clear hB hB' hC hC' hn hm
  go_enter Tryz.func182, Tryz.ntmps182
  go_wp2_with fail
  refine (E.out _ K0.out.1).mono ?_; rintro e w1 ⟨rfl, b1⟩
  have h1 := K0.out.below b1
  clear b1 K0 E
  obtain ⟨kc0, kf0, kc1, kf1, -⟩ := h1.rd
  have H1 := Lib.hid h1
  clear h1
  go_wp2_with fail
  refine (G.out _ H1.out.1).mono ?_; rintro e w2 ⟨rfl, b2⟩
  have H2 := Lib.hid (H1.out.below b2)
  clear b2 H1
  go_wp2_with fail
  go_ret
  exact ⟨rfl, H2.out.1⟩
end Go.Proofs.YteoijmejhdocdaaGreatDoor.Mx

import Derived.Test.YtgaecedhkbneaaaGreatDoorH07
import Derived.Deep.OwnRows
import Derived.Deep.RegionWith
import Derived.Test.YtgaecedhkbneaaaGreatDoorH06
import Derived.Test.YtgaecedhkbneaaaGreatDoorH02
import Derived.Great.BuildSlice
namespace Go.Proofs.YtgaecedhkbneaaaGreatDoor.Mx
open Go.ChangeShapes Go.WideShapes Go.ChangeAt Go.RowKit
set_option linter.unusedVariables false
section
variable {α : Type} [Inhabited α]
def laidS (enc : α → List Value) (z : List Value) (n : Nat) (L : List α) (k i : Nat) : Value := if i < k * n then ((enc (L.getD (i / n) default))[i % n]?).getD undef else (z[i % n]?).getD undef
theorem laidS_zero (enc : α → List Value) (z : List Value) (n : Nat) (L : List α) (i : Nat) : laidS enc z n L 0 i = (z[i % n]?).getD undef := by unfold laidS; rw [if_neg (by omega)]
theorem laidS_at {enc : α → List Value} {z : List Value} {n : Nat} (L : List α) {k i j : Nat} (hi : i < k) (hj : j < n) : laidS enc z n L k (i * n + j) = ((enc (L.getD i default))[j]?).getD undef := by
  have h1 : i * n + j < k * n := Nat.lt_of_lt_of_le (by omega : i * n + j < i * n + n) (by have := Nat.mul_le_mul_right n hi; rw [Nat.succ_mul] at this; exact this)
  have h2 : (i * n + j) / n = i := by rw [Nat.mul_comm, Nat.mul_add_div (by omega), Nat.div_eq_of_lt hj]; rfl
  have h3 : (i * n + j) % n = j := by rw [Nat.mul_comm, Nat.mul_add_mod, Nat.mod_eq_of_lt hj]
  unfold laidS
  rw [if_pos h1, h2, h3]
theorem laidS_off {enc : α → List Value} {z : List Value} {n : Nat} (L : List α) {k i : Nat} (h : ∀ j, j < n → i ≠ k * n + j) : laidS enc z n L (k + 1) i = laidS enc z n L k i := by
  unfold laidS
  by_cases h1 : i < k * n
  · rw [if_pos h1, if_pos (by rw [Nat.succ_mul]; omega)]
  · rw [if_neg h1, if_neg]
    rw [Nat.succ_mul]
    intro h2
    exact h (i - k * n) (by omega) (by omega)
end
theorem rowS_below {w w' : World} {B b t n : Nat} {f : Nat → Value} (h : w.rowIs b t n f) (hb : Below B w w') (hlt : b < B) : w'.rowIs b t n f := by
  obtain ⟨c, h1, h2, h3⟩ := h
  exact ⟨c, (hb.block b hlt).trans h1, h2, h3⟩
theorem szTrustS_calls (A : Option Addr) (n cap : Nat) (left : Int) (w : World) (h0 : 0 ≤ left) (h1 : left ≤ 1048576) (hn : n ≤ maxLen) :
    Calls Tryz.prog 71 #[.slice A n cap, .int .i64 left] w fun e w' => e = .returned (.int .i64 (if (n : Int) ≤ left then left - n else -1)) ∧ w = w' := by
  unfold maxLen at hn
  by_cases h : (n : Int) ≤ left
  · rw [if_pos h]
    have h2 : ¬ left - n < 0 := by omega
    go_enter Tryz.func71, Tryz.ntmps71
    go_wp2
    go_ret
    exact ⟨rfl, rfl⟩
  · rw [if_neg h]
    have h2 : left - n < 0 := by omega
    go_enter Tryz.func71, Tryz.ntmps71
    go_wp2
    go_ret
    exact ⟨rfl, rfl⟩
set_option maxHeartbeats 4000000 in
theorem eqTrustS_same (A C : Option Addr) (L : List Tru) (cap cap' : Nat) (w : World) (hn : L.length ≤ maxLen) (hA : Sls truV 8 w w.heap.size A L) (hC : Sls truV 8 w w.heap.size C L) :
    Calls Tryz.prog 79 #[.slice A L.length cap, .slice C L.length cap'] w fun e w' => e = .returned (.bool true) ∧ Below w.heap.size w w' := by
  have hm := hn
  unfold maxLen at hm
  have HA := Lib.hid hA
  have HC := Lib.hid hC
  clear hA hC hn
  go_enter Tryz.func79, Tryz.ntmps79
  go_wp2_with fail
  go_loopw [5] (fun i wr => ∃ k : Nat, k ≤ L.length ∧ i = .int .i64 k ∧ Below w.heap.size w wr) (fun i _ => L.length - (intOf i).toNat)
  case atStart => exact ⟨0, Nat.zero_le _, rfl, Below.refl _ _⟩
  case round =>
    obtain ⟨k, hk, rfl, hbel⟩ := hrel
    have HB := Lib.hid hbel
    clear hbel
    by_cases hlt : k < L.length
    · obtain ⟨b, off, rfl, hb, c0, c1, c2, c3, c4, c5, c6, c7⟩ := Trs.at_ (HA.out.below HB.out.drew (Nat.le_refl _)) hlt
      obtain ⟨b', off', rfl, hb', d0, d1, d2, d3, d4, d5, d6, d7⟩ := Trs.at_ (HC.out.below HB.out.drew (Nat.le_refl _)) hlt
      have hlt' : (k : Int) < L.length := by omega
      have hk0 : (0 : Int) ≤ k := by omega
      generalize L.getD k default = T at c0 c1 c2 c3 c4 c5 c6 c7 d0 d1 d2 d3 d4 d5 d6 d7
      go_wp2_with fail
      go_region_with (go_at_call 142; refine (eqTrust_same T.clock T.epoch T.cursor T.read T.written T.nread T.nwritten T.failed _).mono ?_; rintro e wx ⟨rfl, bx⟩)
      all_goals
        have BX := Lib.hid (HB.out.drew.trans (bx.mono HB.out.drew.size))
        clear bx c0 c1 c2 c3 c4 c5 c6 c7 d0 d1 d2 d3 d4 d5 d6 d7
        go_wp2_with fail
        go_roundw
        case rel => exact ⟨k + 1, by omega, by go_num, BX.out⟩
        case measure => simp [intOf]; omega
    · go_wp2_with fail
      go_ret
      exact ⟨rfl, HB.out⟩
theorem laidTrustS_next (L : List Tru) {k : Nat} {T : Tru} (h : L.getD k default = T) (i : Nat) :
    laidS truV [.int .i64 0, .int .i64 0, .int .i64 0, .int .i64 0, .int .i64 0, .int .i64 0, .int .i64 0, .bool false] 8 L (k + 1) i = if i = k * 8 + 7 then .bool T.failed else if i = k * 8 + 6 then .int .i64 T.nwritten else if i = k * 8 + 5 then .int .i64 T.nread else if i = k * 8 + 4 then .int .i64 T.written else if i = k * 8 + 3 then .int .i64 T.read else if i = k * 8 + 2 then .int .i64 T.cursor else if i = k * 8 + 1 then .int .i64 T.epoch else if i = k * 8 then .int .i64 T.clock else laidS truV [.int .i64 0, .int .i64 0, .int .i64 0, .int .i64 0, .int .i64 0, .int .i64 0, .int .i64 0, .bool false] 8 L k i := by
  by_cases h7 : i = k * 8 + 7
  · subst h7; rw [if_pos rfl, laidS_at L (by omega) (by omega), h]; rfl
  · rw [if_neg h7]
    by_cases h6 : i = k * 8 + 6
    · subst h6; rw [if_pos rfl, laidS_at L (by omega) (by omega), h]; rfl
    · rw [if_neg h6]
      by_cases h5 : i = k * 8 + 5
      · subst h5; rw [if_pos rfl, laidS_at L (by omega) (by omega), h]; rfl
      · rw [if_neg h5]
        by_cases h4 : i = k * 8 + 4
        · subst h4; rw [if_pos rfl, laidS_at L (by omega) (by omega), h]; rfl
        · rw [if_neg h4]
          by_cases h3 : i = k * 8 + 3
          · subst h3; rw [if_pos rfl, laidS_at L (by omega) (by omega), h]; rfl
          · rw [if_neg h3]
            by_cases h2 : i = k * 8 + 2
            · subst h2; rw [if_pos rfl, laidS_at L (by omega) (by omega), h]; rfl
            · rw [if_neg h2]
              by_cases h1 : i = k * 8 + 1
              · subst h1; rw [if_pos rfl, laidS_at L (by omega) (by omega), h]; rfl
              · rw [if_neg h1]
                by_cases h0 : i = k * 8
                · subst h0; rw [if_pos rfl, show k * 8 = k * 8 + 0 from rfl, laidS_at L (by omega) (by omega), h]; rfl
                · rw [if_neg h0]
                  exact laidS_off L (fun j hj e => by omega)
theorem made_TrustS (w : World) (n : Nat) : (w.alloc (.cells (madeCells (Value.agg #[.int .i64 0, .int .i64 0, .int .i64 0, .int .i64 0, .int .i64 0, .int .i64 0, .int .i64 0, .bool false]).cells (n * 8)) 80)).rowIs w.heap.size 80 (n * 8) (fun i => (([.int .i64 0, .int .i64 0, .int .i64 0, .int .i64 0, .int .i64 0, .int .i64 0, .int .i64 0, .bool false] : List Value)[i % 8]?).getD undef) := by
  refine ⟨_, CellsAt.new w _ _, size_madeCells _ _, fun i hi => ?_⟩
  have hz : (Value.agg #[.int .i64 0, .int .i64 0, .int .i64 0, .int .i64 0, .int .i64 0, .int .i64 0, .int .i64 0, .bool false]).cells = #[.int .i64 0, .int .i64 0, .int .i64 0, .int .i64 0, .int .i64 0, .int .i64 0, .int .i64 0, .bool false] := rfl
  have h3 : i % 8 = 0 ∨ i % 8 = 1 ∨ i % 8 = 2 ∨ i % 8 = 3 ∨ i % 8 = 4 ∨ i % 8 = 5 ∨ i % 8 = 6 ∨ i % 8 = 7 := by omega
  simp [madeCells, hz, hi]
  rcases h3 with h | h | h | h | h | h | h | h <;> simp [h]
theorem make_TrustS (n : Nat) (hn : n ≤ 1048576) (w : World) :
    (Instr.makeSlice 27 (.int .i64 (n : Int)) (.int .i64 (n : Int))).run Tryz.prog w = .ok (.slice (some ⟨w.heap.size, 0, none⟩) n n) (w.alloc (.cells (madeCells (Value.agg #[.int .i64 0, .int .i64 0, .int .i64 0, .int .i64 0, .int .i64 0, .int .i64 0, .int .i64 0, .bool false]).cells (n * 8)) 80)) := by
  obtain ⟨i, hi, hzz⟩ := Option.map_eq_some_iff.1 info_tru
  simp only [Prod.mk.injEq] at hzz
  obtain ⟨hz, hs, hb⟩ := hzz
  have hr := run_make (P := Tryz.prog) w 27 80 i _ Tryz.underlying27 hi hz .i64 .i64 n n (by omega) (Int.le_refl _) (by rw [hb]; omega) (by omega)
  simp only [Int.toNat_natCast, hs] at hr
  exact hr
theorem sls_TrustS {w : World} {g ty : Nat} {L : List Tru} (h : w.rowIs g ty (L.length * 8) (laidS truV [.int .i64 0, .int .i64 0, .int .i64 0, .int .i64 0, .int .i64 0, .int .i64 0, .int .i64 0, .bool false] 8 L L.length)) : Sls truV 8 w (g + 1) (some ⟨g, 0, none⟩) L := by
  intro i hi
  refine ⟨g, 0, rfl, by omega, fun j hj => ?_⟩
  have hlt : i * 8 + j < L.length * 8 := by omega
  rw [Nat.zero_add, h.cell hlt, laidS_at L hi hj]
  obtain ⟨v, hv⟩ : ∃ v, (truV (L.getD i default))[j]? = some v := ⟨_, List.getElem?_eq_getElem (show j < (truV (L.getD i default)).length by rw [truV_len]; exact hj)⟩
  rw [hv]; rfl
set_option maxHeartbeats 4000000 in
theorem toTrustS_calls (A : Option Addr) (L : List Tru) (cap : Nat) (w : World) (hn : L.length ≤ 1048576) (hA : Sls truV 8 w w.heap.size A L) :
    Calls Tryz.prog 75 #[.slice A L.length cap] w fun e w' => e = .returned (.slice (some ⟨w.heap.size, 0, none⟩) L.length L.length) ∧ Below w.heap.size w w' ∧ w.heap.size < w'.heap.size ∧ w'.rowIs w.heap.size 80 (L.length * 8) (laidS truV [.int .i64 0, .int .i64 0, .int .i64 0, .int .i64 0, .int .i64 0, .int .i64 0, .int .i64 0, .bool false] 8 L L.length) := by
  have hmk := make_TrustS L.length hn
  have HA := Lib.hid hA
  clear hA
  go_enter Tryz.func75, Tryz.ntmps75
  go_wp2_with fail
  clear hmk
  go_loopw [4] (fun i wr => ∃ k : Nat, k ≤ L.length ∧ i = .int .i64 k ∧ Below w.heap.size w wr ∧ wr.rowIs w.heap.size 80 (L.length * 8) (laidS truV [.int .i64 0, .int .i64 0, .int .i64 0, .int .i64 0, .int .i64 0, .int .i64 0, .int .i64 0, .bool false] 8 L k)) (fun i _ => L.length - (intOf i).toNat)
  case atStart =>
    exact ⟨0, Nat.zero_le _, rfl, (Below.refl _ _).alloc (Nat.le_refl _) _, (made_TrustS w L.length).congr (fun i hi => (laidS_zero _ _ _ L i).symm)⟩
  case round =>
    obtain ⟨k, hk, rfl, hbel, hrow⟩ := hrel
    have HB := Lib.hid hbel
    have HR := Lib.hid hrow
    clear hbel hrow
    have hg : w.heap.size < wr.heap.size := by
      obtain ⟨c, h1, _⟩ := HR.out
      exact (Array.getElem?_eq_some_iff.1 h1).1
    by_cases hlt : k < L.length
    · obtain ⟨b, off, rfl, hb, c0, c1, c2, c3, c4, c5, c6, c7⟩ := Trs.at_ (HA.out.below HB.out (Nat.le_refl _)) hlt
      have hlt' : (k : Int) < L.length := by omega
      have hk0 : (0 : Int) ≤ k := by omega
      generalize hT : L.getD k default = T at c0 c1 c2 c3 c4 c5 c6 c7
      have HT := Lib.hid (laidTrustS_next L hT)
      clear hT
      go_wp2_with fail
      refine (toTrust_calls T.clock T.epoch T.cursor T.read T.written T.nread T.nwritten T.failed _).mono ?_; rintro e w1 ⟨rfl, b1⟩
      have BX := Lib.hid (HB.out.trans (b1.mono HB.out.size))
      have hrow := rowS_below HR.out b1 hg
      have HR1 := Lib.hid hrow
      have e0 := hrow.cell (i := k * 8) (by omega)
      have f0 := hrow.frozen (k * 8)
      have e1 := hrow.cell (i := k * 8 + 1) (by omega)
      have f1 := hrow.frozen (k * 8 + 1)
      have e2 := hrow.cell (i := k * 8 + 2) (by omega)
      have f2 := hrow.frozen (k * 8 + 2)
      have e3 := hrow.cell (i := k * 8 + 3) (by omega)
      have f3 := hrow.frozen (k * 8 + 3)
      have e4 := hrow.cell (i := k * 8 + 4) (by omega)
      have f4 := hrow.frozen (k * 8 + 4)
      have e5 := hrow.cell (i := k * 8 + 5) (by omega)
      have f5 := hrow.frozen (k * 8 + 5)
      have e6 := hrow.cell (i := k * 8 + 6) (by omega)
      have f6 := hrow.frozen (k * 8 + 6)
      have e7 := hrow.cell (i := k * 8 + 7) (by omega)
      have f7 := hrow.frozen (k * 8 + 7)
      clear b1 hrow c0 c1 c2 c3 c4 c5 c6 c7
      go_wp2_with fail
      go_roundw
      case rel =>
        refine ⟨k + 1, by omega, by go_num, ((((((((BX.out.setCell (Nat.le_refl _) _).setCell (Nat.le_refl _) _).setCell (Nat.le_refl _) _).setCell (Nat.le_refl _) _).setCell (Nat.le_refl _) _).setCell (Nat.le_refl _) _).setCell (Nat.le_refl _) _).setCell (Nat.le_refl _) _), ?_⟩
        exact (((((((((HR1.out.set (k * 8) (.int .i64 T.clock)).set (k * 8 + 1) (.int .i64 T.epoch)).set (k * 8 + 2) (.int .i64 T.cursor)).set (k * 8 + 3) (.int .i64 T.read)).set (k * 8 + 4) (.int .i64 T.written)).set (k * 8 + 5) (.int .i64 T.nread)).set (k * 8 + 6) (.int .i64 T.nwritten)).set (k * 8 + 7) (.bool T.failed))).congr (fun i hi => (HT.out i).symm)
      case measure => simp [intOf]; omega
    · have hk' : k = L.length := by omega
      subst hk'
      go_wp2_with fail
      go_ret
      exact ⟨rfl, HB.out, hg, HR.out⟩
def MarkT (w : World) (g n : Nat) (m : Int) : Prop := ∀ j, j < n → w.cell? ⟨g, j * 8, none⟩ = some (.int .i64 (m + 8 * j)) ∧ w.cell? ⟨g, j * 8 + 1, none⟩ = some (.int .i64 (m + 8 * j + 1)) ∧ w.cell? ⟨g, j * 8 + 2, none⟩ = some (.int .i64 (m + 8 * j + 2)) ∧ w.cell? ⟨g, j * 8 + 3, none⟩ = some (.int .i64 (m + 8 * j + 3)) ∧ w.cell? ⟨g, j * 8 + 4, none⟩ = some (.int .i64 (m + 8 * j + 4)) ∧ w.cell? ⟨g, j * 8 + 5, none⟩ = some (.int .i64 (m + 8 * j + 5)) ∧ w.cell? ⟨g, j * 8 + 6, none⟩ = some (.int .i64 (m + 8 * j + 6)) ∧ w.cell? ⟨g, j * 8 + 7, none⟩ = some (.bool ((m + 8 * j + 7) % 3 == 0))
theorem MarkT.block {w u : World} {g n : Nat} {m : Int} (h : MarkT w g n m) (hb : u.heap[g]? = w.heap[g]?) : MarkT u g n m := by
  have f : ∀ o, u.cell? ⟨g, o, none⟩ = w.cell? ⟨g, o, none⟩ := fun o => by simp [World.cell?, hb]
  intro j hj
  obtain ⟨h0, h1, h2, h3, h4, h5, h6, h7⟩ := h j hj
  exact ⟨(f _).trans h0, (f _).trans h1, (f _).trans h2, (f _).trans h3, (f _).trans h4, (f _).trans h5, (f _).trans h6, (f _).trans h7⟩
theorem set8_off (ds : Array Value) (b i : Nat) (v0 v1 v2 v3 v4 v5 v6 v7 : Value) (h : i < b) : ((((((((ds.setIfInBounds (b) v0).setIfInBounds (b + 1) v1).setIfInBounds (b + 2) v2).setIfInBounds (b + 3) v3).setIfInBounds (b + 4) v4).setIfInBounds (b + 5) v5).setIfInBounds (b + 6) v6).setIfInBounds (b + 7) v7)[i]? = ds[i]? := by
  rw [Array.getElem?_setIfInBounds_ne (by omega), Array.getElem?_setIfInBounds_ne (by omega), Array.getElem?_setIfInBounds_ne (by omega), Array.getElem?_setIfInBounds_ne (by omega), Array.getElem?_setIfInBounds_ne (by omega), Array.getElem?_setIfInBounds_ne (by omega), Array.getElem?_setIfInBounds_ne (by omega), Array.getElem?_setIfInBounds_ne (by omega)]
theorem set8_at0 (ds : Array Value) (b : Nat) (v0 v1 v2 v3 v4 v5 v6 v7 : Value) (h : b + 8 ≤ ds.size) : ((((((((ds.setIfInBounds (b) v0).setIfInBounds (b + 1) v1).setIfInBounds (b + 2) v2).setIfInBounds (b + 3) v3).setIfInBounds (b + 4) v4).setIfInBounds (b + 5) v5).setIfInBounds (b + 6) v6).setIfInBounds (b + 7) v7)[b]? = some v0 := by
  rw [Array.getElem?_setIfInBounds_ne (by omega), Array.getElem?_setIfInBounds_ne (by omega), Array.getElem?_setIfInBounds_ne (by omega), Array.getElem?_setIfInBounds_ne (by omega), Array.getElem?_setIfInBounds_ne (by omega), Array.getElem?_setIfInBounds_ne (by omega), Array.getElem?_setIfInBounds_ne (by omega), Array.getElem?_setIfInBounds_self_of_lt (by omega)]
theorem set8_at1 (ds : Array Value) (b : Nat) (v0 v1 v2 v3 v4 v5 v6 v7 : Value) (h : b + 8 ≤ ds.size) : ((((((((ds.setIfInBounds (b) v0).setIfInBounds (b + 1) v1).setIfInBounds (b + 2) v2).setIfInBounds (b + 3) v3).setIfInBounds (b + 4) v4).setIfInBounds (b + 5) v5).setIfInBounds (b + 6) v6).setIfInBounds (b + 7) v7)[b + 1]? = some v1 := by
  rw [Array.getElem?_setIfInBounds_ne (by omega), Array.getElem?_setIfInBounds_ne (by omega), Array.getElem?_setIfInBounds_ne (by omega), Array.getElem?_setIfInBounds_ne (by omega), Array.getElem?_setIfInBounds_ne (by omega), Array.getElem?_setIfInBounds_ne (by omega), Array.getElem?_setIfInBounds_self_of_lt (by simp only [Array.size_setIfInBounds]; omega)]
theorem set8_at2 (ds : Array Value) (b : Nat) (v0 v1 v2 v3 v4 v5 v6 v7 : Value) (h : b + 8 ≤ ds.size) : ((((((((ds.setIfInBounds (b) v0).setIfInBounds (b + 1) v1).setIfInBounds (b + 2) v2).setIfInBounds (b + 3) v3).setIfInBounds (b + 4) v4).setIfInBounds (b + 5) v5).setIfInBounds (b + 6) v6).setIfInBounds (b + 7) v7)[b + 2]? = some v2 := by
  rw [Array.getElem?_setIfInBounds_ne (by omega), Array.getElem?_setIfInBounds_ne (by omega), Array.getElem?_setIfInBounds_ne (by omega), Array.getElem?_setIfInBounds_ne (by omega), Array.getElem?_setIfInBounds_ne (by omega), Array.getElem?_setIfInBounds_self_of_lt (by simp only [Array.size_setIfInBounds]; omega)]
theorem set8_at3 (ds : Array Value) (b : Nat) (v0 v1 v2 v3 v4 v5 v6 v7 : Value) (h : b + 8 ≤ ds.size) : ((((((((ds.setIfInBounds (b) v0).setIfInBounds (b + 1) v1).setIfInBounds (b + 2) v2).setIfInBounds (b + 3) v3).setIfInBounds (b + 4) v4).setIfInBounds (b + 5) v5).setIfInBounds (b + 6) v6).setIfInBounds (b + 7) v7)[b + 3]? = some v3 := by
  rw [Array.getElem?_setIfInBounds_ne (by omega), Array.getElem?_setIfInBounds_ne (by omega), Array.getElem?_setIfInBounds_ne (by omega), Array.getElem?_setIfInBounds_ne (by omega), Array.getElem?_setIfInBounds_self_of_lt (by simp only [Array.size_setIfInBounds]; omega)]
theorem set8_at4 (ds : Array Value) (b : Nat) (v0 v1 v2 v3 v4 v5 v6 v7 : Value) (h : b + 8 ≤ ds.size) : ((((((((ds.setIfInBounds (b) v0).setIfInBounds (b + 1) v1).setIfInBounds (b + 2) v2).setIfInBounds (b + 3) v3).setIfInBounds (b + 4) v4).setIfInBounds (b + 5) v5).setIfInBounds (b + 6) v6).setIfInBounds (b + 7) v7)[b + 4]? = some v4 := by
  rw [Array.getElem?_setIfInBounds_ne (by omega), Array.getElem?_setIfInBounds_ne (by omega), Array.getElem?_setIfInBounds_ne (by omega), Array.getElem?_setIfInBounds_self_of_lt (by simp only [Array.size_setIfInBounds]; omega)]
theorem set8_at5 (ds : Array Value) (b : Nat) (v0 v1 v2 v3 v4 v5 v6 v7 : Value) (h : b + 8 ≤ ds.size) : ((((((((ds.setIfInBounds (b) v0).setIfInBounds (b + 1) v1).setIfInBounds (b + 2) v2).setIfInBounds (b + 3) v3).setIfInBounds (b + 4) v4).setIfInBounds (b + 5) v5).setIfInBounds (b + 6) v6).setIfInBounds (b + 7) v7)[b + 5]? = some v5 := by
  rw [Array.getElem?_setIfInBounds_ne (by omega), Array.getElem?_setIfInBounds_ne (by omega), Array.getElem?_setIfInBounds_self_of_lt (by simp only [Array.size_setIfInBounds]; omega)]
theorem set8_at6 (ds : Array Value) (b : Nat) (v0 v1 v2 v3 v4 v5 v6 v7 : Value) (h : b + 8 ≤ ds.size) : ((((((((ds.setIfInBounds (b) v0).setIfInBounds (b + 1) v1).setIfInBounds (b + 2) v2).setIfInBounds (b + 3) v3).setIfInBounds (b + 4) v4).setIfInBounds (b + 5) v5).setIfInBounds (b + 6) v6).setIfInBounds (b + 7) v7)[b + 6]? = some v6 := by
  rw [Array.getElem?_setIfInBounds_ne (by omega), Array.getElem?_setIfInBounds_self_of_lt (by simp only [Array.size_setIfInBounds]; omega)]
theorem set8_at7 (ds : Array Value) (b : Nat) (v0 v1 v2 v3 v4 v5 v6 v7 : Value) (h : b + 8 ≤ ds.size) : ((((((((ds.setIfInBounds (b) v0).setIfInBounds (b + 1) v1).setIfInBounds (b + 2) v2).setIfInBounds (b + 3) v3).setIfInBounds (b + 4) v4).setIfInBounds (b + 5) v5).setIfInBounds (b + 6) v6).setIfInBounds (b + 7) v7)[b + 7]? = some v7 := by
  rw [Array.getElem?_setIfInBounds_self_of_lt (by simp only [Array.size_setIfInBounds]; omega)]
theorem markTrustS_nil (A : Option Addr) (c : Nat) (m : Int) (w : World) : Calls Tryz.prog 83 #[.slice A 0 c, .int .i64 m] w fun e w' => e = .returned (.int .i64 m) ∧ w = w' := by
  go_enter Tryz.func83, Tryz.ntmps83
  go_wp2_with fail
  go_loop [5, 1] (fun i t => i = .int .i64 0 ∧ t = .int .i64 m) (fun _ _ => 0)
  case atStart => exact ⟨rfl, rfl⟩
  case round =>
    obtain ⟨rfl, rfl⟩ := hrel
    go_wp2_with fail
    go_ret
    exact ⟨rfl, rfl⟩
theorem heldTrustS_nil (A : Option Addr) (c : Nat) (m : Int) (w : World) : Calls Tryz.prog 87 #[.slice A 0 c, .int .i64 m] w fun e w' => e = .returned (.int .i64 m) ∧ w = w' := by
  go_enter Tryz.func87, Tryz.ntmps87
  go_wp2_with fail
  go_loop [5, 1] (fun i t => i = .int .i64 0 ∧ t = .int .i64 m) (fun _ _ => 0)
  case atStart => exact ⟨rfl, rfl⟩
  case round =>
    obtain ⟨rfl, rfl⟩ := hrel
    go_wp2_with fail
    go_ret
    exact ⟨rfl, rfl⟩
def TruI (t : Tru) : Prop := I64 t.clock ∧ I64 t.epoch ∧ I64 t.cursor ∧ I64 t.read ∧ I64 t.written ∧ I64 t.nread ∧ I64 t.nwritten
def TrusI (L : List Tru) : Prop := ∀ i, i < L.length → TruI (L.getD i default)
theorem Kept.grownO {b w w' : World} {L : List Box} {r : Option Nat} (h : Kept b L w) (hg : w.grownBy w' r) (hr : ∀ k, r = some k → b.heap.size ≤ k ∧ ∀ x ∈ L, x.1 ≠ k) : Kept b L w' :=
  ⟨h.1.trans ((gr_below (B := b.heap.size) hg h.1.size (fun k hk => (hr k hk).1))), fun x hx => ⟨(h.2 x hx).1, (h.2 x hx).2.grown hg (by intro e; exact (hr x.1 e.symm).2 x hx rfl)⟩⟩
def CelAt (w : World) (b off : Nat) (t : Ce) : Prop := w.cell? ⟨b, off, none⟩ = some (.int .i64 t.1) ∧ w.cell? ⟨b, off + 1, none⟩ = some (.int .i64 t.2)
theorem CelAt.below {w u : World} {B b off : Nat} {t : Ce} (h : CelAt w b off t) (hb : Below B w u) (hlt : b < B) : CelAt u b off t := by
  have f := fun o => hb.cell (p := ⟨b, o, none⟩) hlt
  exact ⟨(f _).trans h.1, (f _).trans h.2⟩
theorem Cls.at_ {w : World} {B : Nat} {A : Option Addr} {L : List Ce} {k : Nat} (h : Cls w B A L) (hk : k < L.length) : ∃ b off, A = some ⟨b, off, none⟩ ∧ b < B ∧ CelAt w b (off + k * 2) (L.getD k default) := by
  obtain ⟨b, off, e, hb, hc⟩ := h k hk
  exact ⟨b, off, e, hb, hc 0 (by omega), hc 1 (by omega)⟩
def cellsOk (key : Int) (l : List Int) (L : List Ce) : Prop := (∀ i, i < L.length → isCell (L.getD i default).1 (L.getD i default).2) ∧ (L.length : Int) = sectorsOf key l
open Classical in
noncomputable def cellsB (key : Int) (l : List Int) (L : List Ce) : Bool := decide (cellsOk key l L)
open Classical in
theorem cellsB_yes {key : Int} {l : List Int} {L : List Ce} (h : cellsOk key l L) : cellsB key l L = true := by unfold cellsB; exact decide_eq_true h
open Classical in
theorem cellsB_no {key : Int} {l : List Int} {L : List Ce} (h : ¬ cellsOk key l L) : cellsB key l L = false := by unfold cellsB; exact decide_eq_false h
def UpToCell (L : List Ce) (k : Nat) : Prop := ∀ i, i < k → isCell (L.getD i default).1 (L.getD i default).2
set_option maxRecDepth 20000 in
set_option maxHeartbeats 4000000 in
theorem l11Cells_calls (key : Int) (A C : Option Addr) (l : List Int) (cap : Nat) (L : List Ce) (cap2 : Nat) (w : World) (hn : l.length ≤ maxLen) (hA : Ints w .i64 w.heap.size A l) (hN : L.length ≤ maxLen) (hC : Cls w w.heap.size C L) :
    Calls Tryz.prog 67 #[.agg (pA key A l.length cap), .slice C L.length cap2] w fun e w' => e = .returned (.bool (cellsB key l L)) ∧ Below w.heap.size w w' := by
  have K0 := Lib.hid (show Kept w [(w.heap.size, 26, (pA key A l.length cap))] _ from (Kept.refl w).put1 _ _ (pA key A l.length cap) rfl)
  have PO := Lib.hid (fun (u : World) (hb : Below w.heap.size w u) => specSectors_calls key A l cap u hn ((hA.below hb (Nat.le_refl _)).more hb.size))
  have TO := Lib.hid (fun (t : Ce) (u : World) => specCellOk_calls t.1 t.2 u)
  have HC := Lib.hid hC
  have hm := hN
  unfold maxLen at hm
  clear hA hC hN hn
  go_enter Tryz.func67, Tryz.ntmps67
  go_wp2_with fail
  go_loopw [5] (fun i wr => ∃ k : Nat, k ≤ L.length ∧ i = .int .i64 k ∧ UpToCell L k ∧ Kept w [(w.heap.size, 26, (pA key A l.length cap))] wr) (fun i _ => L.length - (intOf i).toNat)
  case atStart => exact ⟨0, Nat.zero_le _, rfl, fun i hi => absurd hi (by omega), K0.out⟩
  case round =>
    obtain ⟨k, hk, rfl, hup, hz⟩ := hrel
    have HU := Lib.hid hup
    clear hup
    by_cases hlt : k < L.length
    · obtain ⟨b, off, rfl, hb, hc⟩ := HC.out.at_ hlt
      have hlt' : (k : Int) < L.length := by omega
      have hk0 : (0 : Int) ≤ k := by omega
      have TB := Lib.hid (TO.out (L.getD k default))
      obtain ⟨c0, c1⟩ := hc.below hz.1 hb
      by_cases hok : isCell (L.getD k default).1 (L.getD k default).2
      · have NX := Lib.hid (show UpToCell L (k + 1) from fun i hi => by
          rcases Nat.lt_or_ge i k with h | h
          · exact HU.out i h
          · obtain rfl : i = k := by omega
            exact hok)
        rw [decide_eq_true hok] at TB
        clear hok HU
        generalize L.getD k default = t at hc TB c0 c1
        go_wp2_with fail
        refine (TB.out _).mono ?_; rintro e w1 ⟨rfl, b1⟩
        have h1 := hz.below b1
        clear b1 hz c0 c1
        go_wp2_with fail
        go_roundw
        case rel => exact ⟨k + 1, by omega, by go_num, NX.out, h1⟩
        case measure => simp [intOf]; omega
      · rw [decide_eq_false hok] at TB
        have HX := Lib.hid (cellsB_no (l := l) (L := L) (key := key) (fun h => hok (h.1 k hlt)))
        clear hok HU
        generalize L.getD k default = t at hc TB c0 c1
        go_wp2_with fail
        refine (TB.out _).mono ?_; rintro e w1 ⟨rfl, b1⟩
        have h1 := hz.below b1
        clear b1 hz c0 c1
        go_wp2_with fail
        go_ret
        exact ⟨by rw [HX.out]; rfl, h1.1⟩
    · have hk' : k = L.length := by omega
      subst hk'
      have PB := PO
      by_cases hs : (L.length : Int) = sectorsOf key l
      · have HX := Lib.hid (cellsB_yes (show cellsOk key l L from ⟨HU.out, hs⟩))
        have hbl : ((L.length : Int) == sectorsOf key l) = true := beq_iff_eq.2 hs
        generalize sectorsOf key l = ss at PB hbl
        clear hs
        obtain ⟨kc0, kf0, -⟩ := hz.rd
        go_wp2_with fail
        refine (PB.out _ hz.1).mono ?_; rintro e w1 ⟨rfl, b1⟩
        have h1 := hz.below b1
        clear b1 hz kc0 kf0
        go_wp2_with fail
        go_ret
        exact ⟨by rw [HX.out]; rfl, h1.1⟩
      · have HX := Lib.hid (cellsB_no (show ¬ cellsOk key l L from fun h => hs h.2))
        have hbl : ((L.length : Int) == sectorsOf key l) = false := beq_false_of_ne hs
        generalize sectorsOf key l = ss at PB hbl
        clear hs
        obtain ⟨kc0, kf0, -⟩ := hz.rd
        go_wp2_with fail
        refine (PB.out _ hz.1).mono ?_; rintro e w1 ⟨rfl, b1⟩
        have h1 := hz.below b1
        clear b1 hz kc0 kf0
        go_wp2_with fail
        go_ret
        exact ⟨by rw [HX.out]; rfl, h1.1⟩
noncomputable def fitB (key : Int) (l : List Int) (L : List Tru) (M : List Ce) : Bool := (decide (M.length = 0) || cellsB key l M) && decide (L.length ≤ 4)
set_option maxRecDepth 20000 in
set_option maxHeartbeats 2000000 in
theorem l12Slot_calls (key : Int) (A : Option Addr) (l : List Int) (cap : Nat) (cnt : Int) (B : Option Addr) (L : List Tru) (tc : Nat) (mac : Int) (C : Option Addr) (M : List Ce) (cc : Nat) (w : World) (hn : l.length ≤ maxLen) (hA : Ints w .i64 w.heap.size A l) (hN : L.length ≤ 1048576) (hM : M.length ≤ 1048576) (hC : Cls w w.heap.size C M) :
    Calls Tryz.prog 68 #[.agg (pA key A l.length cap), .agg #[.int .i64 cnt, .slice B L.length tc, .int .i64 mac, .slice C M.length cc]] w fun e w' => e = .returned (.bool (fitB key l L M)) ∧ Below w.heap.size w w' := by
  have K0 := Lib.hid (show Kept w [(w.heap.size + 1, 77, #[.int .i64 cnt, .slice B L.length tc, .int .i64 mac, .slice C M.length cc]), (w.heap.size, 26, (pA key A l.length cap))] _ from (((Kept.refl w).put1 _ _ (pA key A l.length cap) rfl).put1 _ _ #[.int .i64 cnt, .slice B L.length tc, .int .i64 mac, .slice C M.length cc] (by simp)))
  have CL := Lib.hid (fun (u : World) (hb : Below w.heap.size w u) => l11Cells_calls key A C l cap M cc u hn ((hA.below hb (Nat.le_refl _)).more hb.size) (by unfold maxLen; omega) ((hC.below hb (Nat.le_refl _)).more hb.size))
  clear hA hn hC
  unfold fitB
  generalize cellsB key l M = co at CL ⊢
  by_cases hz : M.length = 0
  · rw [decide_eq_true hz, Bool.true_or, Bool.true_and]
    have b0 : ((M.length : Int) == 0) = true := beq_iff_eq.2 (by omega)
    have b1 : (M.length == 0) = true := beq_iff_eq.2 hz
    clear hz CL
    by_cases h4 : L.length ≤ 4
    · have d4 : decide ((L.length : Int) ≤ 4) = true := decide_eq_true (by omega)
      rw [decide_eq_true h4]
      clear h4
      go_enter Tryz.func68, Tryz.ntmps68
      go_wp2_with fail
      go_ret
      exact ⟨rfl, K0.out.1⟩
    · have d4 : decide ((L.length : Int) ≤ 4) = false := decide_eq_false (by omega)
      rw [decide_eq_false h4]
      clear h4
      go_enter Tryz.func68, Tryz.ntmps68
      go_wp2_with fail
      go_ret
      exact ⟨rfl, K0.out.1⟩
  · rw [decide_eq_false hz, Bool.false_or]
    have b0 : ((M.length : Int) == 0) = false := beq_false_of_ne (by omega)
    have b1 : (M.length == 0) = false := beq_false_of_ne hz
    clear hz
    cases co with
    | false =>
      rw [Bool.false_and]
      go_enter Tryz.func68, Tryz.ntmps68
      go_wp2_with fail
      refine (CL.out _ K0.out.1).mono ?_; rintro e uz1 ⟨rfl, bz2⟩
      have hz3 := K0.out.below bz2
      clear bz2
      obtain ⟨kc0, kf0, kc1, kf1, -⟩ := hz3.rd
      go_wp2_with fail
      go_ret
      exact ⟨rfl, hz3.1⟩
    | true =>
      rw [Bool.true_and]
      by_cases h4 : L.length ≤ 4
      · have d4 : decide ((L.length : Int) ≤ 4) = true := decide_eq_true (by omega)
        rw [decide_eq_true h4]
        clear h4
        go_enter Tryz.func68, Tryz.ntmps68
        go_wp2_with fail
        refine (CL.out _ K0.out.1).mono ?_; rintro e uz1 ⟨rfl, bz2⟩
        have hz3 := K0.out.below bz2
        clear bz2
        obtain ⟨kc0, kf0, kc1, kf1, -⟩ := hz3.rd
        go_wp2_with fail
        go_ret
        exact ⟨rfl, hz3.1⟩
      · have d4 : decide ((L.length : Int) ≤ 4) = false := decide_eq_false (by omega)
        rw [decide_eq_false h4]
        clear h4
        go_enter Tryz.func68, Tryz.ntmps68
        go_wp2_with fail
        refine (CL.out _ K0.out.1).mono ?_; rintro e uz1 ⟨rfl, bz2⟩
        have hz3 := K0.out.below bz2
        clear bz2
        obtain ⟨kc0, kf0, kc1, kf1, -⟩ := hz3.rd
        go_wp2_with fail
        go_ret
        exact ⟨rfl, hz3.1⟩
structure SlN where
  count : Int
  trusts : List Tru
  mac : Int
  cells : List Ce
instance : Inhabited SlN := ⟨⟨0, [], 0, []⟩⟩
def SlN.Fits (s : SlN) : Prop := s.trusts.length ≤ 1048576 ∧ s.cells.length ≤ 1048576 ∧ TrusI s.trusts ∧ I64 s.count
def SlR (w : World) (Bd : Nat) (B : Option Addr) (tc : Nat) (C : Option Addr) (cc : Nat) (s : SlN) : Prop := Trs w Bd B s.trusts ∧ Cls w Bd C s.cells
def SlotAt (w : World) (Bd b off : Nat) (s : SlN) : Prop :=
  ∃ B tc C cc, w.cell? ⟨b, off, none⟩ = some (.int .i64 s.count) ∧ w.cell? ⟨b, off + 1, none⟩ = some (.slice B s.trusts.length tc) ∧ w.cell? ⟨b, off + 2, none⟩ = some (.int .i64 s.mac) ∧ w.cell? ⟨b, off + 3, none⟩ = some (.slice C s.cells.length cc) ∧ SlR w Bd B tc C cc s
def Slots (w : World) (Bd : Nat) (A : Option Addr) (S : List SlN) : Prop := ∀ i, i < S.length → ∃ b off, A = some ⟨b, off, none⟩ ∧ b < Bd ∧ SlotAt w Bd b (off + i * 4) (S.getD i default)
theorem SlR.below {w u : World} {Bd D : Nat} {B C : Option Addr} {tc cc : Nat} {s : SlN} (h : SlR w Bd B tc C cc s) (hb : Below D w u) (hD : Bd ≤ D) : SlR u Bd B tc C cc s := ⟨h.1.below hb hD, h.2.below hb hD⟩
theorem SlR.more {w : World} {Bd D : Nat} {B C : Option Addr} {tc cc : Nat} {s : SlN} (h : SlR w Bd B tc C cc s) (hD : Bd ≤ D) : SlR w D B tc C cc s := ⟨h.1.more hD, h.2.more hD⟩
theorem SlotAt.below {w u : World} {Bd D b off : Nat} {s : SlN} (h : SlotAt w Bd b off s) (hb : Below D w u) (hD : Bd ≤ D) (hlt : b < Bd) : SlotAt u Bd b off s := by
  obtain ⟨B, tc, C, cc, c0, c1, c2, c3, hr⟩ := h
  have f := fun o => hb.cell (p := ⟨b, o, none⟩) (Nat.lt_of_lt_of_le hlt hD)
  exact ⟨B, tc, C, cc, (f _).trans c0, (f _).trans c1, (f _).trans c2, (f _).trans c3, hr.below hb hD⟩
theorem SlotAt.more {w : World} {Bd D b off : Nat} {s : SlN} (h : SlotAt w Bd b off s) (hD : Bd ≤ D) : SlotAt w D b off s := by
  obtain ⟨B, tc, C, cc, c0, c1, c2, c3, hr⟩ := h
  exact ⟨B, tc, C, cc, c0, c1, c2, c3, hr.more hD⟩
theorem Slots.below {w u : World} {Bd D : Nat} {A : Option Addr} {S : List SlN} (h : Slots w Bd A S) (hb : Below D w u) (hD : Bd ≤ D) : Slots u Bd A S := by
  intro i hi
  obtain ⟨b, off, e, hlt, hs⟩ := h i hi
  exact ⟨b, off, e, hlt, hs.below hb hD hlt⟩
theorem Slots.more {w : World} {Bd D : Nat} {A : Option Addr} {S : List SlN} (h : Slots w Bd A S) (hD : Bd ≤ D) : Slots w D A S := by
  intro i hi
  obtain ⟨b, off, e, hlt, hs⟩ := h i hi
  exact ⟨b, off, e, by omega, hs.more hD⟩
theorem seal_end {w w1 : World} {r : Nat} {t : TypeId} {x y z x0 y0 z0 : Value} (hk : CellsAt w1 r t #[x0, y0, z0]) (hb : Below w.heap.size w w1) (hr : w.heap.size ≤ r) :
    ∃ w4, ((w1.setCell ⟨r, 0, none⟩ x).setCell ⟨r, 1, none⟩ y).setCell ⟨r, 2, none⟩ z = w4 ∧ (w4.cell? ⟨r, 0, none⟩ = some x ∧ w4.cell? ⟨r, 1, none⟩ = some y ∧ w4.cell? ⟨r, 2, none⟩ = some z) ∧ Below w.heap.size w w4 ∧ w1.grownBy w4 (some r) := by
  have h := ((hk.set_ 0 x).set_ 1 y).set_ 2 z
  exact ⟨_, rfl, ⟨h.cell 0, h.cell 1, h.cell 2⟩, ((hb.setCell (p := ⟨r, 0, none⟩) hr x).setCell (p := ⟨r, 1, none⟩) hr y).setCell (p := ⟨r, 2, none⟩) hr z, gb_set (gb_set (gb_set (gb_refl _ _) 0 x) 1 y) 2 z⟩
def NewSe (b : World) (cnt : Int) (L : List Tru) (mac : Int) (e : Ending) (w' : World) : Prop := ∃ A c, e = .returned (.agg #[.int .i64 cnt, .slice A L.length c, .int .i64 mac]) ∧ TrRow w' b.heap.size (.slice A L.length c) L ∧ Below b.heap.size b w'
set_option maxRecDepth 20000 in
set_option maxHeartbeats 2000000 in
theorem l10Seal_calls (cnt : Int) (B : Option Addr) (L : List Tru) (tc : Nat) (mac : Int) (w : World) (hN : L.length ≤ 1048576) (hB : Trs w w.heap.size B L) :
    Calls Tryz.prog 203 #[.agg #[.int .i64 cnt, .slice B L.length tc, .int .i64 mac]] w (NewSe w cnt L mac) := by
  have K0 := Lib.hid (show Kept w [(w.heap.size + 1, 75, #[.int .i64 0, .slice none 0 0, .int .i64 0]), (w.heap.size, 75, #[.int .i64 cnt, .slice B L.length tc, .int .i64 mac])] _ from (((Kept.refl w).put1 _ _ #[.int .i64 cnt, .slice B L.length tc, .int .i64 mac] rfl).put1 _ _ #[.int .i64 0, .slice none 0 0, .int .i64 0] (by simp)))
  have CO := Lib.hid (fun (u : World) (hb : Below w.heap.size w u) => l10Copy_calls B L tc u hN ((hB.below hb (Nat.le_refl _)).more hb.size))
  clear hB
  go_enter Tryz.func203, Tryz.ntmps203
  go_wp2_with fail
  refine (CO.out _ K0.out.1).mono ?_; rintro e u ⟨v, rfl, hrow, b1⟩
  have hk := K0.out.below b1
  obtain ⟨A', c', rfl, _, _⟩ := hrow.reads truV_len
  have hr2 : TrRow u (w.heap.size + 1 + 1) (.slice A' L.length c') L := by have h := hrow; simpa using h
  clear b1 hrow
  obtain ⟨kc0, kf0, kc1, kf1, -⟩ := hk.rd
  have HK := Lib.hid hk
  have HR := Lib.hid hr2
  clear hk hr2
  go_upto_region 2 with fail
  have hq : Kept w [(w.heap.size + 1, 75, #[.int .i64 0, .slice none 0 0, .int .i64 0]), (w.heap.size, 75, #[.int .i64 cnt, .slice A' L.length c', .int .i64 mac])] _ := HK.out.put (k := 1) rfl (by unfold Apart; simp) (gb_set (gb_refl _ (some w.heap.size)) 1 (.slice A' L.length c')) ((HK.out.at_ (p := w.heap.size) (t := 75) (cs := #[.int .i64 cnt, .slice B L.length tc, .int .i64 mac]) (by simp)).set_ 1 _)
  have hr3 := HR.out.grown (gb_set (gb_refl u (some w.heap.size)) 1 (.slice A' L.length c')) (by omega)
  clear kc0 kf0 kc1 kf1
  generalize World.setCell _ _ _ = wq at hq hr3 ⊢
  obtain ⟨kc0, kf0, kc1, kf1, -⟩ := hq.rd
  have HQ := Lib.hid hq
  have HR3 := Lib.hid hr3
  clear hq hr3
  go_wp2_with fail
  obtain ⟨w9, e9, ⟨d0, d1, d2⟩, hb9, hg9⟩ := seal_end (w := w) (x := .int .i64 cnt) (y := .slice A' L.length c') (z := .int .i64 mac) (HQ.out.at_ (p := w.heap.size + 1) (t := 75) (cs := #[.int .i64 0, .slice none 0 0, .int .i64 0]) (by simp)) HQ.out.1 (by omega)
  rw [e9]
  exact bodyPost_ret (v := .agg #[.int .i64 cnt, .slice A' L.length c', .int .i64 mac]) (by simp [results, Tryz.results203, go_sem, d0, d1, d2]) rfl ⟨A', c', rfl, (HR3.out.grown hg9 (by omega)).mono (by omega), hb9⟩
end Go.Proofs.YtgaecedhkbneaaaGreatDoor.Mx

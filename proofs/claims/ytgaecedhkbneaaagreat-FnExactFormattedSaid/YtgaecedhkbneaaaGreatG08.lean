import Derived.Test.YtgaecedhkbneaaaGreatG06
import Derived.Test.YtgaecedhkbneaaaGreatG07
import Derived.Test.YtgaecedhkbneaaaGreatG05
import Derived.Test.YtgaecedhkbneaaaGreatG02
import Derived.Test.YtgaecedhkbneaaaGreatG03
namespace Go.Proofs.YtgaecedhkbneaaaGreat.Mx
open Go.ChangeShapes Go.WideShapes Go.ChangeAt Go.RowKit
set_option linter.unusedVariables false
set_option maxRecDepth 20000 in
set_option maxHeartbeats 4000000 in
theorem markTrustG_calls (g n cap : Nat) (m : Int) (t : TypeId) (cs : Array Value) (w : World) (hn : n ≤ 1048576) (hm0 : 0 ≤ m) (hm1 : m ≤ 1125899906842624) (hc : CellsAt w g t cs) (hs : n * 8 ≤ cs.size) :
    Calls Tryz.prog 28 #[.slice (some ⟨g, 0, none⟩) n cap, .int .i64 m] w fun e w' => e = .returned (.int .i64 (m + 8 * n)) ∧ MarkT w' g n m ∧ w.grownBy w' (some g) ∧ ∃ ds, CellsAt w' g t ds ∧ ds.size = cs.size := by
  have HC := Lib.hid hc
  have HS := Lib.hid hs
  clear hc hs
  go_enter Tryz.func28, Tryz.ntmps28
  go_wp2_with fail
  go_loopw [5, 1] (fun i t' u => ∃ k : Nat, ∃ z : Int, k ≤ n ∧ i = .int .i64 k ∧ z = m + 8 * k ∧ t' = .int .i64 z ∧ (∃ ds, CellsAt u g t ds ∧ ds.size = cs.size) ∧ MarkT u g k m ∧ w.grownBy u (some g)) (fun i _ _ => n - (intOf i).toNat)
  case atStart => exact ⟨0, m, by omega, rfl, by simp, rfl, ⟨cs, HC.out, rfl⟩, fun j hj => by omega, gb_refl _ _⟩
  case round =>
    obtain ⟨k, z, hk, rfl, hz, rfl, ⟨ds, hd, hds⟩, hmk, hg⟩ := hrel
    have HZ := Lib.hid hz
    have HG := Lib.hid hg
    have HM := Lib.hid hmk
    have hcs := HS.out
    have z0 : 0 ≤ z := by omega
    have z1 : z ≤ 1125899923619840 := by omega
    by_cases hlt : k < n
    · have hlt' : (k : Int) < n := by omega
      obtain ⟨q0, e0⟩ : ∃ q, wr.cell? ⟨g, k * 8, none⟩ = some q := ⟨_, (hd.cell (k * 8)).trans (Array.getElem?_eq_getElem (by omega))⟩
      obtain ⟨q1, e1⟩ : ∃ q, wr.cell? ⟨g, k * 8 + 1, none⟩ = some q := ⟨_, (hd.cell (k * 8 + 1)).trans (Array.getElem?_eq_getElem (by omega))⟩
      obtain ⟨q2, e2⟩ : ∃ q, wr.cell? ⟨g, k * 8 + 2, none⟩ = some q := ⟨_, (hd.cell (k * 8 + 2)).trans (Array.getElem?_eq_getElem (by omega))⟩
      obtain ⟨q3, e3⟩ : ∃ q, wr.cell? ⟨g, k * 8 + 3, none⟩ = some q := ⟨_, (hd.cell (k * 8 + 3)).trans (Array.getElem?_eq_getElem (by omega))⟩
      obtain ⟨q4, e4⟩ : ∃ q, wr.cell? ⟨g, k * 8 + 4, none⟩ = some q := ⟨_, (hd.cell (k * 8 + 4)).trans (Array.getElem?_eq_getElem (by omega))⟩
      obtain ⟨q5, e5⟩ : ∃ q, wr.cell? ⟨g, k * 8 + 5, none⟩ = some q := ⟨_, (hd.cell (k * 8 + 5)).trans (Array.getElem?_eq_getElem (by omega))⟩
      obtain ⟨q6, e6⟩ : ∃ q, wr.cell? ⟨g, k * 8 + 6, none⟩ = some q := ⟨_, (hd.cell (k * 8 + 6)).trans (Array.getElem?_eq_getElem (by omega))⟩
      obtain ⟨q7, e7⟩ : ∃ q, wr.cell? ⟨g, k * 8 + 7, none⟩ = some q := ⟨_, (hd.cell (k * 8 + 7)).trans (Array.getElem?_eq_getElem (by omega))⟩
      have hf : ∀ j, wr.frozen? ⟨g, j, none⟩ = false := hd.frozen
      have HD := Lib.hid hd
      have HDS := Lib.hid hds
      clear hd hds hz hg hmk hcs
      go_wp2_with fail
      go_roundw
      case rel =>
        have h2 := ((((((((HD.out.set_ (k * 8) (.int .i64 z)).set_ (k * 8 + 1) (.int .i64 (z + 1))).set_ (k * 8 + 2) (.int .i64 (z + 1 + 1))).set_ (k * 8 + 3) (.int .i64 (z + 1 + 1 + 1))).set_ (k * 8 + 4) (.int .i64 (z + 1 + 1 + 1 + 1))).set_ (k * 8 + 5) (.int .i64 (z + 1 + 1 + 1 + 1 + 1))).set_ (k * 8 + 6) (.int .i64 (z + 1 + 1 + 1 + 1 + 1 + 1))).set_ (k * 8 + 7) (.bool ((z + 1 + 1 + 1 + 1 + 1 + 1 + 1) % 3 == 0)))
        have hb := (gb_set (gb_set (gb_set (gb_set (gb_set (gb_set (gb_set (gb_set (gb_refl wr (some g)) (k * 8) (.int .i64 z)) (k * 8 + 1) (.int .i64 (z + 1))) (k * 8 + 2) (.int .i64 (z + 1 + 1))) (k * 8 + 3) (.int .i64 (z + 1 + 1 + 1))) (k * 8 + 4) (.int .i64 (z + 1 + 1 + 1 + 1))) (k * 8 + 5) (.int .i64 (z + 1 + 1 + 1 + 1 + 1))) (k * 8 + 6) (.int .i64 (z + 1 + 1 + 1 + 1 + 1 + 1))) (k * 8 + 7) (.bool ((z + 1 + 1 + 1 + 1 + 1 + 1 + 1) % 3 == 0)))
        refine ⟨k + 1, z + 1 + 1 + 1 + 1 + 1 + 1 + 1 + 1, by omega, by go_num, by have := HZ.out; omega, rfl, ⟨_, h2, by simp; exact HDS.out⟩, fun j hj => ?_, gb_trans HG.out hb⟩
        have hsz := HDS.out
        have hcs := HS.out
        by_cases hjk : j = k
        · subst hjk
          rw [h2.cell, h2.cell, h2.cell, h2.cell, h2.cell, h2.cell, h2.cell, h2.cell, ← HZ.out]
          have h8 : j * 8 + 8 ≤ ds.size := by omega
          rw [set8_at0 _ _ _ _ _ _ _ _ _ _ h8, set8_at1 _ _ _ _ _ _ _ _ _ _ h8, set8_at2 _ _ _ _ _ _ _ _ _ _ h8, set8_at3 _ _ _ _ _ _ _ _ _ _ h8, set8_at4 _ _ _ _ _ _ _ _ _ _ h8, set8_at5 _ _ _ _ _ _ _ _ _ _ h8, set8_at6 _ _ _ _ _ _ _ _ _ _ h8, set8_at7 _ _ _ _ _ _ _ _ _ _ h8]
          simp only [Int.add_assoc, Int.reduceAdd, and_self]
        · have ho := HM.out j (by omega)
          rw [HD.out.cell, HD.out.cell, HD.out.cell, HD.out.cell, HD.out.cell, HD.out.cell, HD.out.cell, HD.out.cell] at ho
          rw [h2.cell, h2.cell, h2.cell, h2.cell, h2.cell, h2.cell, h2.cell, h2.cell]
          rw [set8_off _ _ _ _ _ _ _ _ _ _ _ (by omega), set8_off _ _ _ _ _ _ _ _ _ _ _ (by omega), set8_off _ _ _ _ _ _ _ _ _ _ _ (by omega), set8_off _ _ _ _ _ _ _ _ _ _ _ (by omega), set8_off _ _ _ _ _ _ _ _ _ _ _ (by omega), set8_off _ _ _ _ _ _ _ _ _ _ _ (by omega), set8_off _ _ _ _ _ _ _ _ _ _ _ (by omega), set8_off _ _ _ _ _ _ _ _ _ _ _ (by omega)]
          exact ho
      case measure => simp [intOf]; omega
    · obtain rfl : n = k := by omega
      have HD := Lib.hid hd
      have HDS := Lib.hid hds
      clear hd hds hz hg hmk hcs
      go_wp2_with fail
      go_ret
      exact ⟨by rw [HZ.out]; rfl, HM.out, HG.out, ds, HD.out, HDS.out⟩
set_option maxRecDepth 20000 in
set_option maxHeartbeats 4000000 in
theorem markCellG_calls (g n cap : Nat) (m : Int) (t : TypeId) (cs : Array Value) (w : World) (hn : n ≤ 1048576) (hm0 : 0 ≤ m) (hm1 : m ≤ 1125899906842624) (hc : CellsAt w g t cs) (hs : n * 2 ≤ cs.size) :
    Calls Tryz.prog 29 #[.slice (some ⟨g, 0, none⟩) n cap, .int .i64 m] w fun e w' => e = .returned (.int .i64 (m + 2 * n)) ∧ MarkC w' g n m ∧ w.grownBy w' (some g) ∧ ∃ ds, CellsAt w' g t ds ∧ ds.size = cs.size := by
  have HC := Lib.hid hc
  have HS := Lib.hid hs
  clear hc hs
  go_enter Tryz.func29, Tryz.ntmps29
  go_wp2_with fail
  go_loopw [5, 1] (fun i t' u => ∃ k : Nat, ∃ z : Int, k ≤ n ∧ i = .int .i64 k ∧ z = m + 2 * k ∧ t' = .int .i64 z ∧ (∃ ds, CellsAt u g t ds ∧ ds.size = cs.size) ∧ MarkC u g k m ∧ w.grownBy u (some g)) (fun i _ _ => n - (intOf i).toNat)
  case atStart => exact ⟨0, m, by omega, rfl, by simp, rfl, ⟨cs, HC.out, rfl⟩, fun j hj => by omega, gb_refl _ _⟩
  case round =>
    obtain ⟨k, z, hk, rfl, hz, rfl, ⟨ds, hd, hds⟩, hmk, hg⟩ := hrel
    have HZ := Lib.hid hz
    have HG := Lib.hid hg
    have HM := Lib.hid hmk
    have hcs := HS.out
    have z0 : 0 ≤ z := by omega
    have z1 : z ≤ 1125899923619840 := by omega
    by_cases hlt : k < n
    · have hlt' : (k : Int) < n := by omega
      obtain ⟨q0, e0⟩ : ∃ q, wr.cell? ⟨g, k * 2, none⟩ = some q := ⟨_, (hd.cell (k * 2)).trans (Array.getElem?_eq_getElem (by omega))⟩
      obtain ⟨q1, e1⟩ : ∃ q, wr.cell? ⟨g, k * 2 + 1, none⟩ = some q := ⟨_, (hd.cell (k * 2 + 1)).trans (Array.getElem?_eq_getElem (by omega))⟩
      have hf : ∀ j, wr.frozen? ⟨g, j, none⟩ = false := hd.frozen
      have HD := Lib.hid hd
      have HDS := Lib.hid hds
      clear hd hds hz hg hmk hcs
      go_wp2_with fail
      go_roundw
      case rel =>
        have h2 := (HD.out.set_ (k * 2) (.int .i64 z)).set_ (k * 2 + 1) (.int .i64 (z + 1))
        have hb := gb_set (gb_set (gb_refl wr (some g)) (k * 2) (.int .i64 z)) (k * 2 + 1) (.int .i64 (z + 1))
        refine ⟨k + 1, z + 1 + 1, by omega, by go_num, by have := HZ.out; omega, rfl, ⟨_, h2, by simp; exact HDS.out⟩, fun j hj => ?_, gb_trans HG.out hb⟩
        have hsz := HDS.out
        have hcs := HS.out
        by_cases hjk : j = k
        · subst hjk
          rw [h2.cell, h2.cell, ← HZ.out]
          constructor
          · rw [Array.getElem?_setIfInBounds_ne (by omega), Array.getElem?_setIfInBounds_self_of_lt (by omega)]
          · rw [Array.getElem?_setIfInBounds_self_of_lt (by simp; omega)]
        · have ho := HM.out j (by omega)
          rw [HD.out.cell, HD.out.cell] at ho
          rw [h2.cell, h2.cell]
          constructor
          · rw [Array.getElem?_setIfInBounds_ne (by omega), Array.getElem?_setIfInBounds_ne (by omega)]; exact ho.1
          · rw [Array.getElem?_setIfInBounds_ne (by omega), Array.getElem?_setIfInBounds_ne (by omega)]; exact ho.2
      case measure => simp [intOf]; omega
    · obtain rfl : n = k := by omega
      have HD := Lib.hid hd
      have HDS := Lib.hid hds
      clear hd hds hz hg hmk hcs
      go_wp2_with fail
      go_ret
      exact ⟨by rw [HZ.out]; rfl, HM.out, HG.out, ds, HD.out, HDS.out⟩
set_option maxRecDepth 20000 in
set_option maxHeartbeats 4000000 in
theorem heldTrustG_calls (g n cap : Nat) (m : Int) (w : World) (hn : n ≤ 1048576) (hm0 : 0 ≤ m) (hm1 : m ≤ 1125899906842624) (hc : MarkT w g n m) :
    Calls Tryz.prog 32 #[.slice (some ⟨g, 0, none⟩) n cap, .int .i64 m] w fun e w' => e = .returned (.int .i64 (m + 8 * n)) ∧ w = w' := by
  have HC := Lib.hid hc
  clear hc
  go_enter Tryz.func32, Tryz.ntmps32
  go_wp2_with fail
  go_loop [5, 1] (fun i t' => ∃ k : Nat, ∃ z : Int, k ≤ n ∧ i = .int .i64 k ∧ z = m + 8 * k ∧ t' = .int .i64 z) (fun i _ => n - (intOf i).toNat)
  case atStart => exact ⟨0, m, by omega, rfl, by simp, rfl⟩
  case round =>
    obtain ⟨k, z, hk, rfl, hz, rfl⟩ := hrel
    have z0 : 0 ≤ z := by omega
    have z1 : z ≤ 1125899923619840 := by omega
    by_cases hlt : k < n
    · have hlt' : (k : Int) < n := by omega
      have hc := HC.out k hlt
      rw [← hz] at hc
      obtain ⟨c0, c1, c2, c3, c4, c5, c6, c7⟩ := hc
      rw [show z + 2 = z + 1 + 1 by omega] at c2
      rw [show z + 3 = z + 1 + 1 + 1 by omega] at c3
      rw [show z + 4 = z + 1 + 1 + 1 + 1 by omega] at c4
      rw [show z + 5 = z + 1 + 1 + 1 + 1 + 1 by omega] at c5
      rw [show z + 6 = z + 1 + 1 + 1 + 1 + 1 + 1 by omega] at c6
      rw [show z + 7 = z + 1 + 1 + 1 + 1 + 1 + 1 + 1 by omega] at c7
      have HZ := Lib.hid hz
      clear hz
      go_wp2_with fail
      go_round
      case rel => exact ⟨k + 1, z + 1 + 1 + 1 + 1 + 1 + 1 + 1 + 1, by omega, by go_num, by have := HZ.out; omega, rfl⟩
      case measure => simp [intOf]; omega
    · obtain rfl : n = k := by omega
      have HZ := Lib.hid hz
      clear hz
      go_wp2_with fail
      go_ret
      exact ⟨by rw [HZ.out]; rfl, rfl⟩
set_option maxRecDepth 20000 in
set_option maxHeartbeats 4000000 in
theorem heldCellG_calls (g n cap : Nat) (m : Int) (w : World) (hn : n ≤ 1048576) (hm0 : 0 ≤ m) (hm1 : m ≤ 1125899906842624) (hc : MarkC w g n m) :
    Calls Tryz.prog 33 #[.slice (some ⟨g, 0, none⟩) n cap, .int .i64 m] w fun e w' => e = .returned (.int .i64 (m + 2 * n)) ∧ w = w' := by
  have HC := Lib.hid hc
  clear hc
  go_enter Tryz.func33, Tryz.ntmps33
  go_wp2_with fail
  go_loop [5, 1] (fun i t' => ∃ k : Nat, ∃ z : Int, k ≤ n ∧ i = .int .i64 k ∧ z = m + 2 * k ∧ t' = .int .i64 z) (fun i _ => n - (intOf i).toNat)
  case atStart => exact ⟨0, m, by omega, rfl, by simp, rfl⟩
  case round =>
    obtain ⟨k, z, hk, rfl, hz, rfl⟩ := hrel
    have z0 : 0 ≤ z := by omega
    have z1 : z ≤ 1125899923619840 := by omega
    by_cases hlt : k < n
    · have hlt' : (k : Int) < n := by omega
      have hc := HC.out k hlt
      rw [← hz] at hc
      obtain ⟨c0, c1⟩ := hc
      have HZ := Lib.hid hz
      clear hz
      go_wp2_with fail
      go_round
      case rel => exact ⟨k + 1, z + 1 + 1, by omega, by go_num, by have := HZ.out; omega, rfl⟩
      case measure => simp [intOf]; omega
    · obtain rfl : n = k := by omega
      have HZ := Lib.hid hz
      clear hz
      go_wp2_with fail
      go_ret
      exact ⟨by rw [HZ.out]; rfl, rfl⟩
def MarkN (w : World) (g n : Nat) (m : Int) : Prop := ∀ j, j < n → w.cell? ⟨g, j, none⟩ = some (.int .i64 (m + j))
theorem MarkN.block {w u : World} {g n : Nat} {m : Int} (h : MarkN w g n m) (hb : u.heap[g]? = w.heap[g]?) : MarkN u g n m := by
  have f : ∀ o, u.cell? ⟨g, o, none⟩ = w.cell? ⟨g, o, none⟩ := fun o => by simp [World.cell?, hb]
  exact fun j hj => (f _).trans (h j hj)
set_option maxRecDepth 20000 in
set_option maxHeartbeats 4000000 in
theorem markInt64G_calls (g n cap : Nat) (m : Int) (t : TypeId) (cs : Array Value) (w : World) (hn : n ≤ 1048576) (hm0 : 0 ≤ m) (hm1 : m ≤ 1125899906842624) (hc : CellsAt w g t cs) (hs : n ≤ cs.size) :
    Calls Tryz.prog 27 #[.slice (some ⟨g, 0, none⟩) n cap, .int .i64 m] w fun e w' => e = .returned (.int .i64 (m + n)) ∧ MarkN w' g n m ∧ w.grownBy w' (some g) ∧ ∃ ds, CellsAt w' g t ds ∧ ds.size = cs.size := by
  have HC := Lib.hid hc
  have HS := Lib.hid hs
  clear hc hs
  go_enter Tryz.func27, Tryz.ntmps27
  go_wp2_with fail
  go_loopw [5, 1] (fun i t' u => ∃ k : Nat, ∃ z : Int, k ≤ n ∧ i = .int .i64 k ∧ z = m + k ∧ t' = .int .i64 z ∧ (∃ ds, CellsAt u g t ds ∧ ds.size = cs.size) ∧ MarkN u g k m ∧ w.grownBy u (some g)) (fun i _ _ => n - (intOf i).toNat)
  case atStart => exact ⟨0, m, by omega, rfl, by simp, rfl, ⟨cs, HC.out, rfl⟩, fun j hj => by omega, gb_refl _ _⟩
  case round =>
    obtain ⟨k, z, hk, rfl, hz, rfl, ⟨ds, hd, hds⟩, hmk, hg⟩ := hrel
    have HZ := Lib.hid hz
    have HG := Lib.hid hg
    have HM := Lib.hid hmk
    have hcs := HS.out
    have z0 : 0 ≤ z := by omega
    have z1 : z ≤ 1125899923619840 := by omega
    by_cases hlt : k < n
    · have hlt' : (k : Int) < n := by omega
      obtain ⟨q0, e0⟩ : ∃ q, wr.cell? ⟨g, k, none⟩ = some q := ⟨_, (hd.cell k).trans (Array.getElem?_eq_getElem (by omega))⟩
      have hf : ∀ j, wr.frozen? ⟨g, j, none⟩ = false := hd.frozen
      have HD := Lib.hid hd
      have HDS := Lib.hid hds
      clear hd hds hz hg hmk hcs
      go_wp2_with fail
      go_roundw
      case rel =>
        have h2 := HD.out.set_ k (.int .i64 z)
        have hb := gb_set (gb_refl wr (some g)) k (.int .i64 z)
        refine ⟨k + 1, z + 1, by omega, by go_num, by have := HZ.out; omega, rfl, ⟨_, h2, by simp; exact HDS.out⟩, fun j hj => ?_, gb_trans HG.out hb⟩
        have hsz := HDS.out
        have hcs := HS.out
        by_cases hjk : j = k
        · subst hjk
          rw [h2.cell, ← HZ.out, Array.getElem?_setIfInBounds_self_of_lt (by omega)]
        · have ho := HM.out j (by omega)
          rw [HD.out.cell] at ho
          rw [h2.cell, Array.getElem?_setIfInBounds_ne (by omega)]; exact ho
      case measure => simp [intOf]; omega
    · obtain rfl : n = k := by omega
      have HD := Lib.hid hd
      have HDS := Lib.hid hds
      clear hd hds hz hg hmk hcs
      go_wp2_with fail
      go_ret
      exact ⟨by rw [HZ.out]; rfl, HM.out, HG.out, ds, HD.out, HDS.out⟩
set_option maxRecDepth 20000 in
set_option maxHeartbeats 4000000 in
theorem heldInt64G_calls (g n cap : Nat) (m : Int) (w : World) (hn : n ≤ 1048576) (hm0 : 0 ≤ m) (hm1 : m ≤ 1125899906842624) (hc : MarkN w g n m) :
    Calls Tryz.prog 62 #[.slice (some ⟨g, 0, none⟩) n cap, .int .i64 m] w fun e w' => e = .returned (.int .i64 (m + n)) ∧ w = w' := by
  have HC := Lib.hid hc
  clear hc
  go_enter Tryz.func62, Tryz.ntmps62
  go_wp2_with fail
  go_loop [5, 1] (fun i t' => ∃ k : Nat, ∃ z : Int, k ≤ n ∧ i = .int .i64 k ∧ z = m + k ∧ t' = .int .i64 z) (fun i _ => n - (intOf i).toNat)
  case atStart => exact ⟨0, m, by omega, rfl, by simp, rfl⟩
  case round =>
    obtain ⟨k, z, hk, rfl, hz, rfl⟩ := hrel
    have z0 : 0 ≤ z := by omega
    have z1 : z ≤ 1125899923619840 := by omega
    by_cases hlt : k < n
    · have hlt' : (k : Int) < n := by omega
      have hc := HC.out k hlt
      rw [← hz] at hc
      have HZ := Lib.hid hz
      clear hz
      go_wp2_with fail
      go_round
      case rel => exact ⟨k + 1, z + 1, by omega, by go_num, by have := HZ.out; omega, rfl⟩
      case measure => simp [intOf]; omega
    · obtain rfl : n = k := by omega
      have HZ := Lib.hid hz
      clear hz
      go_wp2_with fail
      go_ret
      exact ⟨by rw [HZ.out]; rfl, rfl⟩
theorem markInt64S_nil (A : Option Addr) (c : Nat) (m : Int) (w : World) : Calls Tryz.prog 27 #[.slice A 0 c, .int .i64 m] w fun e w' => e = .returned (.int .i64 m) ∧ w = w' := by
  go_enter Tryz.func27, Tryz.ntmps27
  go_wp2_with fail
  go_loop [5, 1] (fun i t => i = .int .i64 0 ∧ t = .int .i64 m) (fun _ _ => 0)
  case atStart => exact ⟨rfl, rfl⟩
  case round =>
    obtain ⟨rfl, rfl⟩ := hrel
    go_wp2_with fail
    go_ret
    exact ⟨rfl, rfl⟩
theorem heldInt64S_nil (A : Option Addr) (c : Nat) (m : Int) (w : World) : Calls Tryz.prog 62 #[.slice A 0 c, .int .i64 m] w fun e w' => e = .returned (.int .i64 m) ∧ w = w' := by
  go_enter Tryz.func62, Tryz.ntmps62
  go_wp2_with fail
  go_loop [5, 1] (fun i t => i = .int .i64 0 ∧ t = .int .i64 m) (fun _ _ => 0)
  case atStart => exact ⟨rfl, rfl⟩
  case round =>
    obtain ⟨rfl, rfl⟩ := hrel
    go_wp2_with fail
    go_ret
    exact ⟨rfl, rfl⟩
theorem markCellS_nil (A : Option Addr) (c : Nat) (m : Int) (w : World) : Calls Tryz.prog 29 #[.slice A 0 c, .int .i64 m] w fun e w' => e = .returned (.int .i64 m) ∧ w = w' := by
  go_enter Tryz.func29, Tryz.ntmps29
  go_wp2_with fail
  go_loop [5, 1] (fun i t => i = .int .i64 0 ∧ t = .int .i64 m) (fun _ _ => 0)
  case atStart => exact ⟨rfl, rfl⟩
  case round =>
    obtain ⟨rfl, rfl⟩ := hrel
    go_wp2_with fail
    go_ret
    exact ⟨rfl, rfl⟩
theorem heldCellS_nil (A : Option Addr) (c : Nat) (m : Int) (w : World) : Calls Tryz.prog 33 #[.slice A 0 c, .int .i64 m] w fun e w' => e = .returned (.int .i64 m) ∧ w = w' := by
  go_enter Tryz.func33, Tryz.ntmps33
  go_wp2_with fail
  go_loop [5, 1] (fun i t => i = .int .i64 0 ∧ t = .int .i64 m) (fun _ _ => 0)
  case atStart => exact ⟨rfl, rfl⟩
  case round =>
    obtain ⟨rfl, rfl⟩ := hrel
    go_wp2_with fail
    go_ret
    exact ⟨rfl, rfl⟩
def HeldN (w : World) (v : Value) (n : Nat) (m : Int) : Prop := (∃ g c, v = .slice (some ⟨g, 0, none⟩) n c ∧ g < w.heap.size ∧ MarkN w g n m) ∨ (n = 0 ∧ ∃ A c, v = .slice A 0 c)
theorem HeldN.below {u w : World} {v : Value} {n : Nat} {m : Int} (h : HeldN u v n m) (hb : Below u.heap.size u w) : HeldN w v n m := by
  rcases h with ⟨g, c, e, hg, hm⟩ | h
  · exact .inl ⟨g, c, e, Nat.lt_of_lt_of_le hg hb.size, hm.block (hb.block g hg)⟩
  · exact .inr h
theorem markN_own (v : Value) (l : List Int) (base : Nat) (m : Int) (w : World) (hn : l.length ≤ 1048576) (hm0 : 0 ≤ m) (hm1 : m ≤ 1125899906842624) (hr : IRow w base v l) :
    Calls Tryz.prog 27 #[v, .int .i64 m] w fun e w' => e = .returned (.int .i64 (m + l.length)) ∧ HeldN w' v l.length m ∧ w.grownBy w' v.ownBlock := by
  rcases hr.2 with ⟨rfl, h0⟩ | ⟨g, cap, cur, rfl, hb, hg, hnc, hcm, hcs, htake⟩
  · refine (markInt64S_nil none 0 m w).mono ?_
    rintro e w' ⟨rfl, rfl⟩
    rw [h0]
    exact ⟨by simp, .inr ⟨rfl, _, _, rfl⟩, gb_refl _ _⟩
  · refine (markInt64G_calls g l.length cap m _ cur w hn hm0 hm1 hg (by rw [hcs]; omega)).mono ?_
    rintro e w' ⟨rfl, hm, hgb, -⟩
    exact ⟨rfl, .inl ⟨g, cap, rfl, Nat.lt_of_lt_of_le (Array.getElem?_eq_some_iff.1 hg).1 hgb.size, hm⟩, hgb⟩
theorem heldN_own (v : Value) (n : Nat) (m : Int) (w : World) (hn : n ≤ 1048576) (hm0 : 0 ≤ m) (hm1 : m ≤ 1125899906842624) (hr : HeldN w v n m) :
    Calls Tryz.prog 62 #[v, .int .i64 m] w fun e w' => e = .returned (.int .i64 (m + n)) ∧ w = w' := by
  rcases hr with ⟨g, c, rfl, hg, hm⟩ | ⟨rfl, A, c, rfl⟩
  · exact heldInt64G_calls g n c m w hn hm0 hm1 hm
  · refine (heldInt64S_nil A c m w).mono ?_
    rintro e w' ⟨rfl, rfl⟩
    exact ⟨by simp, rfl⟩
def HeldTr (w : World) (v : Value) (n : Nat) (m : Int) : Prop := (∃ g c, v = .slice (some ⟨g, 0, none⟩) n c ∧ g < w.heap.size ∧ MarkT w g n m) ∨ (n = 0 ∧ ∃ A c, v = .slice A 0 c)
theorem HeldTr.below {u w : World} {v : Value} {n : Nat} {m : Int} (h : HeldTr u v n m) (hb : Below u.heap.size u w) : HeldTr w v n m := by
  rcases h with ⟨g, c, e, hg, hm⟩ | h
  · exact .inl ⟨g, c, e, Nat.lt_of_lt_of_le hg hb.size, hm.block (hb.block g hg)⟩
  · exact .inr h
theorem markTr_own (v : Value) (l : List Tru) (base : Nat) (m : Int) (w : World) (hn : l.length ≤ 1048576) (hm0 : 0 ≤ m) (hm1 : m ≤ 1125899906842624) (hr : TrRow w base v l) :
    Calls Tryz.prog 28 #[v, .int .i64 m] w fun e w' => e = .returned (.int .i64 (m + 8 * l.length)) ∧ HeldTr w' v l.length m ∧ w.grownBy w' v.ownBlock := by
  rcases hr.2 with ⟨rfl, h0⟩ | ⟨g, cap, cur, rfl, hb, hg, hnc, hcm, hcs, htake⟩
  · refine (markTrustS_nil none 0 m w).mono ?_
    rintro e w' ⟨rfl, rfl⟩
    rw [h0]
    exact ⟨by simp, .inr ⟨rfl, _, _, rfl⟩, gb_refl _ _⟩
  · refine (markTrustG_calls g l.length cap m _ cur w hn hm0 hm1 hg (by rw [hcs]; exact Nat.mul_le_mul_right 8 hnc)).mono ?_
    rintro e w' ⟨rfl, hm, hgb, -⟩
    exact ⟨rfl, .inl ⟨g, cap, rfl, Nat.lt_of_lt_of_le (Array.getElem?_eq_some_iff.1 hg).1 hgb.size, hm⟩, hgb⟩
theorem heldTr_own (v : Value) (n : Nat) (m : Int) (w : World) (hn : n ≤ 1048576) (hm0 : 0 ≤ m) (hm1 : m ≤ 1125899906842624) (hr : HeldTr w v n m) :
    Calls Tryz.prog 32 #[v, .int .i64 m] w fun e w' => e = .returned (.int .i64 (m + 8 * n)) ∧ w = w' := by
  rcases hr with ⟨g, c, rfl, hg, hm⟩ | ⟨rfl, A, c, rfl⟩
  · exact heldTrustG_calls g n c m w hn hm0 hm1 hm
  · refine (heldTrustS_nil A c m w).mono ?_
    rintro e w' ⟨rfl, rfl⟩
    exact ⟨by simp, rfl⟩
def HeldC (w : World) (v : Value) (n : Nat) (m : Int) : Prop := (∃ g c, v = .slice (some ⟨g, 0, none⟩) n c ∧ g < w.heap.size ∧ MarkC w g n m) ∨ (n = 0 ∧ ∃ A c, v = .slice A 0 c)
theorem HeldC.below {u w : World} {v : Value} {n : Nat} {m : Int} (h : HeldC u v n m) (hb : Below u.heap.size u w) : HeldC w v n m := by
  rcases h with ⟨g, c, e, hg, hm⟩ | h
  · exact .inl ⟨g, c, e, Nat.lt_of_lt_of_le hg hb.size, hm.block (hb.block g hg)⟩
  · exact .inr h
theorem markC_own (v : Value) (l : List Ce) (base : Nat) (m : Int) (w : World) (hn : l.length ≤ 1048576) (hm0 : 0 ≤ m) (hm1 : m ≤ 1125899906842624) (hr : ClRow w base v l) :
    Calls Tryz.prog 29 #[v, .int .i64 m] w fun e w' => e = .returned (.int .i64 (m + 2 * l.length)) ∧ HeldC w' v l.length m ∧ w.grownBy w' v.ownBlock := by
  rcases hr.2 with ⟨rfl, h0⟩ | ⟨g, cap, cur, rfl, hb, hg, hnc, hcm, hcs, htake⟩
  · refine (markCellS_nil none 0 m w).mono ?_
    rintro e w' ⟨rfl, rfl⟩
    rw [h0]
    exact ⟨by simp, .inr ⟨rfl, _, _, rfl⟩, gb_refl _ _⟩
  · refine (markCellG_calls g l.length cap m _ cur w hn hm0 hm1 hg (by rw [hcs]; exact Nat.mul_le_mul_right 2 hnc)).mono ?_
    rintro e w' ⟨rfl, hm, hgb, -⟩
    exact ⟨rfl, .inl ⟨g, cap, rfl, Nat.lt_of_lt_of_le (Array.getElem?_eq_some_iff.1 hg).1 hgb.size, hm⟩, hgb⟩
theorem heldC_own (v : Value) (n : Nat) (m : Int) (w : World) (hn : n ≤ 1048576) (hm0 : 0 ≤ m) (hm1 : m ≤ 1125899906842624) (hr : HeldC w v n m) :
    Calls Tryz.prog 33 #[v, .int .i64 m] w fun e w' => e = .returned (.int .i64 (m + 2 * n)) ∧ w = w' := by
  rcases hr with ⟨g, c, rfl, hg, hm⟩ | ⟨rfl, A, c, rfl⟩
  · exact heldCellG_calls g n c m w hn hm0 hm1 hm
  · refine (heldCellS_nil A c m w).mono ?_
    rintro e w' ⟨rfl, rfl⟩
    exact ⟨by simp, rfl⟩
set_option maxRecDepth 20000 in
set_option maxHeartbeats 4000000 in
theorem eqSeal_same (cnt mac : Int) (A C : Option Addr) (L : List Tru) (c c' : Nat) (w : World) (hn : L.length ≤ maxLen) (hA : Trs w w.heap.size A L) (hC : Trs w w.heap.size C L) :
    Calls Tryz.prog 78 #[.agg #[.int .i64 cnt, .slice A L.length c, .int .i64 mac], .agg #[.int .i64 cnt, .slice C L.length c', .int .i64 mac]] w fun e w' => e = .returned (.bool true) ∧ Below w.heap.size w w' := by
  have K0 := Lib.hid (show Kept w [(w.heap.size + 1, 47, #[.int .i64 cnt, .slice C L.length c', .int .i64 mac]), (w.heap.size, 47, #[.int .i64 cnt, .slice A L.length c, .int .i64 mac])] _ from (((Kept.refl w).put1 _ _ #[.int .i64 cnt, .slice A L.length c, .int .i64 mac] rfl).put1 _ _ #[.int .i64 cnt, .slice C L.length c', .int .i64 mac] (by simp)))
  have E := Lib.hid (fun u (hb : Below w.heap.size w u) => eqTrustS_same A C L c c' u hn ((hA.below hb (Nat.le_refl _)).more hb.size) ((hC.below hb (Nat.le_refl _)).more hb.size))
  clear hA hC hn
  go_enter Tryz.func78, Tryz.ntmps78
  go_wp2_with fail
  refine (E.out _ K0.out.1).mono ?_; rintro e w1 ⟨rfl, b1⟩
  have h1 := K0.out.below b1
  clear b1 K0 E
  obtain ⟨kc0, kf0, kc1, kf1, -⟩ := h1.rd
  have H1 := Lib.hid h1
  clear h1
  go_wp2_with fail
  go_ret
  exact ⟨rfl, H1.out.1⟩
set_option maxHeartbeats 4000000 in
theorem eqCellS_same (A C : Option Addr) (L : List Ce) (cap cap' : Nat) (w : World) (hn : L.length ≤ maxLen) (hA : Sls ceV 2 w w.heap.size A L) (hC : Sls ceV 2 w w.heap.size C L) :
    Calls Tryz.prog 24 #[.slice A L.length cap, .slice C L.length cap'] w fun e w' => e = .returned (.bool true) ∧ Below w.heap.size w w' := by
  have hm := hn
  unfold maxLen at hm
  have HA := Lib.hid hA
  have HC := Lib.hid hC
  clear hA hC hn
  go_enter Tryz.func24, Tryz.ntmps24
  go_wp2_with fail
  go_loopw [5] (fun i wr => ∃ k : Nat, k ≤ L.length ∧ i = .int .i64 k ∧ Below w.heap.size w wr) (fun i _ => L.length - (intOf i).toNat)
  case atStart => exact ⟨0, Nat.zero_le _, rfl, Below.refl _ _⟩
  case round =>
    obtain ⟨k, hk, rfl, hbel⟩ := hrel
    have HB := Lib.hid hbel
    clear hbel
    by_cases hlt : k < L.length
    · obtain ⟨b, off, rfl, hb, c0, c1⟩ := Cls.at_ (HA.out.below HB.out.drew (Nat.le_refl _)) hlt
      obtain ⟨b', off', rfl, hb', d0, d1⟩ := Cls.at_ (HC.out.below HB.out.drew (Nat.le_refl _)) hlt
      have hlt' : (k : Int) < L.length := by omega
      have hk0 : (0 : Int) ≤ k := by omega
      generalize L.getD k default = T at c0 c1 d0 d1
      go_wp2_with fail
      go_region_with (go_at_call 60; refine (eqCel_same T.1 T.2 _).mono ?_; rintro e wx ⟨rfl, bx⟩)
      all_goals
        have BX := Lib.hid (HB.out.drew.trans (bx.mono HB.out.drew.size))
        clear bx c0 c1 d0 d1
        go_wp2_with fail
        go_roundw
        case rel => exact ⟨k + 1, by omega, by go_num, BX.out⟩
        case measure => simp [intOf]; omega
    · go_wp2_with fail
      go_ret
      exact ⟨rfl, HB.out⟩
set_option maxRecDepth 20000 in
set_option maxHeartbeats 4000000 in
theorem eqSlot_same (cnt mac : Int) (B B' C C' : Option Addr) (L : List Tru) (M : List Ce) (tc tc' cc cc' : Nat) (w : World) (hn : L.length ≤ maxLen) (hm : M.length ≤ maxLen) (hB : Trs w w.heap.size B L) (hB' : Trs w w.heap.size B' L) (hC : Cls w w.heap.size C M) (hC' : Cls w w.heap.size C' M) :
    Calls Tryz.prog 61 #[.agg #[.int .i64 cnt, .slice B L.length tc, .int .i64 mac, .slice C M.length cc], .agg #[.int .i64 cnt, .slice B' L.length tc', .int .i64 mac, .slice C' M.length cc']] w fun e w' => e = .returned (.bool true) ∧ Below w.heap.size w w' := by
  have K0 := Lib.hid (show Kept w [(w.heap.size + 1, 49, #[.int .i64 cnt, .slice B' L.length tc', .int .i64 mac, .slice C' M.length cc']), (w.heap.size, 49, #[.int .i64 cnt, .slice B L.length tc, .int .i64 mac, .slice C M.length cc])] _ from (((Kept.refl w).put1 _ _ #[.int .i64 cnt, .slice B L.length tc, .int .i64 mac, .slice C M.length cc] rfl).put1 _ _ #[.int .i64 cnt, .slice B' L.length tc', .int .i64 mac, .slice C' M.length cc'] (by simp)))
  have E := Lib.hid (fun u (hb : Below w.heap.size w u) => eqSeal_same cnt mac B B' L tc tc' u hn ((hB.below hb (Nat.le_refl _)).more hb.size) ((hB'.below hb (Nat.le_refl _)).more hb.size))
  have G := Lib.hid (fun u (hb : Below w.heap.size w u) => eqCellS_same C C' M cc cc' u hm ((hC.below hb (Nat.le_refl _)).more hb.size) ((hC'.below hb (Nat.le_refl _)).more hb.size))
  clear hB hB' hC hC' hn hm
  go_enter Tryz.func61, Tryz.ntmps61
  go_wp2_with fail
  refine (E.out _ K0.out.1).mono ?_; rintro e w1 ⟨rfl, b1⟩
  have h1 := K0.out.below b1
  clear b1 K0 E
  obtain ⟨kc0, kf0, kc1, kf1, -⟩ := h1.rd
  have H1 := Lib.hid h1
  clear h1
  go_wp2_with fail
  refine (G.out _ H1.out.1).mono ?_; rintro e w2 ⟨rfl, b2⟩
  have H2 := Lib.hid (H1.out.below b2)
  clear b2 H1
  go_wp2_with fail
  go_ret
  exact ⟨rfl, H2.out.1⟩
def ShX (w : World) (g : Nat) (t : TypeId) (n : Nat) : Prop := ∃ cs, CellsAt w g t cs ∧ n ≤ cs.size
def SlShort (S : List SlN) : Prop := ∀ i, i < S.length → (S.getD i default).trusts.length ≤ 1048576 ∧ (S.getD i default).cells.length ≤ 1048576
set_option maxRecDepth 20000 in
set_option maxHeartbeats 8000000 in
theorem eqSlotS_same (A C : Option Addr) (S : List SlN) (cap cap' : Nat) (w : World) (hn : S.length ≤ maxLen) (hS : SlShort S) (hA : Slots w w.heap.size A S) (hC : Slots w w.heap.size C S) :
    Calls Tryz.prog 25 #[.slice A S.length cap, .slice C S.length cap'] w fun e w' => e = .returned (.bool true) ∧ Below w.heap.size w w' := by
  have hm := hn
  unfold maxLen at hm
  have HA := Lib.hid hA
  have HC := Lib.hid hC
  have HS := Lib.hid hS
  have EQ := Lib.hid (fun (s : SlN) (B : Option Addr) (tc : Nat) (C : Option Addr) (cc : Nat) (B' : Option Addr) (tc' : Nat) (C' : Option Addr) (cc' : Nat) (h1 : s.trusts.length ≤ 1048576 ∧ s.cells.length ≤ 1048576) (hr : SlR w w.heap.size B tc C cc s) (hr' : SlR w w.heap.size B' tc' C' cc' s) (u : World) (hb : Below w.heap.size w u) =>
    eqSlot_same s.count s.mac B B' C C' s.trusts s.cells tc tc' cc cc' u (by unfold maxLen; omega) (by unfold maxLen; omega) ((hr.1.below hb (Nat.le_refl _)).more hb.size) ((hr'.1.below hb (Nat.le_refl _)).more hb.size) ((hr.2.below hb (Nat.le_refl _)).more hb.size) ((hr'.2.below hb (Nat.le_refl _)).more hb.size))
  clear hA hC hS hn
  go_enter Tryz.func25, Tryz.ntmps25
  go_wp2_with fail
  go_loopw [5] (fun i wr => ∃ k : Nat, k ≤ S.length ∧ i = .int .i64 k ∧ Below w.heap.size w wr) (fun i _ => S.length - (intOf i).toNat)
  case atStart => exact ⟨0, Nat.zero_le _, rfl, Below.refl _ _⟩
  case round =>
    obtain ⟨k, hk, rfl, hbel⟩ := hrel
    have HB := Lib.hid hbel
    clear hbel
    by_cases hlt : k < S.length
    · obtain ⟨b, off, rfl, hb, B, tc, D, cc, c0, c1, c2, c3, hr⟩ := HA.out k hlt
      obtain ⟨b', off', rfl, hb', B', tc', D', cc', d0, d1, d2, d3, hr'⟩ := HC.out k hlt
      have hlt' : (k : Int) < S.length := by omega
      have hk0 : (0 : Int) ≤ k := by omega
      have CQ := Lib.hid (EQ.out _ B tc D cc B' tc' D' cc' (HS.out k hlt) hr hr')
      clear hr hr'
      generalize S.getD k default = s at c0 c1 c2 c3 d0 d1 d2 d3 CQ
      obtain ⟨sc, st, sm, sd⟩ := s
      simp only [] at c0 c1 c2 c3 d0 d1 d2 d3 CQ
      have FA := Lib.hid (fun (u : World) (hu : Below w.heap.size w u) (o : Nat) => hu.cell (p := ⟨b, o, none⟩) hb)
      have FC := Lib.hid (fun (u : World) (hu : Below w.heap.size w u) (o : Nat) => hu.cell (p := ⟨b', o, none⟩) hb')
      have HD := Lib.hid HB.out.drew
      replace c0 := (FA.out _ HD.out _).trans c0
      replace c1 := (FA.out _ HD.out _).trans c1
      replace c2 := (FA.out _ HD.out _).trans c2
      replace c3 := (FA.out _ HD.out _).trans c3
      replace d0 := (FC.out _ HD.out _).trans d0
      replace d1 := (FC.out _ HD.out _).trans d1
      replace d2 := (FC.out _ HD.out _).trans d2
      replace d3 := (FC.out _ HD.out _).trans d3
      go_wp2_with fail
      go_region_with (go_at_call 61; refine (CQ.out _ HD.out).mono ?_; rintro e wx ⟨rfl, bx⟩)
      all_goals
        have BX := Lib.hid (HD.out.trans (bx.mono HD.out.size))
        clear bx c0 c1 c2 c3 d0 d1 d2 d3
        go_wp2_with fail
        go_roundw
        case rel => exact ⟨k + 1, by omega, by go_num, BX.out⟩
        case measure => simp [intOf]; omega
    · go_wp2_with fail
      go_ret
      exact ⟨rfl, HB.out⟩
structure VolG where
  key : Int
  counts : List Int
  trusts : List Tru
  cells : List Ce
  slots : List SlN
  count : Int
def RdG (w : World) (Bd : Nat) (x : VolG) (v : Value) : Prop :=
  ∃ A c B d C e E s, v = .agg #[.int .i64 x.key, .slice A x.counts.length c, .slice B x.trusts.length d, .slice C x.cells.length e, .slice E x.slots.length s, .int .i64 x.count] ∧ Ints w .i64 Bd A x.counts ∧ Trs w Bd B x.trusts ∧ Cls w Bd C x.cells ∧ Slots w Bd E x.slots ∧ x.counts.length ≤ c ∧ x.slots.length ≤ s
theorem RdG.below {w u : World} {Bd D : Nat} {x : VolG} {v : Value} (h : RdG w Bd x v) (hb : Below D w u) (hD : Bd ≤ D) : RdG u Bd x v := by
  obtain ⟨A, c, B, d, C, e, E, s, rfl, h1, h2, h3, h4, h5⟩ := h
  exact ⟨A, c, B, d, C, e, E, s, rfl, h1.below hb hD, h2.below hb hD, h3.below hb hD, h4.below hb hD, h5⟩
theorem RdG.more {w : World} {Bd D : Nat} {x : VolG} {v : Value} (h : RdG w Bd x v) (hD : Bd ≤ D) : RdG w D x v := by
  obtain ⟨A, c, B, d, C, e, E, s, rfl, h1, h2, h3, h4, h5⟩ := h
  exact ⟨A, c, B, d, C, e, E, s, rfl, h1.more hD, h2.more hD, h3.more hD, h4.more hD, h5⟩
theorem RdG.grow {w u : World} {x : VolG} {v : Value} (h : RdG w w.heap.size x v) (hb : Below w.heap.size w u) : RdG u u.heap.size x v := (h.below hb (Nat.le_refl _)).more hb.size
def VolG.Short (x : VolG) : Prop := x.counts.length ≤ 1048576 ∧ x.trusts.length ≤ 1048576 ∧ x.cells.length ≤ 1048576 ∧ x.slots.length ≤ 1048576 ∧ SlShort x.slots
end Go.Proofs.YtgaecedhkbneaaaGreat.Mx

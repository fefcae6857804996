import Derived.Test.YteoijmejhdocdaaGreatDoorG20
import Derived.Test.YteoijmejhdocdaaGreatDoorG13
import Derived.Test.YteoijmejhdocdaaGreatDoorG14
import Derived.Test.YteoijmejhdocdaaGreatDoorG15
import Derived.Test.YteoijmejhdocdaaGreatDoorG11
import Derived.Test.YteoijmejhdocdaaGreatDoorG03
import Derived.Test.YteoijmejhdocdaaGreatDoorG18
import Derived.Test.YteoijmejhdocdaaGreatDoorG08
namespace Go.Proofs.YteoijmejhdocdaaGreatDoor.Mx
open Go.ChangeShapes Go.WideShapes Go.ChangeAt Go.RowKit
set_option linter.unusedVariables false
def MarkT (w : World) (g n : Nat) (m : Int) : Prop := ∀ j, j < n → w.cell? ⟨g, j * 8, none⟩ = some (.int .i64 (m + 8 * j)) ∧ w.cell? ⟨g, j * 8 + 1, none⟩ = some (.int .i64 (m + 8 * j + 1)) ∧ w.cell? ⟨g, j * 8 + 2, none⟩ = some (.int .i64 (m + 8 * j + 2)) ∧ w.cell? ⟨g, j * 8 + 3, none⟩ = some (.int .i64 (m + 8 * j + 3)) ∧ w.cell? ⟨g, j * 8 + 4, none⟩ = some (.int .i64 (m + 8 * j + 4)) ∧ w.cell? ⟨g, j * 8 + 5, none⟩ = some (.int .i64 (m + 8 * j + 5)) ∧ w.cell? ⟨g, j * 8 + 6, none⟩ = some (.int .i64 (m + 8 * j + 6)) ∧ w.cell? ⟨g, j * 8 + 7, none⟩ = some (.bool ((m + 8 * j + 7) % 3 == 0))
theorem MarkT.block {w u : World} {g n : Nat} {m : Int} (h : MarkT w g n m) (hb : u.heap[g]? = w.heap[g]?) : MarkT u g n m := by
  have f : ∀ o, u.cell? ⟨g, o, none⟩ = w.cell? ⟨g, o, none⟩ := fun o => by simp [World.cell?, hb]
  intro j hj
  obtain ⟨h0, h1, h2, h3, h4, h5, h6, h7⟩ := h j hj
  exact ⟨(f _).trans h0, (f _).trans h1, (f _).trans h2, (f _).trans h3, (f _).trans h4, (f _).trans h5, (f _).trans h6, (f _).trans h7⟩
theorem set8_off (ds : Array Value) (b i : Nat) (v0 v1 v2 v3 v4 v5 v6 v7 : Value) (h : i < b) : ((((((((ds.setIfInBounds (b) v0).setIfInBounds (b + 1) v1).setIfInBounds (b + 2) v2).setIfInBounds (b + 3) v3).setIfInBounds (b + 4) v4).setIfInBounds (b + 5) v5).setIfInBounds (b + 6) v6).setIfInBounds (b + 7) v7)[i]? = ds[i]? := by
  rw [Array.getElem?_setIfInBounds_ne (by omega), Array.getElem?_setIfInBounds_ne (by omega), Array.getElem?_setIfInBounds_ne (by omega), Array.getElem?_setIfInBounds_ne (by omega), Array.getElem?_setIfInBounds_ne (by omega), Array.getElem?_setIfInBounds_ne (by omega), Array.getElem?_setIfInBounds_ne (by omega), Array.getElem?_setIfInBounds_ne (by omega)]
theorem set8_at0 (ds : Array Value) (b : Nat) (v0 v1 v2 v3 v4 v5 v6 v7 : Value) (h : b + 8 ≤ ds.size) : ((((((((ds.setIfInBounds (b) v0).setIfInBounds (b + 1) v1).setIfInBounds (b + 2) v2).setIfInBounds (b + 3) v3).setIfInBounds (b + 4) v4).setIfInBounds (b + 5) v5).setIfInBounds (b + 6) v6).setIfInBounds (b + 7) v7)[b]? = some v0 := by
  rw [Array.getElem?_setIfInBounds_ne (by omega), Array.getElem?_setIfInBounds_ne (by omega), Array.getElem?_setIfInBounds_ne (by omega), Array.getElem?_setIfInBounds_ne (by omega), Array.getElem?_setIfInBounds_ne (by omega), Array.getElem?_setIfInBounds_ne (by omega), Array.getElem?_setIfInBounds_ne (by omega), Array.getElem?_setIfInBounds_self_of_lt (by omega)]
theorem set8_at1 (ds : Array Value) (b : Nat) (v0 v1 v2 v3 v4 v5 v6 v7 : Value) (h : b + 8 ≤ ds.size) : ((((((((ds.setIfInBounds (b) v0).setIfInBounds (b + 1) v1).setIfInBounds (b + 2) v2).setIfInBounds (b + 3) v3).setIfInBounds (b + 4) v4).setIfInBounds (b + 5) v5).setIfInBounds (b + 6) v6).setIfInBounds (b + 7) v7)[b + 1]? = some v1 := by
  rw [Array.getElem?_setIfInBounds_ne (by omega), Array.getElem?_setIfInBounds_ne (by omega), Array.getElem?_setIfInBounds_ne (by omega), Array.getElem?_setIfInBounds_ne (by omega), Array.getElem?_setIfInBounds_ne (by omega), Array.getElem?_setIfInBounds_ne (by omega), Array.getElem?_setIfInBounds_self_of_lt (by simp only [Array.size_setIfInBounds]; omega)]
theorem set8_at2 (ds : Array Value) (b : Nat) (v0 v1 v2 v3 v4 v5 v6 v7 : Value) (h : b + 8 ≤ ds.size) : ((((((((ds.setIfInBounds (b) v0).setIfInBounds (b + 1) v1).setIfInBounds (b + 2) v2).setIfInBounds (b + 3) v3).setIfInBounds (b + 4) v4).setIfInBounds (b + 5) v5).setIfInBounds (b + 6) v6).setIfInBounds (b + 7) v7)[b + 2]? = some v2 := by
  rw [Array.getElem?_setIfInBounds_ne (by omega), Array.getElem?_setIfInBounds_ne (by omega), Array.getElem?_setIfInBounds_ne (by omega), Array.getElem?_setIfInBounds_ne (by omega), Array.getElem?_setIfInBounds_ne (by omega), Array.getElem?_setIfInBounds_self_of_lt (by simp only [Array.size_setIfInBounds]; omega)]
theorem set8_at3 (ds : Array Value) (b : Nat) (v0 v1 v2 v3 v4 v5 v6 v7 : Value) (h : b + 8 ≤ ds.size) : ((((((((ds.setIfInBounds (b) v0).setIfInBounds (b + 1) v1).setIfInBounds (b + 2) v2).setIfInBounds (b + 3) v3).setIfInBounds (b + 4) v4).setIfInBounds (b + 5) v5).setIfInBounds (b + 6) v6).setIfInBounds (b + 7) v7)[b + 3]? = some v3 := by
  rw [Array.getElem?_setIfInBounds_ne (by omega), Array.getElem?_setIfInBounds_ne (by omega), Array.getElem?_setIfInBounds_ne (by omega), Array.getElem?_setIfInBounds_ne (by omega), Array.getElem?_setIfInBounds_self_of_lt (by simp only [Array.size_setIfInBounds]; omega)]
theorem set8_at4 (ds : Array Value) (b : Nat) (v0 v1 v2 v3 v4 v5 v6 v7 : Value) (h : b + 8 ≤ ds.size) : ((((((((ds.setIfInBounds (b) v0).setIfInBounds (b + 1) v1).setIfInBounds (b + 2) v2).setIfInBounds (b + 3) v3).setIfInBounds (b + 4) v4).setIfInBounds (b + 5) v5).setIfInBounds (b + 6) v6).setIfInBounds (b + 7) v7)[b + 4]? = some v4 := by
  rw [Array.getElem?_setIfInBounds_ne (by omega), Array.getElem?_setIfInBounds_ne (by omega), Array.getElem?_setIfInBounds_ne (by omega), Array.getElem?_setIfInBounds_self_of_lt (by simp only [Array.size_setIfInBounds]; omega)]
theorem set8_at5 (ds : Array Value) (b : Nat) (v0 v1 v2 v3 v4 v5 v6 v7 : Value) (h : b + 8 ≤ ds.size) : ((((((((ds.setIfInBounds (b) v0).setIfInBounds (b + 1) v1).setIfInBounds (b + 2) v2).setIfInBounds (b + 3) v3).setIfInBounds (b + 4) v4).setIfInBounds (b + 5) v5).setIfInBounds (b + 6) v6).setIfInBounds (b + 7) v7)[b + 5]? = some v5 := by
  rw [Array.getElem?_setIfInBounds_ne (by omega), Array.getElem?_setIfInBounds_ne (by omega), Array.getElem?_setIfInBounds_self_of_lt (by simp only [Array.size_setIfInBounds]; omega)]
theorem set8_at6 (ds : Array Value) (b : Nat) (v0 v1 v2 v3 v4 v5 v6 v7 : Value) (h : b + 8 ≤ ds.size) : ((((((((ds.setIfInBounds (b) v0).setIfInBounds (b + 1) v1).setIfInBounds (b + 2) v2).setIfInBounds (b + 3) v3).setIfInBounds (b + 4) v4).setIfInBounds (b + 5) v5).setIfInBounds (b + 6) v6).setIfInBounds (b + 7) v7)[b + 6]? = some v6 := by
  rw [Array.getElem?_setIfInBounds_ne (by omega), Array.getElem?_setIfInBounds_self_of_lt (by simp only [Array.size_setIfInBounds]; omega)]
theorem set8_at7 (ds : Array Value) (b : Nat) (v0 v1 v2 v3 v4 v5 v6 v7 : Value) (h : b + 8 ≤ ds.size) : ((((((((ds.setIfInBounds (b) v0).setIfInBounds (b + 1) v1).setIfInBounds (b + 2) v2).setIfInBounds (b + 3) v3).setIfInBounds (b + 4) v4).setIfInBounds (b + 5) v5).setIfInBounds (b + 6) v6).setIfInBounds (b + 7) v7)[b + 7]? = some v7 := by
  rw [Array.getElem?_setIfInBounds_self_of_lt (by simp only [Array.size_setIfInBounds]; omega)]
theorem markTrustS_nil (A : Option Addr) (c : Nat) (m : Int) (w : World) : Calls Tryz.prog 114 #[.slice A 0 c, .int .i64 m] w fun e w' => e = .returned (.int .i64 m) ∧ w = w' := by
  go_enter Tryz.func114, Tryz.ntmps114
  go_wp2_with fail
  go_loop [5, 1] (fun i t => i = .int .i64 0 ∧ t = .int .i64 m) (fun _ _ => 0)
  case atStart => exact ⟨rfl, rfl⟩
  case round =>
    obtain ⟨rfl, rfl⟩ := hrel
    go_wp2_with fail
    go_ret
    exact ⟨rfl, rfl⟩
theorem heldTrustS_nil (A : Option Addr) (c : Nat) (m : Int) (w : World) : Calls Tryz.prog 118 #[.slice A 0 c, .int .i64 m] w fun e w' => e = .returned (.int .i64 m) ∧ w = w' := by
  go_enter Tryz.func118, Tryz.ntmps118
  go_wp2_with fail
  go_loop [5, 1] (fun i t => i = .int .i64 0 ∧ t = .int .i64 m) (fun _ _ => 0)
  case atStart => exact ⟨rfl, rfl⟩
  case round =>
    obtain ⟨rfl, rfl⟩ := hrel
    go_wp2_with fail
    go_ret
    exact ⟨rfl, rfl⟩
set_option maxRecDepth 20000 in
set_option maxHeartbeats 4000000 in
theorem markTrustG_calls (g n cap : Nat) (m : Int) (t : TypeId) (cs : Array Value) (w : World) (hn : n ≤ 1048576) (hm0 : 0 ≤ m) (hm1 : m ≤ 1125899906842624) (hc : CellsAt w g t cs) (hs : n * 8 ≤ cs.size) :
    Calls Tryz.prog 114 #[.slice (some ⟨g, 0, none⟩) n cap, .int .i64 m] w fun e w' => e = .returned (.int .i64 (m + 8 * n)) ∧ MarkT w' g n m ∧ w.grownBy w' (some g) ∧ ∃ ds, CellsAt w' g t ds ∧ ds.size = cs.size := by
  have HC := Lib.hid hc
  have HS := Lib.hid hs
  clear hc hs
  go_enter Tryz.func114, Tryz.ntmps114
  go_wp2_with fail
  go_loopw [5, 1] (fun i t' u => ∃ k : Nat, ∃ z : Int, k ≤ n ∧ i = .int .i64 k ∧ z = m + 8 * k ∧ t' = .int .i64 z ∧ (∃ ds, CellsAt u g t ds ∧ ds.size = cs.size) ∧ MarkT u g k m ∧ w.grownBy u (some g)) (fun i _ _ => n - (intOf i).toNat)
  case atStart => exact ⟨0, m, by omega, rfl, by simp, rfl, ⟨cs, HC.out, rfl⟩, fun j hj => by omega, gb_refl _ _⟩
  case round =>
    obtain ⟨k, z, hk, rfl, hz, rfl, ⟨ds, hd, hds⟩, hmk, hg⟩ := hrel
    have HZ := Lib.hid hz
    have HG := Lib.hid hg
    have HM := Lib.hid hmk
    have hcs := HS.out
    have z0 : 0 ≤ z := by omega
    have z1 : z ≤ 1125899923619840 := by omega
    by_cases hlt : k < n
    · have hlt' : (k : Int) < n := by omega
      obtain ⟨q0, e0⟩ : ∃ q, wr.cell? ⟨g, k * 8, none⟩ = some q := ⟨_, (hd.cell (k * 8)).trans (Array.getElem?_eq_getElem (by omega))⟩
      obtain ⟨q1, e1⟩ : ∃ q, wr.cell? ⟨g, k * 8 + 1, none⟩ = some q := ⟨_, (hd.cell (k * 8 + 1)).trans (Array.getElem?_eq_getElem (by omega))⟩
      obtain ⟨q2, e2⟩ : ∃ q, wr.cell? ⟨g, k * 8 + 2, none⟩ = some q := ⟨_, (hd.cell (k * 8 + 2)).trans (Array.getElem?_eq_getElem (by omega))⟩
      obtain ⟨q3, e3⟩ : ∃ q, wr.cell? ⟨g, k * 8 + 3, none⟩ = some q := ⟨_, (hd.cell (k * 8 + 3)).trans (Array.getElem?_eq_getElem (by omega))⟩
      obtain ⟨q4, e4⟩ : ∃ q, wr.cell? ⟨g, k * 8 + 4, none⟩ = some q := ⟨_, (hd.cell (k * 8 + 4)).trans (Array.getElem?_eq_getElem (by omega))⟩
      obtain ⟨q5, e5⟩ : ∃ q, wr.cell? ⟨g, k * 8 + 5, none⟩ = some q := ⟨_, (hd.cell (k * 8 + 5)).trans (Array.getElem?_eq_getElem (by omega))⟩
      obtain ⟨q6, e6⟩ : ∃ q, wr.cell? ⟨g, k * 8 + 6, none⟩ = some q := ⟨_, (hd.cell (k * 8 + 6)).trans (Array.getElem?_eq_getElem (by omega))⟩
      obtain ⟨q7, e7⟩ : ∃ q, wr.cell? ⟨g, k * 8 + 7, none⟩ = some q := ⟨_, (hd.cell (k * 8 + 7)).trans (Array.getElem?_eq_getElem (by omega))⟩
      have hf : ∀ j, wr.frozen? ⟨g, j, none⟩ = false := hd.frozen
      have HD := Lib.hid hd
      have HDS := Lib.hid hds
      clear hd hds hz hg hmk hcs
      go_wp2_with fail
      go_roundw
      case rel =>
        have h2 := ((((((((HD.out.set_ (k * 8) (.int .i64 z)).set_ (k * 8 + 1) (.int .i64 (z + 1))).set_ (k * 8 + 2) (.int .i64 (z + 1 + 1))).set_ (k * 8 + 3) (.int .i64 (z + 1 + 1 + 1))).set_ (k * 8 + 4) (.int .i64 (z + 1 + 1 + 1 + 1))).set_ (k * 8 + 5) (.int .i64 (z + 1 + 1 + 1 + 1 + 1))).set_ (k * 8 + 6) (.int .i64 (z + 1 + 1 + 1 + 1 + 1 + 1))).set_ (k * 8 + 7) (.bool ((z + 1 + 1 + 1 + 1 + 1 + 1 + 1) % 3 == 0)))
        have hb := (gb_set (gb_set (gb_set (gb_set (gb_set (gb_set (gb_set (gb_set (gb_refl wr (some g)) (k * 8) (.int .i64 z)) (k * 8 + 1) (.int .i64 (z + 1))) (k * 8 + 2) (.int .i64 (z + 1 + 1))) (k * 8 + 3) (.int .i64 (z + 1 + 1 + 1))) (k * 8 + 4) (.int .i64 (z + 1 + 1 + 1 + 1))) (k * 8 + 5) (.int .i64 (z + 1 + 1 + 1 + 1 + 1))) (k * 8 + 6) (.int .i64 (z + 1 + 1 + 1 + 1 + 1 + 1))) (k * 8 + 7) (.bool ((z + 1 + 1 + 1 + 1 + 1 + 1 + 1) % 3 == 0)))
        refine ⟨k + 1, z + 1 + 1 + 1 + 1 + 1 + 1 + 1 + 1, by omega, by go_num, by have := HZ.out; omega, rfl, ⟨_, h2, by simp; exact HDS.out⟩, fun j hj => ?_, gb_trans HG.out hb⟩
        have hsz := HDS.out
        have hcs := HS.out
        by_cases hjk : j = k
        · subst hjk
          rw [h2.cell, h2.cell, h2.cell, h2.cell, h2.cell, h2.cell, h2.cell, h2.cell, ← HZ.out]
          have h8 : j * 8 + 8 ≤ ds.size := by omega
          rw [set8_at0 _ _ _ _ _ _ _ _ _ _ h8, set8_at1 _ _ _ _ _ _ _ _ _ _ h8, set8_at2 _ _ _ _ _ _ _ _ _ _ h8, set8_at3 _ _ _ _ _ _ _ _ _ _ h8, set8_at4 _ _ _ _ _ _ _ _ _ _ h8, set8_at5 _ _ _ _ _ _ _ _ _ _ h8, set8_at6 _ _ _ _ _ _ _ _ _ _ h8, set8_at7 _ _ _ _ _ _ _ _ _ _ h8]
          simp only [Int.add_assoc, Int.reduceAdd, and_self]
        · have ho := HM.out j (by omega)
          rw [HD.out.cell, HD.out.cell, HD.out.cell, HD.out.cell, HD.out.cell, HD.out.cell, HD.out.cell, HD.out.cell] at ho
          rw [h2.cell, h2.cell, h2.cell, h2.cell, h2.cell, h2.cell, h2.cell, h2.cell]
          rw [set8_off _ _ _ _ _ _ _ _ _ _ _ (by omega), set8_off _ _ _ _ _ _ _ _ _ _ _ (by omega), set8_off _ _ _ _ _ _ _ _ _ _ _ (by omega), set8_off _ _ _ _ _ _ _ _ _ _ _ (by omega), set8_off _ _ _ _ _ _ _ _ _ _ _ (by omega), set8_off _ _ _ _ _ _ _ _ _ _ _ (by omega), set8_off _ _ _ _ _ _ _ _ _ _ _ (by omega), set8_off _ _ _ _ _ _ _ _ _ _ _ (by omega)]
          exact ho
      case measure => simp [intOf]; omega
    · obtain rfl : n = k := by omega
      have HD := Lib.hid hd
      have HDS := Lib.hid hds
      clear hd hds hz hg hmk hcs
      go_wp2_with fail
      go_ret
      exact ⟨by rw [HZ.out]; rfl, HM.out, HG.out, ds, HD.out, HDS.out⟩
set_option maxRecDepth 20000 in
set_option maxHeartbeats 4000000 in
theorem markCellG_calls (g n cap : Nat) (m : Int) (t : TypeId) (cs : Array Value) (w : World) (hn : n ≤ 1048576) (hm0 : 0 ≤ m) (hm1 : m ≤ 1125899906842624) (hc : CellsAt w g t cs) (hs : n * 2 ≤ cs.size) :
    Calls Tryz.prog 115 #[.slice (some ⟨g, 0, none⟩) n cap, .int .i64 m] w fun e w' => e = .returned (.int .i64 (m + 2 * n)) ∧ MarkC w' g n m ∧ w.grownBy w' (some g) ∧ ∃ ds, CellsAt w' g t ds ∧ ds.size = cs.size := by
  have HC := Lib.hid hc
  have HS := Lib.hid hs
  clear hc hs
  go_enter Tryz.func115, Tryz.ntmps115
  go_wp2_with fail
  go_loopw [5, 1] (fun i t' u => ∃ k : Nat, ∃ z : Int, k ≤ n ∧ i = .int .i64 k ∧ z = m + 2 * k ∧ t' = .int .i64 z ∧ (∃ ds, CellsAt u g t ds ∧ ds.size = cs.size) ∧ MarkC u g k m ∧ w.grownBy u (some g)) (fun i _ _ => n - (intOf i).toNat)
  case atStart => exact ⟨0, m, by omega, rfl, by simp, rfl, ⟨cs, HC.out, rfl⟩, fun j hj => by omega, gb_refl _ _⟩
  case round =>
    obtain ⟨k, z, hk, rfl, hz, rfl, ⟨ds, hd, hds⟩, hmk, hg⟩ := hrel
    have HZ := Lib.hid hz
    have HG := Lib.hid hg
    have HM := Lib.hid hmk
    have hcs := HS.out
    have z0 : 0 ≤ z := by omega
    have z1 : z ≤ 1125899923619840 := by omega
    by_cases hlt : k < n
    · have hlt' : (k : Int) < n := by omega
      obtain ⟨q0, e0⟩ : ∃ q, wr.cell? ⟨g, k * 2, none⟩ = some q := ⟨_, (hd.cell (k * 2)).trans (Array.getElem?_eq_getElem (by omega))⟩
      obtain ⟨q1, e1⟩ : ∃ q, wr.cell? ⟨g, k * 2 + 1, none⟩ = some q := ⟨_, (hd.cell (k * 2 + 1)).trans (Array.getElem?_eq_getElem (by omega))⟩
      have hf : ∀ j, wr.frozen? ⟨g, j, none⟩ = false := hd.frozen
      have HD := Lib.hid hd
      have HDS := Lib.hid hds
      clear hd hds hz hg hmk hcs
      go_wp2_with fail
      go_roundw
      case rel =>
        have h2 := (HD.out.set_ (k * 2) (.int .i64 z)).set_ (k * 2 + 1) (.int .i64 (z + 1))
        have hb := gb_set (gb_set (gb_refl wr (some g)) (k * 2) (.int .i64 z)) (k * 2 + 1) (.int .i64 (z + 1))
        refine ⟨k + 1, z + 1 + 1, by omega, by go_num, by have := HZ.out; omega, rfl, ⟨_, h2, by simp; exact HDS.out⟩, fun j hj => ?_, gb_trans HG.out hb⟩
        have hsz := HDS.out
        have hcs := HS.out
        by_cases hjk : j = k
        · subst hjk
          rw [h2.cell, h2.cell, ← HZ.out]
          constructor
          · rw [Array.getElem?_setIfInBounds_ne (by omega), Array.getElem?_setIfInBounds_self_of_lt (by omega)]
          · rw [Array.getElem?_setIfInBounds_self_of_lt (by simp; omega)]
        · have ho := HM.out j (by omega)
          rw [HD.out.cell, HD.out.cell] at ho
          rw [h2.cell, h2.cell]
          constructor
          · rw [Array.getElem?_setIfInBounds_ne (by omega), Array.getElem?_setIfInBounds_ne (by omega)]; exact ho.1
          · rw [Array.getElem?_setIfInBounds_ne (by omega), Array.getElem?_setIfInBounds_ne (by omega)]; exact ho.2
      case measure => simp [intOf]; omega
    · obtain rfl : n = k := by omega
      have HD := Lib.hid hd
      have HDS := Lib.hid hds
      clear hd hds hz hg hmk hcs
      go_wp2_with fail
      go_ret
      exact ⟨by rw [HZ.out]; rfl, HM.out, HG.out, ds, HD.out, HDS.out⟩
set_option maxRecDepth 20000 in
set_option maxHeartbeats 4000000 in
theorem heldTrustG_calls (g n cap : Nat) (m : Int) (w : World) (hn : n ≤ 1048576) (hm0 : 0 ≤ m) (hm1 : m ≤ 1125899906842624) (hc : MarkT w g n m) :
    Calls Tryz.prog 118 #[.slice (some ⟨g, 0, none⟩) n cap, .int .i64 m] w fun e w' => e = .returned (.int .i64 (m + 8 * n)) ∧ w = w' := by
  have HC := Lib.hid hc
  clear hc
  go_enter Tryz.func118, Tryz.ntmps118
  go_wp2_with fail
  go_loop [5, 1] (fun i t' => ∃ k : Nat, ∃ z : Int, k ≤ n ∧ i = .int .i64 k ∧ z = m + 8 * k ∧ t' = .int .i64 z) (fun i _ => n - (intOf i).toNat)
  case atStart => exact ⟨0, m, by omega, rfl, by simp, rfl⟩
  case round =>
    obtain ⟨k, z, hk, rfl, hz, rfl⟩ := hrel
    have z0 : 0 ≤ z := by omega
    have z1 : z ≤ 1125899923619840 := by omega
    by_cases hlt : k < n
    · have hlt' : (k : Int) < n := by omega
      have hc := HC.out k hlt
      rw [← hz] at hc
      obtain ⟨c0, c1, c2, c3, c4, c5, c6, c7⟩ := hc
      rw [show z + 2 = z + 1 + 1 by omega] at c2
      rw [show z + 3 = z + 1 + 1 + 1 by omega] at c3
      rw [show z + 4 = z + 1 + 1 + 1 + 1 by omega] at c4
      rw [show z + 5 = z + 1 + 1 + 1 + 1 + 1 by omega] at c5
      rw [show z + 6 = z + 1 + 1 + 1 + 1 + 1 + 1 by omega] at c6
      rw [show z + 7 = z + 1 + 1 + 1 + 1 + 1 + 1 + 1 by omega] at c7
      have HZ := Lib.hid hz
      clear hz
      go_wp2_with fail
      go_round
      case rel => exact ⟨k + 1, z + 1 + 1 + 1 + 1 + 1 + 1 + 1 + 1, by omega, by go_num, by have := HZ.out; omega, rfl⟩
      case measure => simp [intOf]; omega
    · obtain rfl : n = k := by omega
      have HZ := Lib.hid hz
      clear hz
      go_wp2_with fail
      go_ret
      exact ⟨by rw [HZ.out]; rfl, rfl⟩
set_option maxRecDepth 20000 in
set_option maxHeartbeats 4000000 in
theorem heldCellG_calls (g n cap : Nat) (m : Int) (w : World) (hn : n ≤ 1048576) (hm0 : 0 ≤ m) (hm1 : m ≤ 1125899906842624) (hc : MarkC w g n m) :
    Calls Tryz.prog 119 #[.slice (some ⟨g, 0, none⟩) n cap, .int .i64 m] w fun e w' => e = .returned (.int .i64 (m + 2 * n)) ∧ w = w' := by
  have HC := Lib.hid hc
  clear hc
  go_enter Tryz.func119, Tryz.ntmps119
  go_wp2_with fail
  go_loop [5, 1] (fun i t' => ∃ k : Nat, ∃ z : Int, k ≤ n ∧ i = .int .i64 k ∧ z = m + 2 * k ∧ t' = .int .i64 z) (fun i _ => n - (intOf i).toNat)
  case atStart => exact ⟨0, m, by omega, rfl, by simp, rfl⟩
  case round =>
    obtain ⟨k, z, hk, rfl, hz, rfl⟩ := hrel
    have z0 : 0 ≤ z := by omega
    have z1 : z ≤ 1125899923619840 := by omega
    by_cases hlt : k < n
    · have hlt' : (k : Int) < n := by omega
      have hc := HC.out k hlt
      rw [← hz] at hc
      obtain ⟨c0, c1⟩ := hc
      have HZ := Lib.hid hz
      clear hz
      go_wp2_with fail
      go_round
      case rel => exact ⟨k + 1, z + 1 + 1, by omega, by go_num, by have := HZ.out; omega, rfl⟩
      case measure => simp [intOf]; omega
    · obtain rfl : n = k := by omega
      have HZ := Lib.hid hz
      clear hz
      go_wp2_with fail
      go_ret
      exact ⟨by rw [HZ.out]; rfl, rfl⟩
def MarkN (w : World) (g n : Nat) (m : Int) : Prop := ∀ j, j < n → w.cell? ⟨g, j, none⟩ = some (.int .i64 (m + j))
theorem MarkN.block {w u : World} {g n : Nat} {m : Int} (h : MarkN w g n m) (hb : u.heap[g]? = w.heap[g]?) : MarkN u g n m := by
  have f : ∀ o, u.cell? ⟨g, o, none⟩ = w.cell? ⟨g, o, none⟩ := fun o => by simp [World.cell?, hb]
  exact fun j hj => (f _).trans (h j hj)
set_option maxRecDepth 20000 in
set_option maxHeartbeats 4000000 in
theorem markInt64G_calls (g n cap : Nat) (m : Int) (t : TypeId) (cs : Array Value) (w : World) (hn : n ≤ 1048576) (hm0 : 0 ≤ m) (hm1 : m ≤ 1125899906842624) (hc : CellsAt w g t cs) (hs : n ≤ cs.size) :
    Calls Tryz.prog 183 #[.slice (some ⟨g, 0, none⟩) n cap, .int .i64 m] w fun e w' => e = .returned (.int .i64 (m + n)) ∧ MarkN w' g n m ∧ w.grownBy w' (some g) ∧ ∃ ds, CellsAt w' g t ds ∧ ds.size = cs.size := by
  have HC := Lib.hid hc
  have HS := Lib.hid hs
  clear hc hs
  go_enter Tryz.func183, Tryz.ntmps183
  go_wp2_with fail
  go_loopw [5, 1] (fun i t' u => ∃ k : Nat, ∃ z : Int, k ≤ n ∧ i = .int .i64 k ∧ z = m + k ∧ t' = .int .i64 z ∧ (∃ ds, CellsAt u g t ds ∧ ds.size = cs.size) ∧ MarkN u g k m ∧ w.grownBy u (some g)) (fun i _ _ => n - (intOf i).toNat)
  case atStart => exact ⟨0, m, by omega, rfl, by simp, rfl, ⟨cs, HC.out, rfl⟩, fun j hj => by omega, gb_refl _ _⟩
  case round =>
    obtain ⟨k, z, hk, rfl, hz, rfl, ⟨ds, hd, hds⟩, hmk, hg⟩ := hrel
    have HZ := Lib.hid hz
    have HG := Lib.hid hg
    have HM := Lib.hid hmk
    have hcs := HS.out
    have z0 : 0 ≤ z := by omega
    have z1 : z ≤ 1125899923619840 := by omega
    by_cases hlt : k < n
    · have hlt' : (k : Int) < n := by omega
      obtain ⟨q0, e0⟩ : ∃ q, wr.cell? ⟨g, k, none⟩ = some q := ⟨_, (hd.cell k).trans (Array.getElem?_eq_getElem (by omega))⟩
      have hf : ∀ j, wr.frozen? ⟨g, j, none⟩ = false := hd.frozen
      have HD := Lib.hid hd
      have HDS := Lib.hid hds
      clear hd hds hz hg hmk hcs
      go_wp2_with fail
      go_roundw
      case rel =>
        have h2 := HD.out.set_ k (.int .i64 z)
        have hb := gb_set (gb_refl wr (some g)) k (.int .i64 z)
        refine ⟨k + 1, z + 1, by omega, by go_num, by have := HZ.out; omega, rfl, ⟨_, h2, by simp; exact HDS.out⟩, fun j hj => ?_, gb_trans HG.out hb⟩
        have hsz := HDS.out
        have hcs := HS.out
        by_cases hjk : j = k
        · subst hjk
          rw [h2.cell, ← HZ.out, Array.getElem?_setIfInBounds_self_of_lt (by omega)]
        · have ho := HM.out j (by omega)
          rw [HD.out.cell] at ho
          rw [h2.cell, Array.getElem?_setIfInBounds_ne (by omega)]; exact ho
      case measure => simp [intOf]; omega
    · obtain rfl : n = k := by omega
      have HD := Lib.hid hd
      have HDS := Lib.hid hds
      clear hd hds hz hg hmk hcs
      go_wp2_with fail
      go_ret
      exact ⟨by rw [HZ.out]; rfl, HM.out, HG.out, ds, HD.out, HDS.out⟩
set_option maxRecDepth 20000 in
set_option maxHeartbeats 4000000 in
theorem heldInt64G_calls (g n cap : Nat) (m : Int) (w : World) (hn : n ≤ 1048576) (hm0 : 0 ≤ m) (hm1 : m ≤ 1125899906842624) (hc : MarkN w g n m) :
    Calls Tryz.prog 184 #[.slice (some ⟨g, 0, none⟩) n cap, .int .i64 m] w fun e w' => e = .returned (.int .i64 (m + n)) ∧ w = w' := by
  have HC := Lib.hid hc
  clear hc
  go_enter Tryz.func184, Tryz.ntmps184
  go_wp2_with fail
  go_loop [5, 1] (fun i t' => ∃ k : Nat, ∃ z : Int, k ≤ n ∧ i = .int .i64 k ∧ z = m + k ∧ t' = .int .i64 z) (fun i _ => n - (intOf i).toNat)
  case atStart => exact ⟨0, m, by omega, rfl, by simp, rfl⟩
  case round =>
    obtain ⟨k, z, hk, rfl, hz, rfl⟩ := hrel
    have z0 : 0 ≤ z := by omega
    have z1 : z ≤ 1125899923619840 := by omega
    by_cases hlt : k < n
    · have hlt' : (k : Int) < n := by omega
      have hc := HC.out k hlt
      rw [← hz] at hc
      have HZ := Lib.hid hz
      clear hz
      go_wp2_with fail
      go_round
      case rel => exact ⟨k + 1, z + 1, by omega, by go_num, by have := HZ.out; omega, rfl⟩
      case measure => simp [intOf]; omega
    · obtain rfl : n = k := by omega
      have HZ := Lib.hid hz
      clear hz
      go_wp2_with fail
      go_ret
      exact ⟨by rw [HZ.out]; rfl, rfl⟩
theorem markInt64S_nil (A : Option Addr) (c : Nat) (m : Int) (w : World) : Calls Tryz.prog 183 #[.slice A 0 c, .int .i64 m] w fun e w' => e = .returned (.int .i64 m) ∧ w = w' := by
  go_enter Tryz.func183, Tryz.ntmps183
  go_wp2_with fail
  go_loop [5, 1] (fun i t => i = .int .i64 0 ∧ t = .int .i64 m) (fun _ _ => 0)
  case atStart => exact ⟨rfl, rfl⟩
  case round =>
    obtain ⟨rfl, rfl⟩ := hrel
    go_wp2_with fail
    go_ret
    exact ⟨rfl, rfl⟩
theorem heldInt64S_nil (A : Option Addr) (c : Nat) (m : Int) (w : World) : Calls Tryz.prog 184 #[.slice A 0 c, .int .i64 m] w fun e w' => e = .returned (.int .i64 m) ∧ w = w' := by
  go_enter Tryz.func184, Tryz.ntmps184
  go_wp2_with fail
  go_loop [5, 1] (fun i t => i = .int .i64 0 ∧ t = .int .i64 m) (fun _ _ => 0)
  case atStart => exact ⟨rfl, rfl⟩
  case round =>
    obtain ⟨rfl, rfl⟩ := hrel
    go_wp2_with fail
    go_ret
    exact ⟨rfl, rfl⟩
theorem markCellS_nil (A : Option Addr) (c : Nat) (m : Int) (w : World) : Calls Tryz.prog 115 #[.slice A 0 c, .int .i64 m] w fun e w' => e = .returned (.int .i64 m) ∧ w = w' := by
  go_enter Tryz.func115, Tryz.ntmps115
  go_wp2_with fail
  go_loop [5, 1] (fun i t => i = .int .i64 0 ∧ t = .int .i64 m) (fun _ _ => 0)
  case atStart => exact ⟨rfl, rfl⟩
  case round =>
    obtain ⟨rfl, rfl⟩ := hrel
    go_wp2_with fail
    go_ret
    exact ⟨rfl, rfl⟩
theorem heldCellS_nil (A : Option Addr) (c : Nat) (m : Int) (w : World) : Calls Tryz.prog 119 #[.slice A 0 c, .int .i64 m] w fun e w' => e = .returned (.int .i64 m) ∧ w = w' := by
  go_enter Tryz.func119, Tryz.ntmps119
  go_wp2_with fail
  go_loop [5, 1] (fun i t => i = .int .i64 0 ∧ t = .int .i64 m) (fun _ _ => 0)
  case atStart => exact ⟨rfl, rfl⟩
  case round =>
    obtain ⟨rfl, rfl⟩ := hrel
    go_wp2_with fail
    go_ret
    exact ⟨rfl, rfl⟩
def HeldN (w : World) (v : Value) (n : Nat) (m : Int) : Prop := (∃ g c, v = .slice (some ⟨g, 0, none⟩) n c ∧ g < w.heap.size ∧ MarkN w g n m) ∨ (n = 0 ∧ ∃ A c, v = .slice A 0 c)
theorem HeldN.below {u w : World} {v : Value} {n : Nat} {m : Int} (h : HeldN u v n m) (hb : Below u.heap.size u w) : HeldN w v n m := by
  rcases h with ⟨g, c, e, hg, hm⟩ | h
  · exact .inl ⟨g, c, e, Nat.lt_of_lt_of_le hg hb.size, hm.block (hb.block g hg)⟩
  · exact .inr h
theorem markN_own (v : Value) (l : List Int) (base : Nat) (m : Int) (w : World) (hn : l.length ≤ 1048576) (hm0 : 0 ≤ m) (hm1 : m ≤ 1125899906842624) (hr : IRow w base v l) :
    Calls Tryz.prog 183 #[v, .int .i64 m] w fun e w' => e = .returned (.int .i64 (m + l.length)) ∧ HeldN w' v l.length m ∧ w.grownBy w' v.ownBlock := by
  rcases hr.2 with ⟨rfl, h0⟩ | ⟨g, cap, cur, rfl, hb, hg, hnc, hcm, hcs, htake⟩
  · refine (markInt64S_nil none 0 m w).mono ?_
    rintro e w' ⟨rfl, rfl⟩
    rw [h0]
    exact ⟨by simp, .inr ⟨rfl, _, _, rfl⟩, gb_refl _ _⟩
  · refine (markInt64G_calls g l.length cap m _ cur w hn hm0 hm1 hg (by rw [hcs]; omega)).mono ?_
    rintro e w' ⟨rfl, hm, hgb, -⟩
    exact ⟨rfl, .inl ⟨g, cap, rfl, Nat.lt_of_lt_of_le (Array.getElem?_eq_some_iff.1 hg).1 hgb.size, hm⟩, hgb⟩
theorem heldN_own (v : Value) (n : Nat) (m : Int) (w : World) (hn : n ≤ 1048576) (hm0 : 0 ≤ m) (hm1 : m ≤ 1125899906842624) (hr : HeldN w v n m) :
    Calls Tryz.prog 184 #[v, .int .i64 m] w fun e w' => e = .returned (.int .i64 (m + n)) ∧ w = w' := by
  rcases hr with ⟨g, c, rfl, hg, hm⟩ | ⟨rfl, A, c, rfl⟩
  · exact heldInt64G_calls g n c m w hn hm0 hm1 hm
  · refine (heldInt64S_nil A c m w).mono ?_
    rintro e w' ⟨rfl, rfl⟩
    exact ⟨by simp, rfl⟩
def HeldTr (w : World) (v : Value) (n : Nat) (m : Int) : Prop := (∃ g c, v = .slice (some ⟨g, 0, none⟩) n c ∧ g < w.heap.size ∧ MarkT w g n m) ∨ (n = 0 ∧ ∃ A c, v = .slice A 0 c)
theorem HeldTr.below {u w : World} {v : Value} {n : Nat} {m : Int} (h : HeldTr u v n m) (hb : Below u.heap.size u w) : HeldTr w v n m := by
  rcases h with ⟨g, c, e, hg, hm⟩ | h
  · exact .inl ⟨g, c, e, Nat.lt_of_lt_of_le hg hb.size, hm.block (hb.block g hg)⟩
  · exact .inr h
theorem markTr_own (v : Value) (l : List Tru) (base : Nat) (m : Int) (w : World) (hn : l.length ≤ 1048576) (hm0 : 0 ≤ m) (hm1 : m ≤ 1125899906842624) (hr : TrRow w base v l) :
    Calls Tryz.prog 114 #[v, .int .i64 m] w fun e w' => e = .returned (.int .i64 (m + 8 * l.length)) ∧ HeldTr w' v l.length m ∧ w.grownBy w' v.ownBlock := by
  rcases hr.2 with ⟨rfl, h0⟩ | ⟨g, cap, cur, rfl, hb, hg, hnc, hcm, hcs, htake⟩
  · refine (markTrustS_nil none 0 m w).mono ?_
    rintro e w' ⟨rfl, rfl⟩
    rw [h0]
    exact ⟨by simp, .inr ⟨rfl, _, _, rfl⟩, gb_refl _ _⟩
  · refine (markTrustG_calls g l.length cap m _ cur w hn hm0 hm1 hg (by rw [hcs]; exact Nat.mul_le_mul_right 8 hnc)).mono ?_
    rintro e w' ⟨rfl, hm, hgb, -⟩
    exact ⟨rfl, .inl ⟨g, cap, rfl, Nat.lt_of_lt_of_le (Array.getElem?_eq_some_iff.1 hg).1 hgb.size, hm⟩, hgb⟩
theorem heldTr_own (v : Value) (n : Nat) (m : Int) (w : World) (hn : n ≤ 1048576) (hm0 : 0 ≤ m) (hm1 : m ≤ 1125899906842624) (hr : HeldTr w v n m) :
    Calls Tryz.prog 118 #[v, .int .i64 m] w fun e w' => e = .returned (.int .i64 (m + 8 * n)) ∧ w = w' := by
  rcases hr with ⟨g, c, rfl, hg, hm⟩ | ⟨rfl, A, c, rfl⟩
  · exact heldTrustG_calls g n c m w hn hm0 hm1 hm
  · refine (heldTrustS_nil A c m w).mono ?_
    rintro e w' ⟨rfl, rfl⟩
    exact ⟨by simp, rfl⟩
def HeldC (w : World) (v : Value) (n : Nat) (m : Int) : Prop := (∃ g c, v = .slice (some ⟨g, 0, none⟩) n c ∧ g < w.heap.size ∧ MarkC w g n m) ∨ (n = 0 ∧ ∃ A c, v = .slice A 0 c)
theorem HeldC.below {u w : World} {v : Value} {n : Nat} {m : Int} (h : HeldC u v n m) (hb : Below u.heap.size u w) : HeldC w v n m := by
  rcases h with ⟨g, c, e, hg, hm⟩ | h
  · exact .inl ⟨g, c, e, Nat.lt_of_lt_of_le hg hb.size, hm.block (hb.block g hg)⟩
  · exact .inr h
theorem markC_own (v : Value) (l : List Ce) (base : Nat) (m : Int) (w : World) (hn : l.length ≤ 1048576) (hm0 : 0 ≤ m) (hm1 : m ≤ 1125899906842624) (hr : ClRow w base v l) :
    Calls Tryz.prog 115 #[v, .int .i64 m] w fun e w' => e = .returned (.int .i64 (m + 2 * l.length)) ∧ HeldC w' v l.length m ∧ w.grownBy w' v.ownBlock := by
  rcases hr.2 with ⟨rfl, h0⟩ | ⟨g, cap, cur, rfl, hb, hg, hnc, hcm, hcs, htake⟩
  · refine (markCellS_nil none 0 m w).mono ?_
    rintro e w' ⟨rfl, rfl⟩
    rw [h0]
    exact ⟨by simp, .inr ⟨rfl, _, _, rfl⟩, gb_refl _ _⟩
  · refine (markCellG_calls g l.length cap m _ cur w hn hm0 hm1 hg (by rw [hcs]; exact Nat.mul_le_mul_right 2 hnc)).mono ?_
    rintro e w' ⟨rfl, hm, hgb, -⟩
    exact ⟨rfl, .inl ⟨g, cap, rfl, Nat.lt_of_lt_of_le (Array.getElem?_eq_some_iff.1 hg).1 hgb.size, hm⟩, hgb⟩
theorem heldC_own (v : Value) (n : Nat) (m : Int) (w : World) (hn : n ≤ 1048576) (hm0 : 0 ≤ m) (hm1 : m ≤ 1125899906842624) (hr : HeldC w v n m) :
    Calls Tryz.prog 119 #[v, .int .i64 m] w fun e w' => e = .returned (.int .i64 (m + 2 * n)) ∧ w = w' := by
  rcases hr with ⟨g, c, rfl, hg, hm⟩ | ⟨rfl, A, c, rfl⟩
  · exact heldCellG_calls g n c m w hn hm0 hm1 hm
  · refine (heldCellS_nil A c m w).mono ?_
    rintro e w' ⟨rfl, rfl⟩
    exact ⟨by simp, rfl⟩
theorem ne_of_type {u : World} {p g n : Nat} {t t' : TypeId} {cs : Array Value} (h : ShX u p t n) (hc : CellsAt u g t' cs) (ht : t ≠ t') : p ≠ g := fun e => by
  subst e
  obtain ⟨es, h1, -⟩ := h
  have h4 : some (Obj.cells es t (0, 0)) = some (Obj.cells cs t' (0, 0)) := h1.symm.trans hc
  simp only [Option.some.injEq, Obj.cells.injEq, and_true] at h4
  exact ht h4.2
set_option maxRecDepth 20000 in
set_option maxHeartbeats 16000000 in
theorem markSlotS_mid (lo hi g : Nat) (S : List SlN) (cap : Nat) (m : Int) (w : World) (hn : S.length ≤ 1048576) (hS : SlShort S) (hm0 : 0 ≤ m) (hm1 : m ≤ 1000000000) (h : SlOwn w lo hi g S) :
    Calls Tryz.prog 116 #[.slice (some ⟨g, 0, none⟩) S.length cap, .int .i64 m] w fun e w' => (∃ z : Int, e = .returned (.int .i64 z) ∧ 0 ≤ z) ∧ Mid lo hi w w' := by
  have HO := Lib.hid h
  have HS := Lib.hid hS
  clear h hS
  go_enter Tryz.func116, Tryz.ntmps116
  go_wp2_with fail
  go_loopw [5, 1] (fun i t' u => ∃ k : Nat, ∃ z : Int, k ≤ S.length ∧ i = .int .i64 k ∧ (0 ≤ z ∧ z ≤ m + 16777216 * k) ∧ t' = .int .i64 z ∧ SlOwn u lo hi g S ∧ Mid lo hi w u) (fun i _ _ => S.length - (intOf i).toNat)
  case atStart => exact ⟨0, m, Nat.zero_le _, rfl, ⟨hm0, by simp⟩, rfl, HO.out, Mid.refl _ _ _⟩
  case round =>
    obtain ⟨k, z, hk, rfl, ⟨z0, z1⟩, rfl, hso, hmid⟩ := hrel
    have HM := Lib.hid hmid
    clear hmid
    by_cases hlt : k < S.length
    · have hlt' : (k : Int) < S.length := by omega
      have hk0 : (0 : Int) ≤ k := by omega
      obtain ⟨⟨hg0, hg1⟩, cs, hcs, hsz, hall⟩ := hso
      obtain ⟨a, b, ha, hb, ea, eb, sa, sb⟩ := hall k hlt
      have hts := HS.out k hlt
      have hag := ne_of_type sa hcs (by decide)
      have hbg := ne_of_type sb hcs (by decide)
      have hc1 := hcs.set_ (k * 4) (.int .i64 z)
      have o1 : ∀ o, (cs.setIfInBounds (k * 4) (.int .i64 z))[k * 4 + (o + 1)]? = cs[k * 4 + (o + 1)]? := fun o => Array.getElem?_setIfInBounds_ne (by omega)
      obtain ⟨q0, e0⟩ : ∃ q, wr.cell? ⟨g, k * 4, none⟩ = some q := ⟨_, (hcs.cell (k * 4)).trans (Array.getElem?_eq_getElem (by omega))⟩
      obtain ⟨q2, e2⟩ : ∃ q, cs[k * 4 + 2]? = some q := ⟨_, Array.getElem?_eq_getElem (by omega)⟩
      have f0 := hcs.frozen (k * 4)
      have d1 : (wr.setCell ⟨g, k * 4, none⟩ (.int .i64 z)).cell? ⟨g, k * 4 + 1, none⟩ = some (.slice (some ⟨a, 0, none⟩) (S.getD k default).trusts.length (S.getD k default).trusts.length) := ((hc1.cell _).trans (o1 0)).trans ea
      have sa1 := sa.off (p := g) (by omega) (k * 4) (.int .i64 z)
      have sb1 := sb.off (p := g) (by omega) (k * 4) (.int .i64 z)
      have so1 : SlOwn (wr.setCell ⟨g, k * 4, none⟩ (.int .i64 z)) lo hi g S := ⟨⟨hg0, hg1⟩, _, hc1, by simpa using hsz, fun j hj => by
        obtain ⟨a', b', ha', hb', ea', eb', sa', sb'⟩ := hall j hj
        exact ⟨a', b', ha', hb', (Array.getElem?_setIfInBounds_ne (by omega)).trans ea', (Array.getElem?_setIfInBounds_ne (by omega)).trans eb', sa'.off (p := g) (fun e => ne_of_type sa' hcs (by decide) e.symm) _ _, sb'.off (p := g) (fun e => ne_of_type sb' hcs (by decide) e.symm) _ _⟩⟩
      have m1 := Mid.of (lo := lo) (hi := hi) (gb_set (gb_refl wr (some g)) (k * 4) (.int .i64 z)) (fun k e => by injection e; omega)
      have HC1 := Lib.hid hc1
      have SO1 := Lib.hid so1
      have SA1 := Lib.hid sa1
      have SB1 := Lib.hid sb1
      have M1 := Lib.hid (HM.out.trans m1)
      have EA := Lib.hid ea
      have EB := Lib.hid eb
      have E2 := Lib.hid e2
      clear hcs hall sa sb sa1 sb1 so1 m1 ea eb e2 o1 hc1
      generalize hst : (S.getD k default).trusts.length = st at d1 SA1 hts EA
      generalize hsc : (S.getD k default).cells.length = sc at SB1 hts EB
      clear hst hsc
      go_wp2_with fail
      clear e0 f0 d1
      generalize World.setCell _ _ _ = w1 at HC1 SO1 SA1 SB1 M1 ⊢
      obtain ⟨ta, hta, htn⟩ := SA1.out
      refine (markTrustG_calls a st _ (z + 1) _ ta w1 hts.1 (by omega) (by omega) hta htn).mono ?_; rintro e w2 ⟨rfl, -, hg2, da, hda, hds⟩
      have hc2 := HC1.out.grown hg2 (by intro e; injection e with e; omega)
      have so2 := SO1.out.keep hg2 hta hda hds (by decide)
      have sb2 := (show ShX w1 b _ _ from SB1.out).keep hg2 hta hda hds
      have m2 := M1.out.trans (Mid.of (lo := lo) (hi := hi) hg2 (fun k e => by injection e; omega))
      have o2 : (cs.setIfInBounds (k * 4) (.int .i64 z))[k * 4 + 2]? = some q2 := (Array.getElem?_setIfInBounds_ne (by omega)).trans E2.out
      have e2 : w2.cell? ⟨g, k * 4 + 2, none⟩ = some q2 := (hc2.cell _).trans o2
      have f2 := hc2.frozen (k * 4 + 2)
      have hc3 := hc2.set_ (k * 4 + 2) (.int .i64 (z + 1 + 8 * st))
      have d3 : (w2.setCell ⟨g, k * 4 + 2, none⟩ (.int .i64 (z + 1 + 8 * st))).cell? ⟨g, k * 4 + 3, none⟩ = some (.slice (some ⟨b, 0, none⟩) sc sc) := (hc3.cell _).trans ((Array.getElem?_setIfInBounds_ne (by omega)).trans ((Array.getElem?_setIfInBounds_ne (by omega)).trans EB.out))
      have sb3 := sb2.off (p := g) (by omega) (k * 4 + 2) (.int .i64 (z + 1 + 8 * st))
      have so3 : SlOwn (w2.setCell ⟨g, k * 4 + 2, none⟩ (.int .i64 (z + 1 + 8 * st))) lo hi g S := by
        obtain ⟨hgg, cs', hcs', hsz', hall'⟩ := so2
        exact ⟨hgg, _, hcs'.set_ (k * 4 + 2) _, by simpa using hsz', fun j hj => by
          obtain ⟨a', b', ha', hb', ea', eb', sa', sb'⟩ := hall' j hj
          exact ⟨a', b', ha', hb', (Array.getElem?_setIfInBounds_ne (by omega)).trans ea', (Array.getElem?_setIfInBounds_ne (by omega)).trans eb', sa'.off (p := g) (fun e => ne_of_type sa' hcs' (by decide) e.symm) _ _, sb'.off (p := g) (fun e => ne_of_type sb' hcs' (by decide) e.symm) _ _⟩⟩
      have m3 := m2.trans (Mid.of (lo := lo) (hi := hi) (gb_set (gb_refl w2 (some g)) (k * 4 + 2) (.int .i64 (z + 1 + 8 * st))) (fun k e => by injection e; omega))
      have SO3 := Lib.hid so3
      have SB3 := Lib.hid sb3
      have M3 := Lib.hid m3
      clear hta htn hg2 hda hds hc2 so2 sb2 m2 o2 hc3 sb3 so3 m3 HC1 SO1 SA1 SB1 M1 EA EB E2
      go_wp2_with fail
      clear e2 f2 d3
      generalize World.setCell _ _ _ = w3 at SO3 SB3 M3 ⊢
      obtain ⟨tb, htb, htm⟩ := SB3.out
      refine (markCellG_calls b sc _ (z + 1 + 8 * st + 1) _ tb w3 hts.2 (by omega) (by omega) htb htm).mono ?_; rintro e w4 ⟨rfl, -, hg4, db, hdb, hds⟩
      have SO4 := Lib.hid (SO3.out.keep hg4 htb hdb hds (by decide))
      have M4 := Lib.hid (M3.out.trans (Mid.of (lo := lo) (hi := hi) hg4 (fun k e => by injection e; omega)))
      clear htb htm hg4 hdb hds SO3 SB3 M3
      go_wp2_with fail
      go_roundw
      case rel => exact ⟨k + 1, z + 1 + 8 * st + 1 + 2 * sc, by omega, by go_num, ⟨by omega, by omega⟩, rfl, SO4.out, M4.out⟩
      case measure => simp [intOf]; omega
    · obtain rfl : k = S.length := by omega
      clear hso
      go_wp2_with fail
      go_ret
      exact ⟨⟨z, rfl, z0⟩, HM.out⟩
end Go.Proofs.YteoijmejhdocdaaGreatDoor.Mx

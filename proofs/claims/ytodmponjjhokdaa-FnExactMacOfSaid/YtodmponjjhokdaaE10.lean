import Derived.Test.YtodmponjjhokdaaE09
import Derived.Test.YtodmponjjhokdaaE02
import Derived.Test.YtodmponjjhokdaaE01
import Derived.Test.YtodmponjjhokdaaE07
import Derived.Test.YtodmponjjhokdaaE03
import Derived.Test.YtodmponjjhokdaaE06
import Derived.Test.YtodmponjjhokdaaE05
import Derived.Deep.RegionHeld3
import Derived.Deep.CutRange
namespace Go.Proofs.Ytodmponjjhokdaa.Mx
open Go.ChangeShapes Go.WideShapes Go.ChangeAt Go.RowKit
set_option linter.unusedVariables false
theorem toTrusts_own (A : Option Addr) (L : List Tru) (cap : Nat) (w : World) (hn : L.length ≤ 1048576) (hA : Trs w w.heap.size A L) :
    Calls Try.prog 10 #[.slice A L.length cap] w fun e w' => ∃ g, e = .returned (.slice (some ⟨g, 0, none⟩) L.length L.length) ∧ w.heap.size ≤ g ∧ g < w'.heap.size ∧ Trs w' w'.heap.size (some ⟨g, 0, none⟩) L ∧ (∃ cs, CellsAt w' g 52 cs ∧ L.length * 8 ≤ cs.size) ∧ Below w.heap.size w w' := by
  refine (toTrustS_calls A L cap w hn hA).mono ?_
  rintro e w' ⟨rfl, hb, hlt, hr⟩
  refine ⟨_, rfl, Nat.le_refl _, hlt, (sls_TrustS hr).more hlt, ?_, hb⟩
  obtain ⟨cs, h1, h2, h3⟩ := hr
  exact ⟨cs, h1, by omega⟩
theorem szSeal_calls (cnt mac : Int) (A : Option Addr) (n cap : Nat) (left : Int) (w : World) (h0 : 0 ≤ left) (h1 : left ≤ 1048576) (hn : n ≤ maxLen) :
    Calls Try.prog 21 #[.agg #[.int .i64 cnt, .slice A n cap, .int .i64 mac], .int .i64 left] w fun e w' => e = .returned (.int .i64 (if (n : Int) ≤ left then left - n else -1)) ∧ Below w.heap.size w w' := by
  have B := Lib.hid (box_below w (.cells #[.int .i64 cnt, .slice A n cap, .int .i64 mac] 44))
  have C := Lib.hid (fun u => szTrustS_calls A n cap left u h0 h1 hn)
  by_cases h : (n : Int) ≤ left
  · rw [if_pos h] at C ⊢
    have h2 : ¬ left - n < 0 := by omega
    clear h h0 h1 hn
    go_enter Try.func21, Try.ntmps21
    go_wp2_with fail
    refine (C.out _).mono ?_; rintro e w' ⟨rfl, rfl⟩
    go_wp2_with fail
    go_ret
    exact ⟨rfl, B.out⟩
  · rw [if_neg h] at C ⊢
    clear h h0 h1 hn
    go_enter Try.func21, Try.ntmps21
    go_wp2_with fail
    refine (C.out _).mono ?_; rintro e w' ⟨rfl, rfl⟩
    go_wp2_with fail
    go_ret
    exact ⟨rfl, B.out⟩
set_option maxRecDepth 20000 in
set_option maxHeartbeats 4000000 in
theorem eqSeal_same (cnt mac : Int) (A C : Option Addr) (L : List Tru) (c c' : Nat) (w : World) (hn : L.length ≤ maxLen) (hA : Trs w w.heap.size A L) (hC : Trs w w.heap.size C L) :
    Calls Try.prog 16 #[.agg #[.int .i64 cnt, .slice A L.length c, .int .i64 mac], .agg #[.int .i64 cnt, .slice C L.length c', .int .i64 mac]] w fun e w' => e = .returned (.bool true) ∧ Below w.heap.size w w' := by
  have K0 := Lib.hid (show Kept w [(w.heap.size + 1, 37, #[.int .i64 cnt, .slice C L.length c', .int .i64 mac]), (w.heap.size, 37, #[.int .i64 cnt, .slice A L.length c, .int .i64 mac])] _ from (((Kept.refl w).put1 _ _ #[.int .i64 cnt, .slice A L.length c, .int .i64 mac] rfl).put1 _ _ #[.int .i64 cnt, .slice C L.length c', .int .i64 mac] (by simp)))
  have E := Lib.hid (fun u (hb : Below w.heap.size w u) => eqTrustS_same A C L c c' u hn ((hA.below hb (Nat.le_refl _)).more hb.size) ((hC.below hb (Nat.le_refl _)).more hb.size))
  clear hA hC hn
  go_enter Try.func16, Try.ntmps16
  go_wp2_with fail
  refine (E.out _ K0.out.1).mono ?_; rintro e w1 ⟨rfl, b1⟩
  have h1 := K0.out.below b1
  clear b1 K0 E
  obtain ⟨kc0, kf0, kc1, kf1, -⟩ := h1.rd
  have H1 := Lib.hid h1
  clear h1
  go_wp2_with fail
  go_ret
  exact ⟨rfl, H1.out.1⟩
set_option maxRecDepth 20000 in
set_option maxHeartbeats 4000000 in
theorem toSeal_calls (cnt mac : Int) (A : Option Addr) (L : List Tru) (c : Nat) (w : World) (hn : L.length ≤ 1048576) (hA : Trs w w.heap.size A L) :
    Calls Try.prog 23 #[.agg #[.int .i64 cnt, .slice A L.length c, .int .i64 mac]] w fun e w' => ∃ G, e = .returned (.agg #[.int .i64 cnt, .slice G L.length L.length, .int .i64 mac]) ∧ Trs w' w'.heap.size G L ∧ Below w.heap.size w w' := by
  have K0 := Lib.hid (show Kept w [(w.heap.size + 1 + 1, 37, #[.int .i64 cnt, .slice none 0 0, .int .i64 0]), (w.heap.size + 1, 37, #[.int .i64 0, .slice none 0 0, .int .i64 0]), (w.heap.size, 44, #[.int .i64 cnt, .slice A L.length c, .int .i64 mac])] _ from ((((Kept.refl w).put1 _ _ #[.int .i64 cnt, .slice A L.length c, .int .i64 mac] rfl).put1 _ _ #[.int .i64 0, .slice none 0 0, .int .i64 0] (by simp)).put1 _ _ #[.int .i64 cnt, .slice none 0 0, .int .i64 0] (by simp)))
  have T := Lib.hid (fun u (hb : Below w.heap.size w u) => toTrusts_own A L c u hn ((hA.below hb (Nat.le_refl _)).more hb.size))
  clear hA hn
  go_enter Try.func23, Try.ntmps23
  go_wp2_with fail
  refine (T.out _ K0.out.1).mono ?_; rintro e w1 ⟨g, rfl, hg0, hg1, ht, -, b1⟩
  have h1 := K0.out.below b1
  have hg2 : w.heap.size + 1 + 1 < g := Nat.lt_of_lt_of_le (by simp <;> omega) hg0
  clear b1 hg0 T K0
  obtain ⟨kc0, kf0, kc1, kf1, kc2, kf2, -⟩ := h1.rd
  have H1 := Lib.hid h1
  have HT := Lib.hid ht
  have G2 := Lib.hid hg2
  clear h1 ht hg2
  go_wp2_with fail
  have k2 := (H1.out.set (by intro x hx; simp at hx; rcases hx with rfl | rfl <;> simp <;> omega) 1 (.slice (some ⟨g, 0, none⟩) L.length L.length)).set (by intro x hx; simp at hx; rcases hx with rfl | rfl <;> simp <;> omega) 2 (.int .i64 mac)
  have k3 := ((k2.tail.set (by intro x hx; simp at hx; subst hx; simp) 0 (.int .i64 cnt)).set (by intro x hx; simp at hx; subst hx; simp) 1 (.slice (some ⟨g, 0, none⟩) L.length L.length)).set (by intro x hx; simp at hx; subst hx; simp) 2 (.int .i64 mac)
  have ht3 : Trs (((((w1.setCell ⟨w.heap.size + 1 + 1, 1, none⟩ (.slice (some ⟨g, 0, none⟩) L.length L.length)).setCell ⟨w.heap.size + 1 + 1, 2, none⟩ (.int .i64 mac)).setCell ⟨w.heap.size + 1, 0, none⟩ (.int .i64 cnt)).setCell ⟨w.heap.size + 1, 1, none⟩ (.slice (some ⟨g, 0, none⟩) L.length L.length)).setCell ⟨w.heap.size + 1, 2, none⟩ (.int .i64 mac)) w1.heap.size (some ⟨g, 0, none⟩) L := by
    have hg := G2.out
    intro i hi
    obtain ⟨b, off, e, hb, hc⟩ := HT.out i hi
    injection e with e
    injection e with e1 e2 e3
    subst e1
    refine ⟨_, off, by rw [e2], hb, fun j hj => ?_⟩
    rw [← hc j hj]
    unfold World.cell?
    rw [Below.heap_setCell _ _ _ _ (by simp; omega), Below.heap_setCell _ _ _ _ (by simp; omega), Below.heap_setCell _ _ _ _ (by simp; omega), Below.heap_setCell _ _ _ _ (by simp; omega), Below.heap_setCell _ _ _ _ (by simp; omega)]
  have hsz : w1.heap.size ≤ (((((w1.setCell ⟨w.heap.size + 1 + 1, 1, none⟩ (.slice (some ⟨g, 0, none⟩) L.length L.length)).setCell ⟨w.heap.size + 1 + 1, 2, none⟩ (.int .i64 mac)).setCell ⟨w.heap.size + 1, 0, none⟩ (.int .i64 cnt)).setCell ⟨w.heap.size + 1, 1, none⟩ (.slice (some ⟨g, 0, none⟩) L.length L.length)).setCell ⟨w.heap.size + 1, 2, none⟩ (.int .i64 mac)).heap.size := by simp
  generalize World.setCell _ _ _ = w4 at k3 ht3 hsz ⊢
  have d0 : w4.cell? ⟨w.heap.size + 1, 0, none⟩ = some (.int .i64 cnt) := k3.cell (List.mem_cons_self ..) 0
  have d1 : w4.cell? ⟨w.heap.size + 1, 1, none⟩ = some (.slice (some ⟨g, 0, none⟩) L.length L.length) := k3.cell (List.mem_cons_self ..) 1
  have d2 : w4.cell? ⟨w.heap.size + 1, 2, none⟩ = some (.int .i64 mac) := k3.cell (List.mem_cons_self ..) 2
  exact bodyPost_ret (v := .agg #[.int .i64 cnt, .slice (some ⟨g, 0, none⟩) L.length L.length, .int .i64 mac]) (by simp [results, Try.results23, go_sem, d0, d1, d2]) rfl ⟨some ⟨g, 0, none⟩, rfl, ht3.more hsz, k3.1⟩
end Go.Proofs.Ytodmponjjhokdaa.Mx
namespace Go.Proofs.Ytodmponjjhokdaa.Mx
open Go.ChangeShapes Go.WideShapes Go.ChangeAt Go.RowKit
set_option linter.unusedVariables false
def MarkT (w : World) (g n : Nat) (m : Int) : Prop := ∀ j, j < n → w.cell? ⟨g, j * 8, none⟩ = some (.int .i64 (m + 8 * j)) ∧ w.cell? ⟨g, j * 8 + 1, none⟩ = some (.int .i64 (m + 8 * j + 1)) ∧ w.cell? ⟨g, j * 8 + 2, none⟩ = some (.int .i64 (m + 8 * j + 2)) ∧ w.cell? ⟨g, j * 8 + 3, none⟩ = some (.int .i64 (m + 8 * j + 3)) ∧ w.cell? ⟨g, j * 8 + 4, none⟩ = some (.int .i64 (m + 8 * j + 4)) ∧ w.cell? ⟨g, j * 8 + 5, none⟩ = some (.int .i64 (m + 8 * j + 5)) ∧ w.cell? ⟨g, j * 8 + 6, none⟩ = some (.int .i64 (m + 8 * j + 6)) ∧ w.cell? ⟨g, j * 8 + 7, none⟩ = some (.bool ((m + 8 * j + 7) % 3 == 0))
theorem MarkT.block {w u : World} {g n : Nat} {m : Int} (h : MarkT w g n m) (hb : u.heap[g]? = w.heap[g]?) : MarkT u g n m := by
  have f : ∀ o, u.cell? ⟨g, o, none⟩ = w.cell? ⟨g, o, none⟩ := fun o => by simp [World.cell?, hb]
  intro j hj
  obtain ⟨h0, h1, h2, h3, h4, h5, h6, h7⟩ := h j hj
  exact ⟨(f _).trans h0, (f _).trans h1, (f _).trans h2, (f _).trans h3, (f _).trans h4, (f _).trans h5, (f _).trans h6, (f _).trans h7⟩
theorem set8_off (ds : Array Value) (b i : Nat) (v0 v1 v2 v3 v4 v5 v6 v7 : Value) (h : i < b) : ((((((((ds.setIfInBounds (b) v0).setIfInBounds (b + 1) v1).setIfInBounds (b + 2) v2).setIfInBounds (b + 3) v3).setIfInBounds (b + 4) v4).setIfInBounds (b + 5) v5).setIfInBounds (b + 6) v6).setIfInBounds (b + 7) v7)[i]? = ds[i]? := by
  rw [Array.getElem?_setIfInBounds_ne (by omega), Array.getElem?_setIfInBounds_ne (by omega), Array.getElem?_setIfInBounds_ne (by omega), Array.getElem?_setIfInBounds_ne (by omega), Array.getElem?_setIfInBounds_ne (by omega), Array.getElem?_setIfInBounds_ne (by omega), Array.getElem?_setIfInBounds_ne (by omega), Array.getElem?_setIfInBounds_ne (by omega)]
theorem set8_at0 (ds : Array Value) (b : Nat) (v0 v1 v2 v3 v4 v5 v6 v7 : Value) (h : b + 8 ≤ ds.size) : ((((((((ds.setIfInBounds (b) v0).setIfInBounds (b + 1) v1).setIfInBounds (b + 2) v2).setIfInBounds (b + 3) v3).setIfInBounds (b + 4) v4).setIfInBounds (b + 5) v5).setIfInBounds (b + 6) v6).setIfInBounds (b + 7) v7)[b]? = some v0 := by
  rw [Array.getElem?_setIfInBounds_ne (by omega), Array.getElem?_setIfInBounds_ne (by omega), Array.getElem?_setIfInBounds_ne (by omega), Array.getElem?_setIfInBounds_ne (by omega), Array.getElem?_setIfInBounds_ne (by omega), Array.getElem?_setIfInBounds_ne (by omega), Array.getElem?_setIfInBounds_ne (by omega), Array.getElem?_setIfInBounds_self_of_lt (by omega)]
theorem set8_at1 (ds : Array Value) (b : Nat) (v0 v1 v2 v3 v4 v5 v6 v7 : Value) (h : b + 8 ≤ ds.size) : ((((((((ds.setIfInBounds (b) v0).setIfInBounds (b + 1) v1).setIfInBounds (b + 2) v2).setIfInBounds (b + 3) v3).setIfInBounds (b + 4) v4).setIfInBounds (b + 5) v5).setIfInBounds (b + 6) v6).setIfInBounds (b + 7) v7)[b + 1]? = some v1 := by
  rw [Array.getElem?_setIfInBounds_ne (by omega), Array.getElem?_setIfInBounds_ne (by omega), Array.getElem?_setIfInBounds_ne (by omega), Array.getElem?_setIfInBounds_ne (by omega), Array.getElem?_setIfInBounds_ne (by omega), Array.getElem?_setIfInBounds_ne (by omega), Array.getElem?_setIfInBounds_self_of_lt (by simp only [Array.size_setIfInBounds]; omega)]
theorem set8_at2 (ds : Array Value) (b : Nat) (v0 v1 v2 v3 v4 v5 v6 v7 : Value) (h : b + 8 ≤ ds.size) : ((((((((ds.setIfInBounds (b) v0).setIfInBounds (b + 1) v1).setIfInBounds (b + 2) v2).setIfInBounds (b + 3) v3).setIfInBounds (b + 4) v4).setIfInBounds (b + 5) v5).setIfInBounds (b + 6) v6).setIfInBounds (b + 7) v7)[b + 2]? = some v2 := by
  rw [Array.getElem?_setIfInBounds_ne (by omega), Array.getElem?_setIfInBounds_ne (by omega), Array.getElem?_setIfInBounds_ne (by omega), Array.getElem?_setIfInBounds_ne (by omega), Array.getElem?_setIfInBounds_ne (by omega), Array.getElem?_setIfInBounds_self_of_lt (by simp only [Array.size_setIfInBounds]; omega)]
theorem set8_at3 (ds : Array Value) (b : Nat) (v0 v1 v2 v3 v4 v5 v6 v7 : Value) (h : b + 8 ≤ ds.size) : ((((((((ds.setIfInBounds (b) v0).setIfInBounds (b + 1) v1).setIfInBounds (b + 2) v2).setIfInBounds (b + 3) v3).setIfInBounds (b + 4) v4).setIfInBounds (b + 5) v5).setIfInBounds (b + 6) v6).setIfInBounds (b + 7) v7)[b + 3]? = some v3 := by
  rw [Array.getElem?_setIfInBounds_ne (by omega), Array.getElem?_setIfInBounds_ne (by omega), Array.getElem?_setIfInBounds_ne (by omega), Array.getElem?_setIfInBounds_ne (by omega), Array.getElem?_setIfInBounds_self_of_lt (by simp only [Array.size_setIfInBounds]; omega)]
theorem set8_at4 (ds : Array Value) (b : Nat) (v0 v1 v2 v3 v4 v5 v6 v7 : Value) (h : b + 8 ≤ ds.size) : ((((((((ds.setIfInBounds (b) v0).setIfInBounds (b + 1) v1).setIfInBounds (b + 2) v2).setIfInBounds (b + 3) v3).setIfInBounds (b + 4) v4).setIfInBounds (b + 5) v5).setIfInBounds (b + 6) v6).setIfInBounds (b + 7) v7)[b + 4]? = some v4 := by
  rw [Array.getElem?_setIfInBounds_ne (by omega), Array.getElem?_setIfInBounds_ne (by omega), Array.getElem?_setIfInBounds_ne (by omega), Array.getElem?_setIfInBounds_self_of_lt (by simp only [Array.size_setIfInBounds]; omega)]
theorem set8_at5 (ds : Array Value) (b : Nat) (v0 v1 v2 v3 v4 v5 v6 v7 : Value) (h : b + 8 ≤ ds.size) : ((((((((ds.setIfInBounds (b) v0).setIfInBounds (b + 1) v1).setIfInBounds (b + 2) v2).setIfInBounds (b + 3) v3).setIfInBounds (b + 4) v4).setIfInBounds (b + 5) v5).setIfInBounds (b + 6) v6).setIfInBounds (b + 7) v7)[b + 5]? = some v5 := by
  rw [Array.getElem?_setIfInBounds_ne (by omega), Array.getElem?_setIfInBounds_ne (by omega), Array.getElem?_setIfInBounds_self_of_lt (by simp only [Array.size_setIfInBounds]; omega)]
theorem set8_at6 (ds : Array Value) (b : Nat) (v0 v1 v2 v3 v4 v5 v6 v7 : Value) (h : b + 8 ≤ ds.size) : ((((((((ds.setIfInBounds (b) v0).setIfInBounds (b + 1) v1).setIfInBounds (b + 2) v2).setIfInBounds (b + 3) v3).setIfInBounds (b + 4) v4).setIfInBounds (b + 5) v5).setIfInBounds (b + 6) v6).setIfInBounds (b + 7) v7)[b + 6]? = some v6 := by
  rw [Array.getElem?_setIfInBounds_ne (by omega), Array.getElem?_setIfInBounds_self_of_lt (by simp only [Array.size_setIfInBounds]; omega)]
theorem set8_at7 (ds : Array Value) (b : Nat) (v0 v1 v2 v3 v4 v5 v6 v7 : Value) (h : b + 8 ≤ ds.size) : ((((((((ds.setIfInBounds (b) v0).setIfInBounds (b + 1) v1).setIfInBounds (b + 2) v2).setIfInBounds (b + 3) v3).setIfInBounds (b + 4) v4).setIfInBounds (b + 5) v5).setIfInBounds (b + 6) v6).setIfInBounds (b + 7) v7)[b + 7]? = some v7 := by
  rw [Array.getElem?_setIfInBounds_self_of_lt (by simp only [Array.size_setIfInBounds]; omega)]
set_option maxRecDepth 20000 in
set_option maxHeartbeats 4000000 in
theorem markTrustS_calls (g n cap : Nat) (m : Int) (t : TypeId) (cs : Array Value) (w : World) (hn : n ≤ 1048576) (hm0 : 0 ≤ m) (hm1 : m ≤ 2000000) (hc : CellsAt w g t cs) (hs : n * 8 ≤ cs.size) :
    Calls Try.prog 18 #[.slice (some ⟨g, 0, none⟩) n cap, .int .i64 m] w fun e w' => e = .returned (.int .i64 (m + 8 * n)) ∧ MarkT w' g n m ∧ w.grownBy w' (some g) := by
  have HC := Lib.hid hc
  have HS := Lib.hid hs
  clear hc hs
  go_enter Try.func18, Try.ntmps18
  go_wp2_with fail
  go_loopw [5, 1] (fun i t' u => ∃ k : Nat, ∃ z : Int, k ≤ n ∧ i = .int .i64 k ∧ z = m + 8 * k ∧ t' = .int .i64 z ∧ (∃ ds, CellsAt u g t ds ∧ n * 8 ≤ ds.size) ∧ MarkT u g k m ∧ w.grownBy u (some g)) (fun i _ _ => n - (intOf i).toNat)
  case atStart => exact ⟨0, m, by omega, rfl, by simp, rfl, ⟨cs, HC.out, HS.out⟩, fun j hj => by omega, gb_refl _ _⟩
  case round =>
    obtain ⟨k, z, hk, rfl, hz, rfl, ⟨ds, hd, hds⟩, hmk, hg⟩ := hrel
    have HZ := Lib.hid hz
    have HG := Lib.hid hg
    have HM := Lib.hid hmk
    have z0 : 0 ≤ z := by omega
    have z1 : z ≤ 40000000 := by omega
    by_cases hlt : k < n
    · have hlt' : (k : Int) < n := by omega
      obtain ⟨q0, e0⟩ : ∃ q, wr.cell? ⟨g, k * 8, none⟩ = some q := ⟨_, (hd.cell (k * 8)).trans (Array.getElem?_eq_getElem (by omega))⟩
      obtain ⟨q1, e1⟩ : ∃ q, wr.cell? ⟨g, k * 8 + 1, none⟩ = some q := ⟨_, (hd.cell (k * 8 + 1)).trans (Array.getElem?_eq_getElem (by omega))⟩
      obtain ⟨q2, e2⟩ : ∃ q, wr.cell? ⟨g, k * 8 + 2, none⟩ = some q := ⟨_, (hd.cell (k * 8 + 2)).trans (Array.getElem?_eq_getElem (by omega))⟩
      obtain ⟨q3, e3⟩ : ∃ q, wr.cell? ⟨g, k * 8 + 3, none⟩ = some q := ⟨_, (hd.cell (k * 8 + 3)).trans (Array.getElem?_eq_getElem (by omega))⟩
      obtain ⟨q4, e4⟩ : ∃ q, wr.cell? ⟨g, k * 8 + 4, none⟩ = some q := ⟨_, (hd.cell (k * 8 + 4)).trans (Array.getElem?_eq_getElem (by omega))⟩
      obtain ⟨q5, e5⟩ : ∃ q, wr.cell? ⟨g, k * 8 + 5, none⟩ = some q := ⟨_, (hd.cell (k * 8 + 5)).trans (Array.getElem?_eq_getElem (by omega))⟩
      obtain ⟨q6, e6⟩ : ∃ q, wr.cell? ⟨g, k * 8 + 6, none⟩ = some q := ⟨_, (hd.cell (k * 8 + 6)).trans (Array.getElem?_eq_getElem (by omega))⟩
      obtain ⟨q7, e7⟩ : ∃ q, wr.cell? ⟨g, k * 8 + 7, none⟩ = some q := ⟨_, (hd.cell (k * 8 + 7)).trans (Array.getElem?_eq_getElem (by omega))⟩
      have hf : ∀ j, wr.frozen? ⟨g, j, none⟩ = false := hd.frozen
      have HD := Lib.hid hd
      have HDS := Lib.hid hds
      clear hd hds hz hg hmk
      go_wp2_with fail
      go_roundw
      case rel =>
        have h2 := ((((((((HD.out.set_ (k * 8) (.int .i64 z)).set_ (k * 8 + 1) (.int .i64 (z + 1))).set_ (k * 8 + 2) (.int .i64 (z + 1 + 1))).set_ (k * 8 + 3) (.int .i64 (z + 1 + 1 + 1))).set_ (k * 8 + 4) (.int .i64 (z + 1 + 1 + 1 + 1))).set_ (k * 8 + 5) (.int .i64 (z + 1 + 1 + 1 + 1 + 1))).set_ (k * 8 + 6) (.int .i64 (z + 1 + 1 + 1 + 1 + 1 + 1))).set_ (k * 8 + 7) (.bool ((z + 1 + 1 + 1 + 1 + 1 + 1 + 1) % 3 == 0)))
        have hb := (gb_set (gb_set (gb_set (gb_set (gb_set (gb_set (gb_set (gb_set (gb_refl wr (some g)) (k * 8) (.int .i64 z)) (k * 8 + 1) (.int .i64 (z + 1))) (k * 8 + 2) (.int .i64 (z + 1 + 1))) (k * 8 + 3) (.int .i64 (z + 1 + 1 + 1))) (k * 8 + 4) (.int .i64 (z + 1 + 1 + 1 + 1))) (k * 8 + 5) (.int .i64 (z + 1 + 1 + 1 + 1 + 1))) (k * 8 + 6) (.int .i64 (z + 1 + 1 + 1 + 1 + 1 + 1))) (k * 8 + 7) (.bool ((z + 1 + 1 + 1 + 1 + 1 + 1 + 1) % 3 == 0)))
        refine ⟨k + 1, z + 1 + 1 + 1 + 1 + 1 + 1 + 1 + 1, by omega, by go_num, by have := HZ.out; omega, rfl, ⟨_, h2, by simp; exact HDS.out⟩, fun j hj => ?_, gb_trans HG.out hb⟩
        have hsz := HDS.out
        by_cases hjk : j = k
        · subst hjk
          rw [h2.cell, h2.cell, h2.cell, h2.cell, h2.cell, h2.cell, h2.cell, h2.cell, ← HZ.out]
          have h8 : j * 8 + 8 ≤ ds.size := by omega
          rw [set8_at0 _ _ _ _ _ _ _ _ _ _ h8, set8_at1 _ _ _ _ _ _ _ _ _ _ h8, set8_at2 _ _ _ _ _ _ _ _ _ _ h8, set8_at3 _ _ _ _ _ _ _ _ _ _ h8, set8_at4 _ _ _ _ _ _ _ _ _ _ h8, set8_at5 _ _ _ _ _ _ _ _ _ _ h8, set8_at6 _ _ _ _ _ _ _ _ _ _ h8, set8_at7 _ _ _ _ _ _ _ _ _ _ h8]
          simp only [Int.add_assoc, Int.reduceAdd, and_self]
        · have ho := HM.out j (by omega)
          rw [HD.out.cell, HD.out.cell, HD.out.cell, HD.out.cell, HD.out.cell, HD.out.cell, HD.out.cell, HD.out.cell] at ho
          rw [h2.cell, h2.cell, h2.cell, h2.cell, h2.cell, h2.cell, h2.cell, h2.cell]
          rw [set8_off _ _ _ _ _ _ _ _ _ _ _ (by omega), set8_off _ _ _ _ _ _ _ _ _ _ _ (by omega), set8_off _ _ _ _ _ _ _ _ _ _ _ (by omega), set8_off _ _ _ _ _ _ _ _ _ _ _ (by omega), set8_off _ _ _ _ _ _ _ _ _ _ _ (by omega), set8_off _ _ _ _ _ _ _ _ _ _ _ (by omega), set8_off _ _ _ _ _ _ _ _ _ _ _ (by omega), set8_off _ _ _ _ _ _ _ _ _ _ _ (by omega)]
          exact ho
      case measure => simp [intOf]; omega
    · obtain rfl : n = k := by omega
      clear hd hds hz hg hmk
      go_wp2_with fail
      go_ret
      exact ⟨by rw [HZ.out]; rfl, HM.out, HG.out⟩
set_option maxRecDepth 20000 in
set_option maxHeartbeats 4000000 in
theorem heldTrustS_calls (g n cap : Nat) (m : Int) (w : World) (hn : n ≤ 1048576) (hm0 : 0 ≤ m) (hm1 : m ≤ 2000000) (hc : MarkT w g n m) :
    Calls Try.prog 43 #[.slice (some ⟨g, 0, none⟩) n cap, .int .i64 m] w fun e w' => e = .returned (.int .i64 (m + 8 * n)) ∧ w = w' := by
  have HC := Lib.hid hc
  clear hc
  go_enter Try.func43, Try.ntmps43
  go_wp2_with fail
  go_loop [5, 1] (fun i t' => ∃ k : Nat, ∃ z : Int, k ≤ n ∧ i = .int .i64 k ∧ z = m + 8 * k ∧ t' = .int .i64 z) (fun i _ => n - (intOf i).toNat)
  case atStart => exact ⟨0, m, by omega, rfl, by simp, rfl⟩
  case round =>
    obtain ⟨k, z, hk, rfl, hz, rfl⟩ := hrel
    have z0 : 0 ≤ z := by omega
    have z1 : z ≤ 40000000 := by omega
    by_cases hlt : k < n
    · have hlt' : (k : Int) < n := by omega
      have hc := HC.out k hlt
      rw [← hz] at hc
      obtain ⟨c0, c1, c2, c3, c4, c5, c6, c7⟩ := hc
      rw [show z + 2 = z + 1 + 1 by omega] at c2
      rw [show z + 3 = z + 1 + 1 + 1 by omega] at c3
      rw [show z + 4 = z + 1 + 1 + 1 + 1 by omega] at c4
      rw [show z + 5 = z + 1 + 1 + 1 + 1 + 1 by omega] at c5
      rw [show z + 6 = z + 1 + 1 + 1 + 1 + 1 + 1 by omega] at c6
      rw [show z + 7 = z + 1 + 1 + 1 + 1 + 1 + 1 + 1 by omega] at c7
      have HZ := Lib.hid hz
      clear hz
      go_wp2_with fail
      go_round
      case rel => exact ⟨k + 1, z + 1 + 1 + 1 + 1 + 1 + 1 + 1 + 1, by omega, by go_num, by have := HZ.out; omega, rfl⟩
      case measure => simp [intOf]; omega
    · obtain rfl : n = k := by omega
      have HZ := Lib.hid hz
      clear hz
      go_wp2_with fail
      go_ret
      exact ⟨by rw [HZ.out]; rfl, rfl⟩
theorem markTrustS_nil (A : Option Addr) (c : Nat) (m : Int) (w : World) : Calls Try.prog 18 #[.slice A 0 c, .int .i64 m] w fun e w' => e = .returned (.int .i64 m) ∧ w = w' := by
  go_enter Try.func18, Try.ntmps18
  go_wp2_with fail
  go_loop [5, 1] (fun i t => i = .int .i64 0 ∧ t = .int .i64 m) (fun _ _ => 0)
  case atStart => exact ⟨rfl, rfl⟩
  case round =>
    obtain ⟨rfl, rfl⟩ := hrel
    go_wp2_with fail
    go_ret
    exact ⟨rfl, rfl⟩
theorem heldTrustS_nil (A : Option Addr) (c : Nat) (m : Int) (w : World) : Calls Try.prog 43 #[.slice A 0 c, .int .i64 m] w fun e w' => e = .returned (.int .i64 m) ∧ w = w' := by
  go_enter Try.func43, Try.ntmps43
  go_wp2_with fail
  go_loop [5, 1] (fun i t => i = .int .i64 0 ∧ t = .int .i64 m) (fun _ _ => 0)
  case atStart => exact ⟨rfl, rfl⟩
  case round =>
    obtain ⟨rfl, rfl⟩ := hrel
    go_wp2_with fail
    go_ret
    exact ⟨rfl, rfl⟩
def HeldT (w : World) (v : Value) (n : Nat) : Prop := (∃ g c, v = .slice (some ⟨g, 0, none⟩) n c ∧ g < w.heap.size ∧ MarkT w g n 1) ∨ (n = 0 ∧ ∃ A c, v = .slice A 0 c)
theorem HeldT.below {u w : World} {v : Value} {n : Nat} (h : HeldT u v n) (hb : Below u.heap.size u w) : HeldT w v n := by
  rcases h with ⟨g, c, e, hg, hm⟩ | h
  · exact .inl ⟨g, c, e, Nat.lt_of_lt_of_le hg hb.size, hm.block (hb.block g hg)⟩
  · exact .inr h
theorem markTr_calls (v : Value) (L : List Tru) (base : Nat) (w : World) (hn : L.length ≤ 1048576) (hr : TrRow w base v L) :
    Calls Try.prog 18 #[v, .int .i64 1] w fun e w' => e = .returned (.int .i64 (1 + 8 * L.length)) ∧ HeldT w' v L.length ∧ w.grownBy w' v.ownBlock := by
  rcases hr.2 with ⟨rfl, h0⟩ | ⟨g, cap, cur, rfl, hb, hg, hnc, hcm, hcs, htake⟩
  · refine (markTrustS_nil none 0 1 w).mono ?_
    rintro e w' ⟨rfl, rfl⟩
    rw [h0]
    exact ⟨rfl, .inr ⟨rfl, _, _, rfl⟩, gb_refl _ _⟩
  · refine (markTrustS_calls g L.length cap 1 _ cur w hn (by omega) (by omega) hg (by rw [hcs]; exact Nat.mul_le_mul_right 8 hnc)).mono ?_
    rintro e w' ⟨rfl, hm, hgb⟩
    exact ⟨rfl, .inl ⟨g, cap, rfl, Nat.lt_of_lt_of_le (Array.getElem?_eq_some_iff.1 hg).1 hgb.size, hm⟩, hgb⟩
theorem heldTr_calls (v : Value) (n : Nat) (w : World) (hn : n ≤ 1048576) (hr : HeldT w v n) :
    Calls Try.prog 43 #[v, .int .i64 1] w fun e w' => e = .returned (.int .i64 (1 + 8 * n)) ∧ w = w' := by
  rcases hr with ⟨g, c, rfl, hg, hm⟩ | ⟨rfl, A, c, rfl⟩
  · exact heldTrustS_calls g n c 1 w hn (by omega) (by omega) hm
  · exact heldTrustS_nil A c 1 w
theorem markSeal_calls (cnt mac : Int) (v : Value) (L : List Tru) (base : Nat) (w : World) (hn : L.length ≤ 1048576) (hr : TrRow w base v L) :
    Calls Try.prog 19 #[.agg #[.int .i64 cnt, v, .int .i64 mac], .int .i64 1] w fun e w' => e = .returned (.int .i64 (1 + 8 * L.length)) ∧ HeldT w' v L.length ∧ w.grownBy w' v.ownBlock := by
  have hr1 := hr.alloc (.cells #[.int .i64 cnt, v, .int .i64 mac] 37)
  have ho : ∀ k, v.ownBlock = some k → k < w.heap.size := fun k hk => (hr.lt hk).2
  obtain ⟨A, c, rfl, -, -⟩ := hr.reads truV_len
  have C := Lib.hid (markTr_calls (.slice A L.length c) L base _ hn hr1)
  have GB := Lib.hid (World.grownBy_alloc w (.cells #[.int .i64 cnt, .slice A L.length c, .int .i64 mac] 37) (Value.slice A L.length c).ownBlock)
  clear hr hr1 ho
  go_enter Try.func19, Try.ntmps19
  go_wp2_with fail
  refine C.out.mono ?_; rintro e w1 ⟨rfl, hh, hg⟩
  have HH := Lib.hid hh
  have HG := Lib.hid (gb_trans GB.out hg)
  clear hh hg C GB
  go_wp2_with fail
  go_ret
  exact ⟨rfl, HH.out, HG.out⟩
theorem heldSeal_calls (cnt mac : Int) (A : Option Addr) (n c : Nat) (w : World) (hn : n ≤ 1048576) (hr : HeldT w (.slice A n c) n) :
    Calls Try.prog 20 #[.agg #[.int .i64 cnt, .slice A n c, .int .i64 mac], .int .i64 1] w fun e w' => e = .returned (.int .i64 (1 + 8 * n)) ∧ Below w.heap.size w w' := by
  have hb := box_below w (.cells #[.int .i64 cnt, .slice A n c, .int .i64 mac] 37)
  have C := Lib.hid (heldTr_calls (.slice A n c) n _ hn (hr.below hb))
  have B := Lib.hid hb
  have h2 : ¬ (1 : Int) + 8 * n < 0 := by omega
  clear hr hb
  go_enter Try.func20, Try.ntmps20
  go_wp2_with fail
  refine C.out.mono ?_; rintro e w1 ⟨rfl, rfl⟩
  go_wp2_with fail
  go_ret
  exact ⟨rfl, B.out⟩
end Go.Proofs.Ytodmponjjhokdaa.Mx
namespace Go.Proofs.Ytodmponjjhokdaa.Mx
open Go.ChangeShapes Go.WideShapes Go.ChangeAt Go.RowKit
set_option linter.unusedVariables false
end Go.Proofs.Ytodmponjjhokdaa.Mx
namespace Go.Proofs.Ytodmponjjhokdaa.Mx
open Go.ChangeShapes Go.WideShapes Go.ChangeAt Go.RowKit
set_option linter.unusedVariables false
set_option maxHeartbeats 2000000 in
theorem markInt64S_calls (g n cap : Nat) (m : Int) (f : Nat → Value) (w : World) (hn : n ≤ 1048576) (hm0 : 0 ≤ m) (hm1 : m ≤ 1000000) (hr : w.rowIs g 2 n f) :
    Calls Try.prog 42 #[.slice (some ⟨g, 0, none⟩) n cap, .int .i64 m] w fun e w' => e = .returned (.int .i64 (m + n)) ∧ w.grownBy w' (some g) := by
  have HR := Lib.hid hr
  clear hr
  go_enter Try.func42, Try.ntmps42
  go_wp2_with fail
  go_loopw [5, 1] (fun i t u => ∃ k : Nat, ∃ z : Int, k ≤ n ∧ i = .int .i64 k ∧ z = m + k ∧ t = .int .i64 z ∧ (∃ f', u.rowIs g 2 n f') ∧ w.grownBy u (some g)) (fun i _ _ => n - (intOf i).toNat)
  case atStart => exact ⟨0, m, by omega, rfl, by simp, rfl, ⟨f, HR.out⟩, gb_refl _ _⟩
  case round =>
    obtain ⟨k, z, hk, rfl, hz, rfl, ⟨f', hr⟩, hg⟩ := hrel
    have HZ := Lib.hid hz
    have HG := Lib.hid hg
    have z0 : 0 ≤ z := by omega
    have z1 : z ≤ 3000000 := by omega
    by_cases hlt : k < n
    · have ho := hr.cell hlt
      have hf := hr.frozen k
      have HS := Lib.hid (hr.set k (Value.int .i64 z))
      clear hr hz hg
      have hlt' : (k : Int) < n := by omega
      go_wp2_with fail
      go_roundw
      case rel => exact ⟨k + 1, z + 1, by omega, by go_num, by have := HZ.out; omega, rfl, ⟨_, HS.out⟩, gb_set HG.out k (.int .i64 z)⟩
      case measure => simp [intOf]; omega
    · obtain rfl : n = k := by omega
      clear hr hz hg
      go_wp2_with fail
      go_ret
      exact ⟨by rw [HZ.out]; rfl, HG.out⟩
theorem markPlan_calls (key : Int) (g n cap : Nat) (f : Nat → Value) (w : World) (hn : n ≤ 1048576) (hr : w.rowIs g 2 n f) :
    Calls Try.prog 17 #[.agg #[.int .i64 key, .slice (some ⟨g, 0, none⟩) n cap], .int .i64 1] w fun e w' => e = .returned (.int .i64 (1 + n)) ∧ w.grownBy w' (some g) := by
  have C := Lib.hid (fun u (h : u.rowIs g 2 n f) => markInt64S_calls g n cap 1 f u hn (by omega) (by omega) h)
  have R1 := Lib.hid (show (w.alloc (.cells #[.int .i64 key, .slice (some ⟨g, 0, none⟩) n cap] 29)).rowIs g 2 n f from by
    obtain ⟨c, h1, h2, h3⟩ := hr
    exact ⟨c, by rw [Below.heap_alloc _ _ _ (Array.getElem?_eq_some_iff.1 h1).1]; exact h1, h2, h3⟩)
  clear hr
  go_enter Try.func17, Try.ntmps17
  go_wp2_with fail
  refine (C.out _ R1.out).mono ?_; rintro e w1 ⟨rfl, hg⟩
  have HG := Lib.hid (gb_trans (gb_alloc (gb_refl w (some g)) _) hg)
  clear hg R1 C
  go_wp2_with fail
  go_ret
  exact ⟨rfl, HG.out⟩
theorem rowIs_block {w u : World} {g : Nat} {t : TypeId} {n : Nat} {f : Nat → Value} (h : w.rowIs g t n f) (hb : u.heap[g]? = w.heap[g]?) : u.rowIs g t n f := by
  obtain ⟨c, h1, h2, h3⟩ := h
  exact ⟨c, hb.trans h1, h2, h3⟩
set_option maxHeartbeats 2000000 in
theorem toPlanO_calls (key : Int) (A : Option Addr) (l : List Int) (cap : Nat) (w : World) (hn : l.length ≤ 1048576) (hA : Ints w .i64 w.heap.size A l) :
    Calls Try.prog 9 #[.agg #[.int .i64 key, .slice A l.length cap]] w fun e w' => ∃ g, e = .returned (.agg #[.int .i64 key, .slice (some ⟨g, 0, none⟩) l.length l.length]) ∧ w.heap.size ≤ g ∧ w'.rowIs g 2 l.length (fun i => .int .i64 (l.getD i 0)) ∧ Below w.heap.size w w' := by
  have T := Lib.hid (fun w hA => toInt64S_calls A l cap w hn hA)
  have k0 := (((Kept.refl w).new 24 #[.int .i64 key, .slice A l.length cap]).new 29 #[.int .i64 0, .slice none 0 0]).new 29 #[.int .i64 key, .slice none 0 0]
  rw [show ((w.alloc (.cells #[.int .i64 key, .slice A l.length cap] 24)).alloc (.cells #[.int .i64 0, .slice none 0 0] 29)).heap.size = w.heap.size + 1 + 1 by simp, show (w.alloc (.cells #[.int .i64 key, .slice A l.length cap] 24)).heap.size = w.heap.size + 1 by simp] at k0
  have HA := Lib.hid ((hA.below k0.1 (Nat.le_refl _)).more k0.1.size)
  have K0 := Lib.hid k0
  clear hA k0
  go_enter Try.func9, Try.ntmps9
  go_wp2_with fail
  refine (T.out _ HA.out).mono ?_; rintro e w1 ⟨rfl, b1, h1⟩
  obtain ⟨g, hge⟩ : ∃ g, g = (((w.alloc (.cells #[.int .i64 key, .slice A l.length cap] 24)).alloc (.cells #[.int .i64 0, .slice none 0 0] 29)).alloc (.cells #[.int .i64 key, .slice none 0 0] 29)).heap.size := ⟨_, rfl⟩
  rw [← hge] at h1 ⊢
  have hg : w.heap.size + 1 + 1 < g := by simp at hge; omega
  have k1 := K0.out.below b1
  clear hge
  have c20 : w1.cell? ⟨w.heap.size + 1 + 1, 0, none⟩ = some (.int .i64 key) := k1.cell (List.mem_cons_self ..) 0
  have c21 : w1.cell? ⟨w.heap.size + 1 + 1, 1, none⟩ = some (.slice none 0 0) := k1.cell (List.mem_cons_self ..) 1
  have c10 : w1.cell? ⟨w.heap.size + 1, 0, none⟩ = some (.int .i64 0) := k1.tail.cell (List.mem_cons_self ..) 0
  have c11 : w1.cell? ⟨w.heap.size + 1, 1, none⟩ = some (.slice none 0 0) := k1.tail.cell (List.mem_cons_self ..) 1
  have f2 := k1.frozen (List.mem_cons_self ..) 1
  have f10 := k1.tail.frozen (List.mem_cons_self ..) 0
  have f11 := k1.tail.frozen (List.mem_cons_self ..) 1
  have K1 := Lib.hid k1
  have H1 := Lib.hid h1
  have G1 := Lib.hid hg
  clear b1 h1 k1 hg
  go_wp2_with fail
  have k2 := K1.out.set (by intro x hx; simp at hx; rcases hx with rfl | rfl <;> simp <;> omega) 1 (.slice (some ⟨g, 0, none⟩) l.length l.length)
  have k3 := (k2.tail.set (by intro x hx; simp at hx; subst hx; simp) 0 (.int .i64 key)).set (by intro x hx; simp at hx; subst hx; simp) 1 (.slice (some ⟨g, 0, none⟩) l.length l.length)
  have h3 := rowIs_block H1.out (show (((w1.setCell ⟨w.heap.size + 1 + 1, 1, none⟩ (.slice (some ⟨g, 0, none⟩) l.length l.length)).setCell ⟨w.heap.size + 1, 0, none⟩ (.int .i64 key)).setCell ⟨w.heap.size + 1, 1, none⟩ (.slice (some ⟨g, 0, none⟩) l.length l.length)).heap[g]? = w1.heap[g]? from by
    have hg := G1.out
    rw [Below.heap_setCell _ _ _ _ (by simp; omega), Below.heap_setCell _ _ _ _ (by simp; omega), Below.heap_setCell _ _ _ _ (by simp; omega)])
  generalize World.setCell _ _ _ = w4 at k3 h3 ⊢
  have d0 : w4.cell? ⟨w.heap.size + 1, 0, none⟩ = some (.int .i64 key) := k3.cell (List.mem_cons_self ..) 0
  have d1 : w4.cell? ⟨w.heap.size + 1, 1, none⟩ = some (.slice (some ⟨g, 0, none⟩) l.length l.length) := k3.cell (List.mem_cons_self ..) 1
  exact bodyPost_ret (v := .agg #[.int .i64 key, .slice (some ⟨g, 0, none⟩) l.length l.length]) (by simp [results, Try.results9, go_sem, d0, d1]) rfl ⟨g, rfl, by have := G1.out; omega, h3, k3.1⟩
end Go.Proofs.Ytodmponjjhokdaa.Mx
namespace Go.Proofs.Ytodmponjjhokdaa.Mx
open Go.RowKit
set_option linter.unusedVariables false
def AndC (P Q : (Nat → Bool) → (Nat → Value) → World → Prop) (D : Nat → Bool) (γ : Nat → Value) (u : World) : Prop := P D γ u ∧ Q D γ u
def HoldC (k q : Nat) (P : Value → World → Prop) (D : Nat → Bool) (γ : Nat → Value) (u : World) : Prop := D k = true → D q = false → P (γ k) u
namespace HoldC
variable {k q j : Nat} {P : Value → World → Prop} {D : Nat → Bool} {γ γ' : Nat → Value} {u u' : World} {x : Value}
theorem loc (ha : ∀ i, D i = true → γ i = γ' i) (h : HoldC k q P D γ u) : HoldC k q P D γ' u := fun hk hq => by rw [← ha k hk]; exact h hk hq
theorem start : HoldC k q P (fun _ => false) γ u := fun h => by cases h
theorem step (hP : ∀ v u u', Below u.heap.size u u' → P v u → P v u') (h : HoldC k q P D γ u) (hb : Below u.heap.size u u') (hj : j ≠ k) : HoldC k q P (setD D j) (setG γ j x) u' := by
  intro hk hq
  have hjk : ¬ k = j := fun e => hj e.symm
  have hk' : D k = true := by unfold setD at hk; simpa [hjk] using hk
  have hq' : D q = false := by unfold setD at hq; simp at hq; exact hq.2
  unfold setG
  rw [if_neg hjk]
  exact hP _ _ _ hb (h hk' hq')
theorem put (hx : P x u') : HoldC k q P (setD D k) (setG γ k x) u' := fun _ _ => by unfold setG; rw [if_pos rfl]; exact hx
theorem used : HoldC k q P (setD D q) γ' u' := fun _ h => by unfold setD at h; simp at h
end HoldC
end Go.Proofs.Ytodmponjjhokdaa.Mx

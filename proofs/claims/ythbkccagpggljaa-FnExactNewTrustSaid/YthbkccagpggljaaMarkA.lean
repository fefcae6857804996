/- CONTRACTS OF laws.markInt64S, markPlan, markCellS, heldCellS, eqCellS; of toPlan, whose numbers are the call's own. -/
import Derived.Test.YthbkccagpggljaaPlanL
import Derived.Test.YthbkccagpggljaaCellL
import Derived.Test.YthbkccagpggljaaCRow
import Derived.Test.YthbkccagpggljaaClass
import Derived.Test.YthbkccagpggljaaCopyC
import Derived.Deep.RegionHeld3
import Derived.Deep.CutRange
namespace Go.Proofs.Ythbkccagpggljaa.Mx
open Go.ChangeShapes Go.WideShapes Go.ChangeAt Go.RowKit
set_option linter.unusedVariables false

set_option maxHeartbeats 2000000 in
/-- laws.markInt64S: only the block itself is written. -/
theorem markInt64S_calls (g n cap : Nat) (m : Int) (f : Nat → Value) (w : World) (hn : n ≤ 1048576) (hm0 : 0 ≤ m) (hm1 : m ≤ 1000000) (hr : w.rowIs g 2 n f) :
    Calls Try.prog 25 #[.slice (some ⟨g, 0, none⟩) n cap, .int .i64 m] w fun e w' => e = .returned (.int .i64 (m + n)) ∧ w.grownBy w' (some g) := by
  have HR := Lib.hid hr
  clear hr
  go_enter Try.func25, Try.ntmps25
  go_wp2_with fail
  go_loopw [5, 1] (fun i t u => ∃ k : Nat, ∃ z : Int, k ≤ n ∧ i = .int .i64 k ∧ z = m + k ∧ t = .int .i64 z ∧ (∃ f', u.rowIs g 2 n f') ∧ w.grownBy u (some g)) (fun i _ _ => n - (intOf i).toNat)
  case atStart => exact ⟨0, m, by omega, rfl, by simp, rfl, ⟨f, HR.out⟩, gb_refl _ _⟩
  case round =>
    obtain ⟨k, z, hk, rfl, hz, rfl, ⟨f', hr⟩, hg⟩ := hrel
    have HZ := Lib.hid hz
    have HG := Lib.hid hg
    have z0 : 0 ≤ z := by omega
    have z1 : z ≤ 3000000 := by omega
    by_cases hlt : k < n
    · have ho := hr.cell hlt
      have hf := hr.frozen k
      have HS := Lib.hid (hr.set k (Value.int .i64 z))
      clear hr hz hg
      have hlt' : (k : Int) < n := by omega
      go_wp2_with fail
      go_roundw
      case rel => exact ⟨k + 1, z + 1, by omega, by go_num, by have := HZ.out; omega, rfl, ⟨_, HS.out⟩, gb_set HG.out k (.int .i64 z)⟩
      case measure => simp [intOf]; omega
    · obtain rfl : n = k := by omega
      clear hr hz hg
      go_wp2_with fail
      go_ret
      exact ⟨by rw [HZ.out]; rfl, HG.out⟩

/-- laws.markPlan. -/
theorem markPlan_calls (key : Int) (g n cap : Nat) (f : Nat → Value) (w : World) (hn : n ≤ 1048576) (hr : w.rowIs g 2 n f) :
    Calls Try.prog 11 #[.agg #[.int .i64 key, .slice (some ⟨g, 0, none⟩) n cap], .int .i64 1] w fun e w' => e = .returned (.int .i64 (1 + n)) ∧ w.grownBy w' (some g) := by
  have C := Lib.hid (fun u (h : u.rowIs g 2 n f) => markInt64S_calls g n cap 1 f u hn (by omega) (by omega) h)
  have R1 := Lib.hid (show (w.alloc (.cells #[.int .i64 key, .slice (some ⟨g, 0, none⟩) n cap] 31)).rowIs g 2 n f from by
    obtain ⟨c, h1, h2, h3⟩ := hr
    exact ⟨c, by rw [Below.heap_alloc _ _ _ (Array.getElem?_eq_some_iff.1 h1).1]; exact h1, h2, h3⟩)
  clear hr
  go_enter Try.func11, Try.ntmps11
  go_wp2_with fail
  refine (C.out _ R1.out).mono ?_; rintro e w1 ⟨rfl, hg⟩
  have HG := Lib.hid (gb_trans (gb_alloc (gb_refl w (some g)) _) hg)
  clear hg R1 C
  go_wp2_with fail
  go_ret
  exact ⟨rfl, HG.out⟩

/-- Block g holds n cells, marked from m on. -/
def MarkC (w : World) (g n : Nat) (m : Int) : Prop := ∀ j, j < n → w.cell? ⟨g, j * 2, none⟩ = some (.int .i64 (m + 2 * j)) ∧ w.cell? ⟨g, j * 2 + 1, none⟩ = some (.int .i64 (m + 2 * j + 1))
theorem MarkC.block {w u : World} {g n : Nat} {m : Int} (h : MarkC w g n m) (hb : u.heap[g]? = w.heap[g]?) : MarkC u g n m := by
  have f : ∀ o, u.cell? ⟨g, o, none⟩ = w.cell? ⟨g, o, none⟩ := fun o => by simp [World.cell?, hb]
  exact fun j hj => ⟨(f _).trans (h j hj).1, (f _).trans (h j hj).2⟩

set_option maxHeartbeats 2000000 in
/-- laws.markCellS: only the block itself is written. -/
theorem markCellS_calls (g n cap : Nat) (m : Int) (t : TypeId) (cs : Array Value) (w : World) (hn : n ≤ 1048576) (hm0 : 0 ≤ m) (hm1 : m ≤ 1000000) (hc : CellsAt w g t cs) (hs : n * 2 ≤ cs.size) :
    Calls Try.prog 12 #[.slice (some ⟨g, 0, none⟩) n cap, .int .i64 m] w fun e w' => e = .returned (.int .i64 (m + 2 * n)) ∧ MarkC w' g n m ∧ w.grownBy w' (some g) := by
  have HC := Lib.hid hc
  have HS := Lib.hid hs
  clear hc hs
  go_enter Try.func12, Try.ntmps12
  go_wp2_with fail
  go_loopw [5, 1] (fun i t' u => ∃ k : Nat, ∃ z : Int, k ≤ n ∧ i = .int .i64 k ∧ z = m + 2 * k ∧ t' = .int .i64 z ∧ (∃ ds, CellsAt u g t ds ∧ n * 2 ≤ ds.size) ∧ MarkC u g k m ∧ w.grownBy u (some g)) (fun i _ _ => n - (intOf i).toNat)
  case atStart => exact ⟨0, m, by omega, rfl, by simp, rfl, ⟨cs, HC.out, HS.out⟩, fun j hj => by omega, gb_refl _ _⟩
  case round =>
    obtain ⟨k, z, hk, rfl, hz, rfl, ⟨ds, hd, hds⟩, hmk, hg⟩ := hrel
    have HZ := Lib.hid hz
    have HG := Lib.hid hg
    have HM := Lib.hid hmk
    have z0 : 0 ≤ z := by omega
    have z1 : z ≤ 4000000 := by omega
    by_cases hlt : k < n
    · have hlt' : (k : Int) < n := by omega
      obtain ⟨q0, e0⟩ : ∃ q, wr.cell? ⟨g, k * 2, none⟩ = some q := ⟨_, (hd.cell (k * 2)).trans (Array.getElem?_eq_getElem (by omega))⟩
      obtain ⟨q1, e1⟩ : ∃ q, wr.cell? ⟨g, k * 2 + 1, none⟩ = some q := ⟨_, (hd.cell (k * 2 + 1)).trans (Array.getElem?_eq_getElem (by omega))⟩
      have hf : ∀ j, wr.frozen? ⟨g, j, none⟩ = false := hd.frozen
      have HD := Lib.hid hd
      have HDS := Lib.hid hds
      clear hd hds hz hg hmk
      go_wp2_with fail
      go_roundw
      case rel =>
        have h2 := (HD.out.set_ (k * 2) (.int .i64 z)).set_ (k * 2 + 1) (.int .i64 (z + 1))
        have hb := gb_set (gb_set (gb_refl wr (some g)) (k * 2) (.int .i64 z)) (k * 2 + 1) (.int .i64 (z + 1))
        refine ⟨k + 1, z + 1 + 1, by omega, by go_num, by have := HZ.out; omega, rfl, ⟨_, h2, by simp; exact HDS.out⟩, fun j hj => ?_, gb_trans HG.out hb⟩
        have hsz := HDS.out
        by_cases hjk : j = k
        · subst hjk
          rw [h2.cell, h2.cell, ← HZ.out]
          constructor
          · rw [Array.getElem?_setIfInBounds_ne (by omega), Array.getElem?_setIfInBounds_self_of_lt (by omega)]
          · rw [Array.getElem?_setIfInBounds_self_of_lt (by simp; omega)]
        · have ho := HM.out j (by omega)
          rw [HD.out.cell, HD.out.cell] at ho
          rw [h2.cell, h2.cell]
          constructor
          · rw [Array.getElem?_setIfInBounds_ne (by omega), Array.getElem?_setIfInBounds_ne (by omega)]; exact ho.1
          · rw [Array.getElem?_setIfInBounds_ne (by omega), Array.getElem?_setIfInBounds_ne (by omega)]; exact ho.2
      case measure => simp [intOf]; omega
    · obtain rfl : n = k := by omega
      clear hd hds hz hg hmk
      go_wp2_with fail
      go_ret
      exact ⟨by rw [HZ.out]; rfl, HM.out, HG.out⟩

set_option maxHeartbeats 2000000 in
/-- laws.heldCellS: of cells that are marked still. -/
theorem heldCellS_calls (g n cap : Nat) (m : Int) (w : World) (hn : n ≤ 1048576) (hm0 : 0 ≤ m) (hm1 : m ≤ 1000000) (hc : MarkC w g n m) :
    Calls Try.prog 13 #[.slice (some ⟨g, 0, none⟩) n cap, .int .i64 m] w fun e w' => e = .returned (.int .i64 (m + 2 * n)) ∧ w = w' := by
  have HC := Lib.hid hc
  clear hc
  go_enter Try.func13, Try.ntmps13
  go_wp2_with fail
  go_loop [5, 1] (fun i t' => ∃ k : Nat, ∃ z : Int, k ≤ n ∧ i = .int .i64 k ∧ z = m + 2 * k ∧ t' = .int .i64 z) (fun i _ => n - (intOf i).toNat)
  case atStart => exact ⟨0, m, by omega, rfl, by simp, rfl⟩
  case round =>
    obtain ⟨k, z, hk, rfl, hz, rfl⟩ := hrel
    have z0 : 0 ≤ z := by omega
    have z1 : z ≤ 4000000 := by omega
    by_cases hlt : k < n
    · have hlt' : (k : Int) < n := by omega
      have hc := HC.out k hlt
      rw [← hz] at hc
      obtain ⟨c0, c1⟩ := hc
      have HZ := Lib.hid hz
      clear hz
      go_wp2_with fail
      go_round
      case rel => exact ⟨k + 1, z + 1 + 1, by omega, by go_num, by have := HZ.out; omega, rfl⟩
      case measure => simp [intOf]; omega
    · obtain rfl : n = k := by omega
      have HZ := Lib.hid hz
      clear hz
      go_wp2_with fail
      go_ret
      exact ⟨by rw [HZ.out]; rfl, rfl⟩

set_option maxRecDepth 20000 in
set_option maxHeartbeats 2000000 in
/-- laws.eqCellS, at two that read alike. -/
theorem eqCellS_same (A C : Option Addr) (L : List Ce) (cap cap' : Nat) (w : World) (hn : L.length ≤ 1048576) (hA : Ces w w.heap.size A L) (hC : Ces w w.heap.size C L) :
    Calls Try.prog 9 #[.slice A L.length cap, .slice C L.length cap'] w fun e w' => e = .returned (.bool true) ∧ Below w.heap.size w w' := by
  have HA := Lib.hid hA
  have HC := Lib.hid hC
  clear hA hC
  go_enter Try.func9, Try.ntmps9
  go_wp2_with fail
  go_loopw [5] (fun i wr => ∃ k : Nat, k ≤ L.length ∧ i = .int .i64 k ∧ Below w.heap.size w wr) (fun i _ => L.length - (intOf i).toNat)
  case atStart => exact ⟨0, Nat.zero_le _, rfl, Below.refl _ _⟩
  case round =>
    obtain ⟨k, hk, rfl, hbel⟩ := hrel
    by_cases hlt : k < L.length
    · obtain ⟨b, off, rfl, hb, hc0, hc1⟩ := (HA.out.below hbel (Nat.le_refl _)) k hlt
      obtain ⟨b', off', rfl, hb', hc0', hc1'⟩ := (HC.out.below hbel (Nat.le_refl _)) k hlt
      have HB := Lib.hid hbel
      have hbz := hbel.size
      generalize (L.getD k (0, 0)).1 = v0 at hc0 hc0'
      generalize (L.getD k (0, 0)).2 = v1 at hc1 hc1'
      have lb : b < wr.heap.size := by omega
      have lb' : b' < wr.heap.size := by omega
      have hlt' : (k : Int) < L.length := by omega
      have k0' : (0 : Int) ≤ k := by omega
      have EQ := Lib.hid (fun (u : World) (h : Below wr.heap.size wr u) => (eqCel_same v0 v1 u).mono (fun e w' ⟨he, hb⟩ => (⟨he, h.trans (hb.mono h.size)⟩ : _ ∧ Below wr.heap.size wr w')))
      clear hbel hbz hb hb' hk
      go_upto_region 6 with fail
      refine wp_region_class (C := fun u => Below wr.heap.size wr u) (by kernel_rfl) (by kernel_rfl) (Below.refl _ _).drew ?_
      iterate 10 (first
        | go_big_quiet_skip
        | (go_big_quiet_want
           go_big_quiet_op
           first
             | go_big_quiet_on
             | (apply Exists.intro
                refine ⟨fun u hu => ?_, ?_⟩
                · first
                    | with_reducible rfl
                    | (go_at_call 23; exact EQ.out u hu)
                    | (have f0 := (hu.cell (p := ⟨b, off + k * 2, none⟩) lb).trans hc0; have f1 := (hu.cell (p := ⟨b, off + k * 2 + 1, none⟩) lb).trans hc1; have f2 := (hu.cell (p := ⟨b', off' + k * 2, none⟩) lb').trans hc0'; have f3 := (hu.cell (p := ⟨b', off' + k * 2 + 1, none⟩) lb').trans hc1'; go_simp; first | done | with_reducible rfl)
                go_big_quiet_on)))
      refine wpQuiet_nil ?_
      intro wz hz
      have HZ := Lib.hid (HB.out.trans (hz.mono HB.out.size))
      clear hz
      go_wp2_with fail
      go_roundw
      case rel => exact ⟨k + 1, by omega, by go_num, HZ.out⟩
      case measure => simp [intOf]; omega
    · have HB := Lib.hid hbel
      clear hbel
      go_wp2_with fail
      go_ret
      exact ⟨rfl, HB.out⟩

theorem rowIs_block {w u : World} {g : Nat} {t : TypeId} {n : Nat} {f : Nat → Value} (h : w.rowIs g t n f) (hb : u.heap[g]? = w.heap[g]?) : u.rowIs g t n f := by
  obtain ⟨c, h1, h2, h3⟩ := h
  exact ⟨c, hb.trans h1, h2, h3⟩
set_option maxHeartbeats 2000000 in
/-- laws.toPlan: a copy, whose numbers are the call's own. -/
theorem toPlanO_calls (key : Int) (A : Option Addr) (l : List Int) (cap : Nat) (w : World) (hn : l.length ≤ 1048576) (hA : Ints w .i64 w.heap.size A l) :
    Calls Try.prog 6 #[.agg #[.int .i64 key, .slice A l.length cap]] w fun e w' => ∃ g, e = .returned (.agg #[.int .i64 key, .slice (some ⟨g, 0, none⟩) l.length l.length]) ∧ w.heap.size ≤ g ∧ w'.rowIs g 2 l.length (fun i => .int .i64 (l.getD i 0)) ∧ Below w.heap.size w w' := by
  have T := Lib.hid (fun w hA => toInt64S_calls A l cap w hn hA)
  have k0 := (((Kept.refl w).new 24 #[.int .i64 key, .slice A l.length cap]).new 31 #[.int .i64 0, .slice none 0 0]).new 31 #[.int .i64 key, .slice none 0 0]
  rw [show ((w.alloc (.cells #[.int .i64 key, .slice A l.length cap] 24)).alloc (.cells #[.int .i64 0, .slice none 0 0] 31)).heap.size = w.heap.size + 1 + 1 by simp, show (w.alloc (.cells #[.int .i64 key, .slice A l.length cap] 24)).heap.size = w.heap.size + 1 by simp] at k0
  have HA := Lib.hid ((hA.below k0.1 (Nat.le_refl _)).more k0.1.size)
  have K0 := Lib.hid k0
  clear hA k0
  go_enter Try.func6, Try.ntmps6
  go_wp2_with fail
  refine (T.out _ HA.out).mono ?_; rintro e w1 ⟨rfl, b1, h1⟩
  obtain ⟨g, hge⟩ : ∃ g, g = (((w.alloc (.cells #[.int .i64 key, .slice A l.length cap] 24)).alloc (.cells #[.int .i64 0, .slice none 0 0] 31)).alloc (.cells #[.int .i64 key, .slice none 0 0] 31)).heap.size := ⟨_, rfl⟩
  rw [← hge] at h1 ⊢
  have hg : w.heap.size + 1 + 1 < g := by simp at hge; omega
  have k1 := K0.out.below b1
  clear hge
  have c20 : w1.cell? ⟨w.heap.size + 1 + 1, 0, none⟩ = some (.int .i64 key) := k1.cell (List.mem_cons_self ..) 0
  have c21 : w1.cell? ⟨w.heap.size + 1 + 1, 1, none⟩ = some (.slice none 0 0) := k1.cell (List.mem_cons_self ..) 1
  have c10 : w1.cell? ⟨w.heap.size + 1, 0, none⟩ = some (.int .i64 0) := k1.tail.cell (List.mem_cons_self ..) 0
  have c11 : w1.cell? ⟨w.heap.size + 1, 1, none⟩ = some (.slice none 0 0) := k1.tail.cell (List.mem_cons_self ..) 1
  have f2 := k1.frozen (List.mem_cons_self ..) 1
  have f10 := k1.tail.frozen (List.mem_cons_self ..) 0
  have f11 := k1.tail.frozen (List.mem_cons_self ..) 1
  have K1 := Lib.hid k1
  have H1 := Lib.hid h1
  have G1 := Lib.hid hg
  clear b1 h1 k1 hg
  go_wp2_with fail
  have k2 := K1.out.set (by intro x hx; simp at hx; rcases hx with rfl | rfl <;> simp <;> omega) 1 (.slice (some ⟨g, 0, none⟩) l.length l.length)
  have k3 := (k2.tail.set (by intro x hx; simp at hx; subst hx; simp) 0 (.int .i64 key)).set (by intro x hx; simp at hx; subst hx; simp) 1 (.slice (some ⟨g, 0, none⟩) l.length l.length)
  have h3 := rowIs_block H1.out (show (((w1.setCell ⟨w.heap.size + 1 + 1, 1, none⟩ (.slice (some ⟨g, 0, none⟩) l.length l.length)).setCell ⟨w.heap.size + 1, 0, none⟩ (.int .i64 key)).setCell ⟨w.heap.size + 1, 1, none⟩ (.slice (some ⟨g, 0, none⟩) l.length l.length)).heap[g]? = w1.heap[g]? from by
    have hg := G1.out
    rw [Below.heap_setCell _ _ _ _ (by simp; omega), Below.heap_setCell _ _ _ _ (by simp; omega), Below.heap_setCell _ _ _ _ (by simp; omega)])
  generalize World.setCell _ _ _ = w4 at k3 h3 ⊢
  have d0 : w4.cell? ⟨w.heap.size + 1, 0, none⟩ = some (.int .i64 key) := k3.cell (List.mem_cons_self ..) 0
  have d1 : w4.cell? ⟨w.heap.size + 1, 1, none⟩ = some (.slice (some ⟨g, 0, none⟩) l.length l.length) := k3.cell (List.mem_cons_self ..) 1
  exact bodyPost_ret (v := .agg #[.int .i64 key, .slice (some ⟨g, 0, none⟩) l.length l.length]) (by simp [results, Try.results6, go_sem, d0, d1]) rfl ⟨g, rfl, by have := G1.out; omega, h3, k3.1⟩
end Go.Proofs.Ythbkccagpggljaa.Mx

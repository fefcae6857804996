/- CONTRACTS OF laws.szInt64S, szPlan, toPlan, eqPlan AND THE WALKS OF laws.FnExactPlanOk, FnExactSectorsOf, FnExactRegionOf, FnExactFirstOf. -/
import Derived.Test.YthbkccagpggljaaPlanT
import Derived.Test.YthbkccagpggljaaKept
namespace Go.Proofs.Ythbkccagpggljaa.Mx
open Go.ChangeShapes Go.WideShapes Go.ChangeAt Go.RowKit
set_option linter.unusedVariables false

theorem szInt64S_no (A : Option Addr) (n cap : Nat) (w : World) (hn : n ≤ maxLen) (h : 1048576 < n) :
    Calls Try.prog 14 #[.slice A n cap, .int .i64 1048576] w fun e w' => e = .returned (.int .i64 (-1)) ∧ w = w' := by
  unfold maxLen at hn
  have hs : (1048576 : Int) - n < 0 := by omega
  go_enter Try.func14, Try.ntmps14
  go_wp2
  go_ret
  exact ⟨rfl, rfl⟩
theorem szInt64S_yes (A : Option Addr) (n cap : Nat) (w : World) (h : n ≤ 1048576) :
    Calls Try.prog 14 #[.slice A n cap, .int .i64 1048576] w fun e w' => e = .returned (.int .i64 (1048576 - n)) ∧ w = w' := by
  have hs : ¬ (1048576 : Int) - n < 0 := by omega
  go_enter Try.func14, Try.ntmps14
  go_wp2
  go_ret
  exact ⟨rfl, rfl⟩
theorem szPlan_no (key : Int) (A : Option Addr) (n cap : Nat) (w : World) (hn : n ≤ maxLen) (h : 1048576 < n) :
    Calls Try.prog 4 #[.agg #[.int .i64 key, .slice A n cap], .int .i64 1048576] w fun e w' => e = .returned (.int .i64 (-1)) ∧ Below w.heap.size w w' := by
  have C := Lib.hid (fun w => szInt64S_no A n cap w hn h)
  clear hn h
  go_enter Try.func4, Try.ntmps4
  go_wp2_with fail
  refine (C.out _).mono ?_; rintro e w' ⟨rfl, rfl⟩
  go_wp2_with fail
  go_ret
  exact ⟨rfl, box_below w _⟩
theorem szPlan_yes (key : Int) (A : Option Addr) (n cap : Nat) (w : World) (h : n ≤ 1048576) :
    Calls Try.prog 4 #[.agg #[.int .i64 key, .slice A n cap], .int .i64 1048576] w fun e w' => e = .returned (.int .i64 (1048576 - n)) ∧ Below w.heap.size w w' := by
  have C := Lib.hid (fun w => szInt64S_yes A n cap w h)
  have hs : ¬ (1048576 : Int) - n < 0 := by omega
  clear h
  go_enter Try.func4, Try.ntmps4
  go_wp2_with fail
  refine (C.out _).mono ?_; rintro e w' ⟨rfl, rfl⟩
  go_wp2_with fail
  go_ret
  exact ⟨rfl, box_below w _⟩

/-- Block g holds, from its first cell on, the numbers l. -/
def NewRow (w : World) (g : Nat) (l : List Int) : Prop := g < w.heap.size ∧ ∀ i, i < l.length → w.cell? ⟨g, i, none⟩ = some (.int .i64 (l.getD i 0))
theorem NewRow.ints {w : World} {g : Nat} {l : List Int} (h : NewRow w g l) : Ints w .i64 w.heap.size (some ⟨g, 0, none⟩) l := fun i hi => ⟨g, 0, rfl, h.1, by rw [Nat.zero_add]; exact h.2 i hi⟩
theorem NewRow.set {w : World} {g p : Nat} {l : List Int} (h : NewRow w g l) (hne : p ≠ g) (i : Nat) (v : Value) : NewRow (w.setCell ⟨p, i, none⟩ v) g l :=
  ⟨by simpa using h.1, fun k hk => (gb_set (gb_refl w (some p)) i v).cell (h.2 k hk) (by intro e; injection e with e; exact hne e.symm)⟩
/-- laws.toInt64S, said shortly: a list of new memory that reads the same. -/
theorem toInt64S_new (A : Option Addr) (l : List Int) (cap : Nat) (w : World) (hn : l.length ≤ 1048576) (hA : Ints w .i64 w.heap.size A l) :
    Calls Try.prog 19 #[.slice A l.length cap] w fun e w' => ∃ g, e = .returned (.slice (some ⟨g, 0, none⟩) l.length l.length) ∧ w.heap.size ≤ g ∧ Below w.heap.size w w' ∧ NewRow w' g l := by
  refine (toInt64S_calls A l cap w hn hA).mono ?_
  rintro e w' ⟨rfl, hb, hr⟩
  exact ⟨_, rfl, Nat.le_refl _, hb, hr.lt, fun i hi => hr.cell hi⟩

/-- laws.toPlan: a copy, in new memory. -/
theorem toPlan_calls (key : Int) (A : Option Addr) (l : List Int) (cap : Nat) (w : World) (hn : l.length ≤ 1048576) (hA : Ints w .i64 w.heap.size A l) :
    Calls Try.prog 6 #[.agg #[.int .i64 key, .slice A l.length cap]] w fun e w' => ∃ C, e = .returned (.agg #[.int .i64 key, .slice C l.length l.length]) ∧ Ints w' .i64 w'.heap.size C l ∧ Below w.heap.size w w' := by
  have T := Lib.hid (fun w hA => toInt64S_new A l cap w hn hA)
  have k0 := (((Kept.refl w).new 24 #[.int .i64 key, .slice A l.length cap]).new 31 #[.int .i64 0, .slice none 0 0]).new 31 #[.int .i64 key, .slice none 0 0]
  rw [show ((w.alloc (.cells #[.int .i64 key, .slice A l.length cap] 24)).alloc (.cells #[.int .i64 0, .slice none 0 0] 31)).heap.size = w.heap.size + 1 + 1 by simp, show (w.alloc (.cells #[.int .i64 key, .slice A l.length cap] 24)).heap.size = w.heap.size + 1 by simp] at k0
  have HA := Lib.hid ((hA.below k0.1 (Nat.le_refl _)).more k0.1.size)
  have K0 := Lib.hid k0
  clear hA k0
  go_enter Try.func6, Try.ntmps6
  go_wp2_with fail
  refine (T.out _ HA.out).mono ?_; rintro e w1 ⟨g, rfl, hg, b1, h1⟩
  have hg2 : w.heap.size + 1 + 1 ≠ g := by simp at hg; omega
  have hg1 : w.heap.size + 1 ≠ g := by simp at hg; omega
  clear hg
  have k1 := K0.out.below b1
  have c20 : w1.cell? ⟨w.heap.size + 1 + 1, 0, none⟩ = some (.int .i64 key) := k1.cell (List.mem_cons_self ..) 0
  have c21 : w1.cell? ⟨w.heap.size + 1 + 1, 1, none⟩ = some (.slice none 0 0) := k1.cell (List.mem_cons_self ..) 1
  have c10 : w1.cell? ⟨w.heap.size + 1, 0, none⟩ = some (.int .i64 0) := k1.tail.cell (List.mem_cons_self ..) 0
  have c11 : w1.cell? ⟨w.heap.size + 1, 1, none⟩ = some (.slice none 0 0) := k1.tail.cell (List.mem_cons_self ..) 1
  have f2 := k1.frozen (List.mem_cons_self ..) 1
  have f10 := k1.tail.frozen (List.mem_cons_self ..) 0
  have f11 := k1.tail.frozen (List.mem_cons_self ..) 1
  have K1 := Lib.hid k1
  have H1 := Lib.hid h1
  clear b1 h1 k1
  go_wp2_with fail
  have k2 := K1.out.set (by intro x hx; simp at hx; rcases hx with rfl | rfl <;> simp <;> omega) 1 (.slice (some ⟨g, 0, none⟩) l.length l.length)
  have k3 := (k2.tail.set (by intro x hx; simp at hx; subst hx; simp) 0 (.int .i64 key)).set (by intro x hx; simp at hx; subst hx; simp) 1 (.slice (some ⟨g, 0, none⟩) l.length l.length)
  have h3 := ((H1.out.set hg2 1 (.slice (some ⟨g, 0, none⟩) l.length l.length)).set hg1 0 (.int .i64 key)).set hg1 1 (.slice (some ⟨g, 0, none⟩) l.length l.length)
  generalize World.setCell _ _ _ = w4 at k3 h3 ⊢
  have d0 : w4.cell? ⟨w.heap.size + 1, 0, none⟩ = some (.int .i64 key) := k3.cell (List.mem_cons_self ..) 0
  have d1 : w4.cell? ⟨w.heap.size + 1, 1, none⟩ = some (.slice (some ⟨g, 0, none⟩) l.length l.length) := k3.cell (List.mem_cons_self ..) 1
  exact bodyPost_ret (v := .agg #[.int .i64 key, .slice (some ⟨g, 0, none⟩) l.length l.length]) (by simp [results, Try.results6, go_sem, d0, d1]) rfl ⟨_, rfl, h3.ints, k3.1⟩

/-- laws.eqPlan, at two plans that read alike. -/
theorem eqPlan_same (key : Int) (A C : Option Addr) (l : List Int) (cap cap' : Nat) (w : World) (hn : l.length ≤ 1048576) (hA : Ints w .i64 w.heap.size A l) (hC : Ints w .i64 w.heap.size C l) :
    Calls Try.prog 10 #[.agg #[.int .i64 key, .slice A l.length cap], .agg #[.int .i64 key, .slice C l.length cap']] w fun e w' => e = .returned (.bool true) ∧ Below w.heap.size w w' := by
  have E := Lib.hid (fun w hA hC => eqInt64S_same A C l cap cap' w hn hA hC)
  have HA := Lib.hid ((hA.boxed (.cells #[.int .i64 key, .slice A l.length cap] 31)).boxed (.cells #[.int .i64 key, .slice C l.length cap'] 31))
  have HC := Lib.hid ((hC.boxed (.cells #[.int .i64 key, .slice A l.length cap] 31)).boxed (.cells #[.int .i64 key, .slice C l.length cap'] 31))
  clear hA hC
  go_enter Try.func10, Try.ntmps10
  go_wp2_with fail
  refine (E.out _ HA.out HC.out).mono ?_; rintro e w1 ⟨rfl, b1⟩
  have B1 := Lib.hid ((((Below.refl w.heap.size w).alloc (Nat.le_refl _) (.cells #[.int .i64 key, .slice A l.length cap] 31)).alloc (by simp) (.cells #[.int .i64 key, .slice C l.length cap'] 31)).trans (b1.mono (by simp; omega)))
  clear b1
  go_wp2_with fail
  go_ret
  exact ⟨rfl, B1.out⟩

/-- Since world b nothing that was there has turned; the box p holds the argument, the box q its copy. -/
def TwoPlan (b : World) (p q : Nat) (cs ds : Array Value) (w : World) : Prop :=
  Below b.heap.size b w ∧ CellsAt w p 24 cs ∧ CellsAt w q 31 ds
/-- laws.toPlan once more, in a world that holds both boxes. -/
theorem toPlan_two (key : Int) (A G : Option Addr) (l : List Int) (cap : Nat) (b w : World) (p q : Nat) (hn : l.length ≤ 1048576) (hA : Ints b .i64 b.heap.size A l) (hG : Ints w .i64 w.heap.size G l)
    (h : TwoPlan b p q #[.int .i64 key, .slice A l.length cap] #[.int .i64 key, .slice G l.length l.length] w) :
    Calls Try.prog 6 #[.agg #[.int .i64 key, .slice A l.length cap]] w fun e w' => ∃ C, e = .returned (.agg #[.int .i64 key, .slice C l.length l.length]) ∧ Ints w' .i64 w'.heap.size C l ∧ Ints w' .i64 w'.heap.size G l ∧
      w'.cell? ⟨q, 0, none⟩ = some (.int .i64 key) ∧ w'.cell? ⟨q, 1, none⟩ = some (.slice G l.length l.length) ∧ Below b.heap.size b w' := by
  refine (toPlan_calls key A l cap w hn ((hA.below h.1 (Nat.le_refl _)).more h.1.size)).mono ?_
  rintro e w' ⟨C, rfl, hC, hb⟩
  have hq := h.2.2.below hb h.2.2.lt
  exact ⟨C, rfl, hC, (hG.below hb (Nat.le_refl _)).more hb.size, hq.cell 0, hq.cell 1, h.1.trans (hb.mono h.1.size)⟩

end Go.Proofs.Ythbkccagpggljaa.Mx

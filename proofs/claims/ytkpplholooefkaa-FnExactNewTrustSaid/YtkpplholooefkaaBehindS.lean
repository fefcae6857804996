/- CONTRACT OF spec.Behind: what it answers, at every argument; nothing that was there is written. -/
import Derived.Test.YtkpplholooefkaaTrustS
namespace Go.Proofs.Ytkpplholooefkaa.Mx
open Go.ChangeShapes Go.WideShapes Go.ChangeAt Go.RowKit
set_option linter.unusedVariables false

theorem IsRegion.up {l : List Int} {x r : Int} (h : IsRegion l x r) (hr : 0 ≤ r) : ∃ i : Nat, r = i ∧ i < l.length ∧ upTo l i ≤ x ∧ x < upTo l (i + 1) := by
  rcases h with ⟨i, hi, rfl, h0, h1⟩ | ⟨rfl, _⟩
  · exact ⟨i, rfl, hi, h0, h1⟩
  · omega
/-- Where a sector has a region: the plan is right, the region is one of it, the sector lies in it. -/
theorem regionOf_up {key x : Int} {l : List Int} (h : 0 ≤ regionOf key l x) : ∃ i : Nat, regionOf key l x = i ∧ i < l.length ∧ planOk key l ∧ 0 ≤ x ∧ upTo l i ≤ x ∧ x < upTo l (i + 1) := by
  by_cases hp : planOk key l ∧ 0 ≤ x
  · have hr : IsRegion l x (regionOf key l x) := by
      unfold regionOf; rw [if_pos hp]
      exact regionFrom_is l.length 0 (by omega) (by rw [upTo_zero]; exact hp.2)
    obtain ⟨i, e, hi, h0, h1⟩ := hr.up h
    exact ⟨i, e, hi, hp.1, hp.2, h0, h1⟩
  · rw [regionOf_no hp] at h; omega
theorem regionOf_bd (key x : Int) (l : List Int) : regionOf key l x = -1 ∨ (0 ≤ regionOf key l x ∧ regionOf key l x ≤ 3) := by
  by_cases h : 0 ≤ regionOf key l x
  · obtain ⟨i, e, hi, hp, _⟩ := regionOf_up h
    have := hp.2.1.2
    right; omega
  · left
    by_cases hp : planOk key l ∧ 0 ≤ x
    · have hr : IsRegion l x (regionOf key l x) := by
        unfold regionOf; rw [if_pos hp]
        exact regionFrom_is l.length 0 (by omega) (by rw [upTo_zero]; exact hp.2)
      rcases hr with ⟨i, hi, e, _⟩ | ⟨e, _⟩
      · omega
      · exact e
    · exact regionOf_no hp
/-- What chapter 7 asks of Behind: is the sector one that has been gone through? -/
noncomputable def behindB (key : Int) (l : List Int) (cursor x : Int) : Bool := decide (0 ≤ regionOf key l x) && decide (x - firstOf key l (regionOf key l x) < cursor)

set_option maxRecDepth 20000 in
set_option maxHeartbeats 2000000 in
/-- spec.Behind, at every argument. -/
theorem specBehind_calls (key x : Int) (A : Option Addr) (l : List Int) (cap : Nat) (t0 t1 t2 t3 t4 t5 t6 : Int) (t7 : Bool) (w : World) (hn : l.length ≤ maxLen) (hcap : l.length ≤ cap) (hA : Ints w .i64 w.heap.size A l) (hx : I64 x) :
    Calls Try.prog 19 #[.agg #[.int .i64 key, .slice A l.length cap], .agg #[.int .i64 t0, .int .i64 t1, .int .i64 t2, .int .i64 t3, .int .i64 t4, .int .i64 t5, .int .i64 t6, .bool t7], .int .i64 x] w fun e w' => e = .returned (.bool (behindB key l t2 x)) ∧ Below w.heap.size w w' := by
  have k0 := ((Kept.refl w).new 29 #[.int .i64 key, .slice A l.length cap]).new 31 #[.int .i64 t0, .int .i64 t1, .int .i64 t2, .int .i64 t3, .int .i64 t4, .int .i64 t5, .int .i64 t6, .bool t7]
  rw [show (w.alloc (.cells #[.int .i64 key, .slice A l.length cap] 29)).heap.size = w.heap.size + 1 by simp] at k0
  have R := Lib.hid (fun (u : World) (hb : Below w.heap.size w u) => specRegion_calls key x A l cap u hn hcap ((hA.below hb (Nat.le_refl _)).more hb.size))
  have F := Lib.hid (fun (u : World) (r : Int) (hb : Below w.heap.size w u) => specFirst_calls key r A l cap u hn hcap ((hA.below hb (Nat.le_refl _)).more hb.size))
  have K0 := Lib.hid k0
  clear hA hn k0
  unfold behindB
  by_cases hr : 0 ≤ regionOf key l x
  · obtain ⟨i, e, hi, hp, hx0, hu0, hu1⟩ := regionOf_up hr
    have hb := upTo_bd hp.2.2.1 (show i ≤ l.length by omega)
    rw [e] at R ⊢
    rw [firstOf_yes hp hi]
    have FI := Lib.hid (fun u hb => F.out u i hb)
    rw [firstOf_yes hp hi] at FI
    have hx1 := hx.2
    have hi0 : (0 : Int) ≤ i := by omega
    have hwr : IntKind.i64.wrap (x - upTo l i) = x - upTo l i := IntWalk.i64_in _ (by omega)
    rw [decide_eq_true hi0, Bool.true_and]
    generalize upTo l i = f at FI hwr
    clear hr e hp hu0 hu1 hb F hx hx0 hx1
    go_enter Try.func19, Try.ntmps19
    go_wp2_with fail
    refine (R.out _ K0.out.1).mono ?_; rintro e w1 ⟨rfl, b1⟩
    have k1 := (K0.out.below b1).drew
    have P1 := Lib.hid (fun (u : World) (h : Kept w [(w.heap.size + 1, 31, #[.int .i64 t0, .int .i64 t1, .int .i64 t2, .int .i64 t3, .int .i64 t4, .int .i64 t5, .int .i64 t6, .bool t7]), (w.heap.size, 29, #[.int .i64 key, .slice A l.length cap])] u) => (FI.out u h.1).mono (fun e w' ⟨he, hb⟩ => (⟨he, h.below hb⟩ : _ ∧ Kept w [(w.heap.size + 1, 31, #[.int .i64 t0, .int .i64 t1, .int .i64 t2, .int .i64 t3, .int .i64 t4, .int .i64 t5, .int .i64 t6, .bool t7]), (w.heap.size, 29, #[.int .i64 key, .slice A l.length cap])] w')))
    clear b1 R FI K0
    go_upto_region 2 with fail
    refine wp_region_class (C := fun u => Kept w [(w.heap.size + 1, 31, #[.int .i64 t0, .int .i64 t1, .int .i64 t2, .int .i64 t3, .int .i64 t4, .int .i64 t5, .int .i64 t6, .bool t7]), (w.heap.size, 29, #[.int .i64 key, .slice A l.length cap])] u) (by kernel_rfl) (by kernel_rfl) k1 ?_
    iterate 13 (first
      | go_big_quiet_skip
      | (go_big_quiet_want
         go_big_quiet_op
         first
           | go_big_quiet_on
           | (apply Exists.intro
              refine ⟨fun u hu => ?_, ?_⟩
              · first
                  | with_reducible rfl
                  | (go_at_call 30; exact P1.out u hu)
                  | (have e0 := hu.cell (p := w.heap.size) (t := 29) (cs := #[.int .i64 key, .slice A l.length cap]) (by simp) 0; have e1 := hu.cell (p := w.heap.size) (t := 29) (cs := #[.int .i64 key, .slice A l.length cap]) (by simp) 1; have e2 := hu.cell (p := w.heap.size + 1) (t := 31) (cs := #[.int .i64 t0, .int .i64 t1, .int .i64 t2, .int .i64 t3, .int .i64 t4, .int .i64 t5, .int .i64 t6, .bool t7]) (by simp) 2; simp only [List.getElem?_toArray, List.getElem?_cons_zero, List.getElem?_cons_succ] at e0 e1 e2; go_simp; first | done | with_reducible rfl)
              go_big_quiet_on)))
    refine wpQuiet_nil ?_
    intro wz hz
    go_wp2_with fail
    go_ret
    exact ⟨rfl, hz.1⟩
  · have hr' : regionOf key l x < 0 := by omega
    have hr2 : (regionOf key l x : Int) ≤ -1 := by omega
    have hd : decide (0 ≤ regionOf key l x) = false := decide_eq_false hr
    rw [hd, Bool.false_and]
    generalize regionOf key l x = r at R hd hr'
    clear hr hr2 hr' F
    go_enter Try.func19, Try.ntmps19
    go_wp2_with fail
    refine (R.out _ K0.out.1).mono ?_; rintro e w1 ⟨rfl, b1⟩
    have k1 := (K0.out.below b1).drew
    clear b1 R K0
    go_upto_region 2 with fail
    refine wp_region_class (C := fun u => Kept w [(w.heap.size + 1, 31, #[.int .i64 t0, .int .i64 t1, .int .i64 t2, .int .i64 t3, .int .i64 t4, .int .i64 t5, .int .i64 t6, .bool t7]), (w.heap.size, 29, #[.int .i64 key, .slice A l.length cap])] u) (by kernel_rfl) (by kernel_rfl) k1 ?_
    iterate 13 (first
      | go_big_quiet_skip
      | (go_big_quiet_want
         go_big_quiet_op
         first
           | go_big_quiet_on
           | (apply Exists.intro
              refine ⟨fun u hu => ?_, ?_⟩
              · first
                  | with_reducible rfl
                  | (have e0 := hu.cell (p := w.heap.size) (t := 29) (cs := #[.int .i64 key, .slice A l.length cap]) (by simp) 0; have e1 := hu.cell (p := w.heap.size) (t := 29) (cs := #[.int .i64 key, .slice A l.length cap]) (by simp) 1; have e2 := hu.cell (p := w.heap.size + 1) (t := 31) (cs := #[.int .i64 t0, .int .i64 t1, .int .i64 t2, .int .i64 t3, .int .i64 t4, .int .i64 t5, .int .i64 t6, .bool t7]) (by simp) 2; simp only [List.getElem?_toArray, List.getElem?_cons_zero, List.getElem?_cons_succ] at e0 e1 e2; go_simp; first | done | with_reducible rfl)
              go_big_quiet_on)))
    refine wpQuiet_nil ?_
    intro wz hz
    go_wp2_with fail
    go_ret
    exact ⟨rfl, hz.1⟩
end Go.Proofs.Ytkpplholooefkaa.Mx

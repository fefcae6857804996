/- CONTRACTS OF impl.PlanOk, SectorsOf, RegionOf, FirstOf: what each call answers, at every plan; nothing that was there is written. -/
import Derived.Test.YthbkccagpggljaaPlanA
namespace Go.Proofs.Ythbkccagpggljaa.Mx
open Go.ChangeShapes Go.WideShapes Go.ChangeAt Go.RowKit
set_option linter.unusedVariables false

open Classical in
noncomputable def okB (key : Int) (l : List Int) : Bool := decide (planOk key l)
open Classical in
theorem okB_yes {key : Int} {l : List Int} (h : planOk key l) : okB key l = true := by unfold okB; exact decide_eq_true h
open Classical in
theorem okB_no {key : Int} {l : List Int} (h : ¬ planOk key l) : okB key l = false := by unfold okB; exact decide_eq_false h
theorem wrap_len (n : Nat) (h : n ≤ maxLen) : IntKind.i64.wrap (n : Int) = n := by unfold maxLen at h; exact IntWalk.i64_in _ (by omega)

/-- The plan's box, one block above what was there. -/
theorem box_below (w : World) (o : Obj) : Below w.heap.size w (w.alloc o) := (Below.refl _ _).alloc (Nat.le_refl _) _
theorem Ints.boxed {w : World} {k : IntKind} {A : Option Addr} {l : List Int} (h : Ints w k w.heap.size A l) (o : Obj) : Ints (w.alloc o) k (w.alloc o).heap.size A l := (h.below (box_below w o) (Nat.le_refl _)).more (by simp)

/-- impl.PlanOk, at every plan. -/
theorem planOk_calls (key : Int) (A : Option Addr) (l : List Int) (cap : Nat) (w : World) (hn : l.length ≤ maxLen) (hcap : l.length ≤ cap) (hA : Ints w .i64 w.heap.size A l) :
    Calls Try.prog 42 #[.agg #[.int .i64 key, .slice A l.length cap]] w fun e w' => e = .returned (.bool (okB key l)) ∧ Below w.heap.size w w' := by
  have hm := hn
  unfold maxLen at hm
  by_cases hk : 1 ≤ key ∧ key ≤ 1000000
  · have C := Lib.hid (fun w => isKey_yes key w hk.1 hk.2)
    by_cases h1 : 1 ≤ l.length
    · by_cases h4 : l.length ≤ 4
      · have g1 : ¬ (l.length : Int) < 1 := by omega
        have g4 : ¬ (4 : Int) < l.length := by omega
        by_cases hc : CountsOk l
        · have D := Lib.hid (fun B w hA => contains_none A l cap B w hn hA hc)
          have E := Lib.hid (fun w hA => sectors_calls key A l cap w h4 hcap hA hc h1)
          have HA := Lib.hid (hA.boxed (.cells #[.int .i64 key, .slice A l.length cap] 31))
          have hB : okB key l = decide (upTo l l.length ≤ 24) := by
            by_cases h : upTo l l.length ≤ 24
            · rw [okB_yes ⟨hk, ⟨h1, h4⟩, hc, h⟩, decide_eq_true h]
            · rw [okB_no (fun h' => h h'.2.2.2), decide_eq_false h]
          rw [hB]
          clear hA hc hk hB hn
          generalize upTo l l.length = s at E
          go_enter Try.func42, Try.ntmps42
          go_wp2_with fail
          refine (C.out _).mono ?_; rintro e w' ⟨rfl, rfl⟩
          go_wp2_with fail
          refine (D.out _ _ HA.out).mono ?_; rintro e w' ⟨rfl, rfl⟩
          go_wp2_with fail
          refine (E.out _ HA.out).mono ?_; rintro e w1 ⟨rfl, b1⟩
          have B1 := Lib.hid ((box_below w _).trans (b1.mono (by simp)))
          clear b1
          go_wp2_with fail
          go_ret
          exact ⟨rfl, B1.out⟩
        · have D := Lib.hid (fun B w hA => contains_some A l cap B w hn hA hc)
          have HA := Lib.hid (hA.boxed (.cells #[.int .i64 key, .slice A l.length cap] 31))
          rw [okB_no (fun h' => hc h'.2.2.1)]
          clear hA hc hk hn
          go_enter Try.func42, Try.ntmps42
          go_wp2_with fail
          refine (C.out _).mono ?_; rintro e w' ⟨rfl, rfl⟩
          go_wp2_with fail
          refine (D.out _ _ HA.out).mono ?_; rintro e w' ⟨rfl, rfl⟩
          go_wp2_with fail
          go_ret
          exact ⟨rfl, box_below w _⟩
      · have g1 : ¬ (l.length : Int) < 1 := by omega
        have g4 : (4 : Int) < l.length := by omega
        rw [okB_no (fun h' => h4 h'.2.1.2)]
        clear hA hk hn
        go_enter Try.func42, Try.ntmps42
        go_wp2_with fail
        refine (C.out _).mono ?_; rintro e w' ⟨rfl, rfl⟩
        go_wp2_with fail
        go_ret
        exact ⟨rfl, box_below w _⟩
    · have g1 : (l.length : Int) < 1 := by omega
      rw [okB_no (fun h' => h1 h'.2.1.1)]
      clear hA hk hn
      go_enter Try.func42, Try.ntmps42
      go_wp2_with fail
      refine (C.out _).mono ?_; rintro e w' ⟨rfl, rfl⟩
      go_wp2_with fail
      go_ret
      exact ⟨rfl, box_below w _⟩
  · have C := Lib.hid (fun w => isKey_no key w (by omega))
    rw [okB_no (fun h' => hk h'.1)]
    clear hA hk hn
    go_enter Try.func42, Try.ntmps42
    go_wp2_with fail
    refine (C.out _).mono ?_; rintro e w' ⟨rfl, rfl⟩
    go_wp2_with fail
    go_ret
    exact ⟨rfl, box_below w _⟩

/-- Plan.asked, of a plan that is not right. -/
theorem asked_no (key x : Int) (f : Value) (A : Option Addr) (l : List Int) (cap : Nat) (w : World) (hn : l.length ≤ maxLen) (hcap : l.length ≤ cap) (hA : Ints w .i64 w.heap.size A l) (hp : ¬ planOk key l) :
    Calls Try.prog 34 #[.agg #[.int .i64 key, .slice A l.length cap], f, .int .i64 x] w fun e w' => e = .returned (.int .i64 (-1)) ∧ Below w.heap.size w w' := by
  have C := Lib.hid (fun w hA => planOk_calls key A l cap w hn hcap hA)
  have HA := Lib.hid (hA.boxed (.cells #[.int .i64 key, .slice A l.length cap] 31))
  rw [okB_no hp] at C
  clear hA hp
  go_enter Try.func34, Try.ntmps34
  go_wp2_with fail
  refine (C.out _ HA.out).mono ?_; rintro e w1 ⟨rfl, b1⟩
  have B1 := Lib.hid ((box_below w _).trans (b1.mono (by simp)))
  clear b1
  go_wp2_with fail
  go_ret
  exact ⟨rfl, B1.out⟩
/-- Plan.first, of a right plan, at every number. -/
theorem first_right (key x : Int) (A : Option Addr) (l : List Int) (cap : Nat) (w : World) (hcap : l.length ≤ cap) (hA : Ints w .i64 w.heap.size A l) (hp : planOk key l) :
    Calls Try.prog 35 #[.agg #[.int .i64 key, .slice A l.length cap], .int .i64 x] w fun e w' => e = .returned (.int .i64 (firstOf key l x)) ∧ Below w.heap.size w w' := by
  by_cases h : 0 ≤ x ∧ x < l.length
  · obtain ⟨r, rfl⟩ : ∃ r : Nat, x = r := ⟨x.toNat, by omega⟩
    rw [firstOf_yes hp (by omega)]
    exact first_yes key A l cap r w hp.2.1.2 hcap hA hp.2.2.1 (by omega)
  · rw [firstOf_no (fun h' => h h'.2)]
    exact first_no key x A l.length cap w (by omega) hp.2.1.2

/-- Plan.asked, of a right plan, at its method first. -/
theorem asked_first (key x : Int) (A : Option Addr) (l : List Int) (cap : Nat) (w : World) (hn : l.length ≤ maxLen) (hcap : l.length ≤ cap) (hA : Ints w .i64 w.heap.size A l) (hp : planOk key l) :
    Calls Try.prog 34 #[.agg #[.int .i64 key, .slice A l.length cap], .func (.func 35) #[.agg #[.int .i64 key, .slice A l.length cap]] #[], .int .i64 x] w fun e w' => e = .returned (.int .i64 (firstOf key l x)) ∧ Below w.heap.size w w' := by
  have C := Lib.hid (fun w hA => planOk_calls key A l cap w hn hcap hA)
  have D := Lib.hid (fun w hA => first_right key x A l cap w hcap hA hp)
  have HA := Lib.hid (hA.boxed (.cells #[.int .i64 key, .slice A l.length cap] 31))
  rw [okB_yes hp] at C
  clear hA hp
  generalize firstOf key l x = y at D
  go_enter Try.func34, Try.ntmps34
  go_wp2_with fail
  refine (C.out _ HA.out).mono ?_; rintro e w1 ⟨rfl, b1⟩
  have H1 := Lib.hid ((HA.out.below b1 (Nat.le_refl _)).more b1.size)
  have B1 := Lib.hid ((box_below w _).trans (b1.mono (by simp)))
  clear b1
  go_wp2_with fail
  refine (D.out _ H1.out).mono ?_; rintro e w2 ⟨rfl, b2⟩
  have B2 := Lib.hid (B1.out.trans (b2.mono B1.out.size))
  clear b2
  go_wp2_with fail
  go_ret
  exact ⟨rfl, B2.out⟩

/-- impl.FirstOf, at every plan and every number. -/
theorem firstOf_calls (key x : Int) (A : Option Addr) (l : List Int) (cap : Nat) (w : World) (hn : l.length ≤ maxLen) (hcap : l.length ≤ cap) (hA : Ints w .i64 w.heap.size A l) :
    Calls Try.prog 20 #[.agg #[.int .i64 key, .slice A l.length cap], .int .i64 x] w fun e w' => e = .returned (.int .i64 (firstOf key l x)) ∧ Below w.heap.size w w' := by
  have hmf : ∀ (fn : Fn) (first cap : Array Value) (w : World), (Instr.makeFunc fn first cap).run Try.prog w = .ok (.func fn first cap) w := fun _ _ _ _ => rfl
  have C0 : (∀ w, Ints w .i64 w.heap.size A l → Calls Try.prog 34 #[.agg #[.int .i64 key, .slice A l.length cap], .func (.func 35) #[.agg #[.int .i64 key, .slice A l.length cap]] #[], .int .i64 x] w fun e w' => e = .returned (.int .i64 (firstOf key l x)) ∧ Below w.heap.size w w') := by
    intro w hA
    by_cases hp : planOk key l
    · exact asked_first key x A l cap w hn hcap hA hp
    · rw [firstOf_no (fun h => hp h.1)]; exact asked_no key x _ A l cap w hn hcap hA hp
  have C := Lib.hid C0
  clear C0
  have HA := Lib.hid (hA.boxed (.cells #[.int .i64 key, .slice A l.length cap] 31))
  clear hA
  generalize firstOf key l x = y at C
  go_enter Try.func20, Try.ntmps20
  go_wp2_with fail
  refine (C.out _ HA.out).mono ?_; rintro e w1 ⟨rfl, b1⟩
  have B1 := Lib.hid ((box_below w _).trans (b1.mono (by simp)))
  clear b1
  go_wp2_with fail
  go_ret
  exact ⟨rfl, B1.out⟩
end Go.Proofs.Ythbkccagpggljaa.Mx

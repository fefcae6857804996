/- CONTRACTS OF impl.isNoCount, slices.IndexFunc and ContainsFunc with it, Plan.ahead, Plan.sectors, Plan.region, Plan.first: what each call answers; nothing that was there is written. -/
import Derived.Test.YthbkccagpggljaaPlanNum
import Derived.Test.YthbkccagpggljaaMixC
import Derived.Test.YthbkccagpggljaaStreamA
namespace Go.Proofs.Ythbkccagpggljaa.Mx
open Go.ChangeShapes Go.WideShapes Go.ChangeAt Go.RowKit
set_option linter.unusedVariables false

theorem isNoCount_no (c : Int) (w : World) (h0 : 1 ≤ c) (h1 : c ≤ 8) :
    Calls Try.prog 48 #[.int .i64 c] w fun e w' => e = .returned (.bool false) ∧ w = w' := by
  have h2 : ¬ c < 1 := by omega
  have h3 : ¬ 8 < c := by omega
  clear h0 h1
  go_enter Try.func48, Try.ntmps48
  go_wp2
  go_ret
  exact ⟨rfl, rfl⟩
theorem isNoCount_yes (c : Int) (w : World) (h : c < 1 ∨ 8 < c) :
    Calls Try.prog 48 #[.int .i64 c] w fun e w' => e = .returned (.bool true) ∧ w = w' := by
  by_cases h0 : c < 1
  · clear h
    go_enter Try.func48, Try.ntmps48
    go_wp2
    go_ret
    exact ⟨rfl, rfl⟩
  · have h1 : 8 < c := by omega
    clear h
    go_enter Try.func48, Try.ntmps48
    go_wp2
    go_ret
    exact ⟨rfl, rfl⟩

theorem not_counts {l : List Int} (h : ¬ CountsOk l) : ∃ i, i < l.length ∧ (l.getD i 0 < 1 ∨ 8 < l.getD i 0) := by
  refine Classical.byContradiction fun hn => h fun i hi => ?_
  refine Classical.byContradiction fun hc => hn ⟨i, hi, by omega⟩

theorem index_none (A : Option Addr) (l : List Int) (cap B : Nat) (w : World) (hn : l.length ≤ maxLen) (hA : Ints w .i64 B A l) (hf : CountsOk l) :
    Calls Try.prog 55 #[.slice A l.length cap, .func (.func 48) #[] #[]] w fun e w' => e = .returned (.int .i64 (-1)) ∧ w = w' := by
  unfold maxLen at hn
  have C := Lib.hid (fun c w (h : 1 ≤ c ∧ c ≤ 8) => isNoCount_no c w h.1 h.2)
  go_enter Try.func55, Try.ntmps55
  go_wp2
  go_loop [8] (fun i => ∃ k : Nat, k ≤ l.length ∧ i = .int .i64 k) (fun i => l.length - (intOf i).toNat)
  case atStart => exact ⟨0, Nat.zero_le _, rfl⟩
  case round =>
    obtain ⟨k, hk, rfl⟩ := hrel
    by_cases hlt : k < l.length
    · obtain ⟨b, off, rfl, hb, hc⟩ := hA k hlt
      have hv := Lib.hid (hf k hlt)
      generalize l.getD k 0 = v at hc hv
      clear hA hf
      go_wp2_with fail
      refine (C.out _ _ hv.out).mono ?_; rintro e w' ⟨rfl, rfl⟩
      go_wp2_with fail
      go_round
      case rel => exact ⟨k + 1, by omega, by go_num⟩
      case measure => simp [intOf]; omega
    · clear hA hf
      go_wp2
      go_ret
      exact ⟨rfl, rfl⟩

theorem index_some (A : Option Addr) (l : List Int) (cap B : Nat) (w : World) (hn : l.length ≤ maxLen) (hA : Ints w .i64 B A l) (hf : ¬ CountsOk l) :
    Calls Try.prog 55 #[.slice A l.length cap, .func (.func 48) #[] #[]] w fun e w' => ∃ i : Nat, e = .returned (.int .i64 i) ∧ i < maxLen ∧ w = w' := by
  unfold maxLen at *
  obtain ⟨j, hj, hjv⟩ := not_counts hf
  clear hf
  have C := Lib.hid (fun c w (h : 1 ≤ c ∧ c ≤ 8) => isNoCount_no c w h.1 h.2)
  have D := Lib.hid (fun c w (h : c < 1 ∨ 8 < c) => isNoCount_yes c w h)
  have HJ := Lib.hid hjv
  clear hjv
  go_enter Try.func55, Try.ntmps55
  go_wp2
  go_loop [8] (fun i => ∃ k : Nat, k ≤ j ∧ i = .int .i64 k) (fun i => l.length - (intOf i).toNat)
  case atStart => exact ⟨0, Nat.zero_le _, rfl⟩
  case round =>
    obtain ⟨k, hk, rfl⟩ := hrel
    have hlt : k < l.length := by omega
    obtain ⟨b, off, rfl, hb, hc⟩ := hA k hlt
    clear hA
    by_cases hbad : l.getD k 0 < 1 ∨ 8 < l.getD k 0
    · have hv := Lib.hid hbad
      clear hbad HJ
      generalize l.getD k 0 = v at hc hv
      go_wp2_with fail
      refine (D.out _ _ hv.out).mono ?_; rintro e w' ⟨rfl, rfl⟩
      go_wp2_with fail
      go_ret
      exact ⟨k, rfl, by omega, rfl⟩
    · have hkj : k < j := by
        rcases Nat.lt_or_ge k j with h | h
        · exact h
        · obtain rfl : k = j := by omega
          exact absurd HJ.out hbad
      have hv := Lib.hid (show 1 ≤ l.getD k 0 ∧ l.getD k 0 ≤ 8 by omega)
      clear hbad HJ
      generalize l.getD k 0 = v at hc hv
      go_wp2_with fail
      refine (C.out _ _ hv.out).mono ?_; rintro e w' ⟨rfl, rfl⟩
      go_wp2_with fail
      go_round
      case rel => exact ⟨k + 1, by omega, by go_num⟩
      case measure => simp [intOf]; omega

theorem contains_none (A : Option Addr) (l : List Int) (cap B : Nat) (w : World) (hn : l.length ≤ maxLen) (hA : Ints w .i64 B A l) (hf : CountsOk l) :
    Calls Try.prog 47 #[.slice A l.length cap, .func (.func 48) #[] #[]] w fun e w' => e = .returned (.bool false) ∧ w = w' := by
  have C := Lib.hid (index_none A l cap B w hn hA hf)
  clear hA hf
  unfold maxLen at hn
  go_enter Try.func47, Try.ntmps47
  go_wp2_with fail
  refine C.out.mono ?_; rintro e w' ⟨rfl, rfl⟩
  go_wp2_with fail
  go_ret
  exact ⟨rfl, rfl⟩
theorem contains_some (A : Option Addr) (l : List Int) (cap B : Nat) (w : World) (hn : l.length ≤ maxLen) (hA : Ints w .i64 B A l) (hf : ¬ CountsOk l) :
    Calls Try.prog 47 #[.slice A l.length cap, .func (.func 48) #[] #[]] w fun e w' => e = .returned (.bool true) ∧ w = w' := by
  have C := Lib.hid (index_some A l cap B w hn hA hf)
  clear hA hf
  unfold maxLen at hn
  go_enter Try.func47, Try.ntmps47
  go_wp2_with fail
  refine C.out.mono ?_; rintro e w' ⟨i, rfl, hi, rfl⟩
  unfold maxLen at hi
  have h0 : (0 : Int) ≤ i := by omega
  go_wp2_with fail
  go_ret
  exact ⟨rfl, rfl⟩

theorem Ints.take {w : World} {k : IntKind} {B : Nat} {A : Option Addr} {l : List Int} (h : Ints w k B A l) (n : Nat) : Ints w k B A (l.take n) := by
  intro i hi
  rw [List.length_take] at hi
  obtain ⟨b, off, rfl, hb, hc⟩ := h i (by omega)
  refine ⟨b, off, rfl, hb, ?_⟩
  rw [hc, List.getD_eq_getElem?_getD, List.getD_eq_getElem?_getD, List.getElem?_take_of_lt (by omega)]

/-- Plan.ahead: how many sectors the first r regions have. -/
theorem ahead_calls (key : Int) (A : Option Addr) (l : List Int) (cap r : Nat) (w : World) (hl : l.length ≤ 4) (hcap : l.length ≤ cap) (hA : Ints w .i64 w.heap.size A l) (hc : CountsOk l) (hr : r ≤ l.length) (hr0 : 0 < l.length) :
    Calls Try.prog 43 #[.agg #[.int .i64 key, .slice A l.length cap], .int .i64 r] w fun e w' => e = .returned (.int .i64 (upTo l r)) ∧ Below w.heap.size w w' := by
  have HA := Lib.hid hA
  have HC := Lib.hid hc
  obtain ⟨b0, off0, rfl, hb0, _⟩ := hA 0 hr0
  clear hA hc
  go_enter Try.func43, Try.ntmps43
  go_wp2
  go_loopw [5, 13] (fun s i wr => ∃ k : Nat, k ≤ r ∧ i = .int .i64 k ∧ s = .int .i64 (upTo l k) ∧ Below w.heap.size w wr) (fun _ i _ => r - (intOf i).toNat)
  case atStart => exact ⟨0, Nat.zero_le _, rfl, by rw [upTo_zero], (Below.refl _ _).alloc (Nat.le_refl _) _⟩
  case round =>
    obtain ⟨k, hk, rfl, rfl, hbel⟩ := hrel
    have HB := Lib.hid hbel
    clear hbel
    by_cases hlt : k < r
    · obtain ⟨b, off, e1, hb, hc⟩ := (HA.out.below HB.out (Nat.le_refl _)) k (by omega)
      injection e1 with e1
      injection e1 with e1 e2 e3
      subst e1 e2
      have hlt' : (k : Int) < r := by omega
      have hk0 : (0 : Int) ≤ k := by omega
      have HS := Lib.hid (upTo_succ l (show k < l.length by omega))
      have hv := HC.out k (by omega)
      have hu := upTo_bd HC.out (show k ≤ l.length by omega)
      generalize l.getD k 0 = v at hc hv HS
      generalize upTo l k = s at HS hu
      obtain ⟨v0, v1⟩ := hv
      obtain ⟨u0, u1⟩ := hu
      go_wp2
      go_roundw
      case rel => exact ⟨k + 1, by omega, by go_num, by rw [HS.out], HB.out⟩
      case measure => simp [intOf]; omega
    · obtain rfl : k = r := by omega
      go_wp2
      go_ret
      exact ⟨rfl, HB.out⟩

/-- Plan.sectors: all of them. -/
theorem sectors_calls (key : Int) (A : Option Addr) (l : List Int) (cap : Nat) (w : World) (hl : l.length ≤ 4) (hcap : l.length ≤ cap) (hA : Ints w .i64 w.heap.size A l) (hc : CountsOk l) (hr0 : 0 < l.length) :
    Calls Try.prog 49 #[.agg #[.int .i64 key, .slice A l.length cap]] w fun e w' => e = .returned (.int .i64 (upTo l l.length)) ∧ Below w.heap.size w w' := by
  have HA := Lib.hid hA
  have C := Lib.hid (fun w hA => ahead_calls key A l cap l.length w hl hcap hA hc (Nat.le_refl _) hr0)
  clear hA hc
  go_enter Try.func49, Try.ntmps49
  go_wp2_with fail
  refine (C.out _ ((HA.out.below ((Below.refl _ _).alloc (Nat.le_refl _) _) (Nat.le_refl _)).more (by simp))).mono ?_; rintro e w1 ⟨rfl, b1⟩
  have B1 := Lib.hid (((Below.refl w.heap.size w).alloc (Nat.le_refl _) _).trans (b1.mono (by simp)))
  clear b1 C
  go_wp2_with fail
  go_ret
  exact ⟨rfl, B1.out⟩

/-- Plan.first, of a right plan: how many sectors lie ahead of the region; -1 where there is none. -/
theorem first_yes (key : Int) (A : Option Addr) (l : List Int) (cap r : Nat) (w : World) (hl : l.length ≤ 4) (hcap : l.length ≤ cap) (hA : Ints w .i64 w.heap.size A l) (hc : CountsOk l) (hr : r < l.length) :
    Calls Try.prog 35 #[.agg #[.int .i64 key, .slice A l.length cap], .int .i64 r] w fun e w' => e = .returned (.int .i64 (upTo l r)) ∧ Below w.heap.size w w' := by
  have HA := Lib.hid hA
  have C := Lib.hid (fun w hA => ahead_calls key A l cap r w hl hcap hA hc (by omega) (by omega))
  have h0 : ¬ (r : Int) < 0 := by omega
  have h1 : ¬ (l.length : Int) ≤ r := by omega
  clear hA hc
  go_enter Try.func35, Try.ntmps35
  go_wp2_with fail
  refine (C.out _ ((HA.out.below ((Below.refl _ _).alloc (Nat.le_refl _) _) (Nat.le_refl _)).more (by simp))).mono ?_; rintro e w1 ⟨rfl, b1⟩
  have B1 := Lib.hid (((Below.refl w.heap.size w).alloc (Nat.le_refl _) _).trans (b1.mono (by simp)))
  clear b1 C
  go_wp2_with fail
  go_ret
  exact ⟨rfl, B1.out⟩
theorem first_no (key r : Int) (A : Option Addr) (n cap : Nat) (w : World) (hr : r < 0 ∨ n ≤ r) (hn : n ≤ 4) :
    Calls Try.prog 35 #[.agg #[.int .i64 key, .slice A n cap], .int .i64 r] w fun e w' => e = .returned (.int .i64 (-1)) ∧ Below w.heap.size w w' := by
  by_cases h0 : r < 0
  · clear hr
    go_enter Try.func35, Try.ntmps35
    go_wp2_with fail
    go_ret
    exact ⟨rfl, (Below.refl _ _).alloc (Nat.le_refl _) _⟩
  · have h1 : (n : Int) ≤ r := by omega
    clear hr
    go_enter Try.func35, Try.ntmps35
    go_wp2_with fail
    go_ret
    exact ⟨rfl, (Below.refl _ _).alloc (Nat.le_refl _) _⟩

end Go.Proofs.Ythbkccagpggljaa.Mx
